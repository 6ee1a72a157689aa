/- Parts. -/
import Derived.Laws.EntriesVeiled
import Derived.Test.YtajjakljheafjaaGreatK20
import Derived.Test.YtajjakljheafjaaGreatK21
set_option maxRecDepth 100000
namespace Go.Proofs.YtajjakljheafjaaGreat
open Go.RowKit
/-- A plan. -/
structure Pn where
  call : Int
  key : ByteArray
  tok : ByteArray
  value : ByteArray
  n : Int
  own : Int
  wk : Int
  wkey : ByteArray
  ws : Int
  wp : Int
  sh : Option Nat
  te : En
  lv : Int
  seen : Int
  th : Option Nat
  ha : Option Addr
  hits : List En
  hc : Nat
  more : Bool
  right : Int
  old : En
  item : ByteArray
  err : Int
  found : Bool
  val : ByteArray
  ra : Option Addr
  rows : List (ByteArray × ByteArray)
  rc : Nat
/-- A step: none, or a method of the plan in block p. -/
def fv (p : Nat) : Option Nat → Value
  | none => .nilFunc
  | some n => .func (.func n) #[.pointer (some ⟨p, 0, none⟩)] #[]
/-- Its cells. -/
def Pn.cl (P : Pn) (p : Nat) : List Value :=
  [.int .u8 P.call, .string P.key, .string P.tok, .string P.value, .int .i64 P.n, .int .i64 P.own, .int .i64 P.wk, .string P.wkey, .int .i64 P.ws, .int .i64 P.wp, fv p P.sh, .string P.te.key, .int .i64 P.te.page, .int .i64 P.te.slot, .int .i64 P.lv, .int .i64 P.seen, fv p P.th,
   .slice P.ha P.hits.length P.hc, .bool P.more, .int .i64 P.right, .string P.old.key, .int .i64 P.old.page, .int .i64 P.old.slot, .string P.item, .int .i64 P.err, .bool P.found, .string P.val, .slice P.ra P.rows.length P.rc]
/-- A block's cells, none of them frozen. -/
structure Cb (w : World) (b : Nat) (vs : List Value) : Prop where
  c : ∀ i v, vs[i]? = some v → w.cell? ⟨b, i, none⟩ = some v
  f : ∀ i, w.frozen? ⟨b, i, none⟩ = false
  lt : b < w.heap.size
theorem Cb.kept {S : Nat → Prop} {w w' : World} {b : Nat} {vs : List Value} (h : Cb w b vs) (ho : Only S w w') (hS : ¬ S b) : Cb w' b vs :=
  ⟨fun i v hv => (ho.cell (p := ⟨b, i, none⟩) h.lt hS).trans (h.c i v hv), fun i => (ho.frozen (p := ⟨b, i, none⟩) h.lt hS).trans (h.f i), Nat.lt_of_lt_of_le h.lt ho.size⟩
theorem Cb.more {w w' : World} {b : Nat} {vs : List Value} (h : Cb w b vs) (ho : Only (fun _ => False) w w') : Cb w' b vs := h.kept ho id
theorem Cb.new (w : World) (vs : List Value) (ty : TypeId) : Cb (w.alloc (.cells vs.toArray ty)) w.heap.size vs := by
  refine ⟨fun i v hv => ?_, fun i => ?_, by simp⟩
  · simp only [World.cell?, World.alloc]
    simpa using hv
  · have : (w.alloc (.cells vs.toArray ty)).heap[w.heap.size]? = some (.cells vs.toArray ty (0, 0)) := heap_alloc_new w _
    unfold World.frozen?
    simp only
    rw [this]
    simp
theorem Cb.set {w : World} {b : Nat} {vs : List Value} (h : Cb w b vs) (i : Nat) (u : Value) : Cb (w.setCell ⟨b, i, none⟩ u) b (vs.set i u) := by
  refine ⟨fun j v hv => ?_, fun j => by rw [World.frozen?_setCell]; exact h.f j, by simpa [World.setCell] using h.lt⟩
  by_cases e : j = i
  · subst e
    rw [List.getElem?_set] at hv
    simp only [if_true] at hv
    split at hv
    · rename_i hj
      cases hv
      exact World.cell?_setCell_same _ _ _ (h.c j vs[j] (by simp [hj]))
    · cases hv
  · rw [List.getElem?_set_ne (Ne.symm e)] at hv
    exact (World.cell?_setCell_other _ _ _ _ (by intro e2; injection e2; omega)).trans (h.c j v hv)
theorem Cb.rg {w : World} {b : Nat} {vs : List Value} (h : Cb w b vs) : Rg w b 0 vs :=
  ⟨fun j v hv => by rw [Nat.zero_add]; exact h.c j v hv, fun j hj => by rw [Nat.zero_add]; exact ⟨by rw [h.c j _ (List.getElem?_eq_getElem hj)]; rfl, h.f j⟩, h.lt⟩
/-- Cells written over from a place on. -/
theorem Cb.sets {w : World} {b : Nat} {c1 c2 c3 : List Value} (h : Cb w b (c1 ++ c2 ++ c3)) (ds : List Value) (hl : ds.length = c2.length) : Cb (w.setCells b c1.length ds) b (c1 ++ ds ++ c3) := by
  have q := h.rg.put ds hl
  rw [Nat.zero_add] at q
  refine ⟨fun i v hv => ?_, fun i => by rw [setCells_frozen]; exact h.f i, by rw [setCells_size]; exact h.lt⟩
  have := q.range i v hv
  rwa [Nat.zero_add] at this
theorem Only.put (w : World) (b i : Nat) (u : Value) : Only (fun k => k = b) w (w.setCell ⟨b, i, none⟩ u) := Only.setCell w ⟨b, i, none⟩ u rfl
theorem Only.puts {b : Nat} {w w1 : World} (h : Only (fun k => k = b) w w1) (i : Nat) (u : Value) : Only (fun k => k = b) w (w1.setCell ⟨b, i, none⟩ u) := h.trans (Only.put w1 b i u) (fun _ _ h => h)
/-- The block that a plan's rows have. -/
def Pn.rb (P : Pn) : Option Nat := (Value.slice P.ra P.rows.length P.rc).ownBlock
/-- A plan in memory: in block p, with its lists in blocks Z, apart from one another. -/
structure Pm (w : World) (Z : Nat → Prop) (p : Nat) (P : Pn) : Prop where
  cb : Cb w p (P.cl p)
  zp : Z p
  zlt : ∀ b, Z b → b < w.heap.size
  rows : RowsAt w 0 (.slice P.ra P.rows.length P.rc) P.rows
  rz : ∀ k, P.rb = some k → Z k ∧ k ≠ p
  hits : ∃ B, Els w B P.ha P.hits ∧ (0 < P.hits.length → Z B ∧ B ≠ p ∧ P.rb ≠ some B)
/-- Other blocks are written. -/
theorem Pm.kept {S Z : Nat → Prop} {w w' : World} {p : Nat} {P : Pn} (h : Pm w Z p P) (ho : Only S w w') (hS : ∀ k, Z k → ¬ S k) : Pm w' Z p P := by
  obtain ⟨B, h1, h2⟩ := h.hits
  exact ⟨h.cb.kept ho (hS p h.zp), h.zp, fun b hb => Nat.lt_of_lt_of_le (h.zlt b hb) ho.size, h.rows.kept ho (fun k hk => hS k (h.rz k hk).1), h.rz, B, h1.kept ho (fun q => hS B (h2 q).1), h2⟩
theorem Pm.more {Z : Nat → Prop} {w w' : World} {p : Nat} {P : Pn} (h : Pm w Z p P) (ho : Only (fun _ => False) w w') : Pm w' Z p P := h.kept ho (fun _ _ e => e)
/-- A block of another's is written. -/
theorem Pm.late {Z : Nat → Prop} {w w' : World} {p b : Nat} {P : Pn} (h : Pm w Z p P) (ho : Only (fun k => k = b) w w') (hb : ¬ Z b) : Pm w' Z p P := h.kept ho (fun k hk e => hb (by rw [← e]; exact hk))
/-- Cells of the plan's own block are written, its lists stay. -/
theorem Pm.mod {Z : Nat → Prop} {w w' : World} {p : Nat} {P Q : Pn} (h : Pm w Z p P) (ho : Only (fun k => k = p) w w') (hc : Cb w' p (Q.cl p))
    (hr : Q.ra = P.ra ∧ Q.rows = P.rows ∧ Q.rc = P.rc) (hh : Q.ha = P.ha ∧ Q.hits = P.hits) : Pm w' Z p Q := by
  obtain ⟨B, h1, h2⟩ := h.hits
  obtain ⟨r1, r2, r3⟩ := hr
  obtain ⟨e1, e2⟩ := hh
  have rb : Q.rb = P.rb := by unfold Pn.rb; rw [r1, r2, r3]
  refine ⟨hc, h.zp, fun b hb => Nat.lt_of_lt_of_le (h.zlt b hb) ho.size, ?_, ?_, B, ?_, ?_⟩
  · rw [r1, r2, r3]
    exact h.rows.kept ho (fun k hk e => (h.rz k hk).2 e)
  · rw [rb]; exact h.rz
  · rw [e1, e2]
    exact h1.kept ho (fun q e => (h2 q).2.1 e)
  · rw [e2, rb]; exact h2
/-- What a call leaves: the plan, in blocks that it had or that are new; nothing else is changed. -/
def PQ (w w' : World) (Z : Nat → Prop) (p : Nat) (P : Pn) : Prop := ∃ Z', (∀ b, b < w.heap.size → Z' b → Z b) ∧ Pm w' Z' p P ∧ Only Z w w'
/-- A plan that has ended with a reply. -/
def Pn.over (err : Int) (found : Bool) (val : ByteArray) (ra : Option Addr) (rows : List (ByteArray × ByteArray)) (rc : Nat) : Pn :=
  ⟨0, ⟨#[]⟩, ⟨#[]⟩, ⟨#[]⟩, 0, 0, 4, ⟨#[]⟩, 0, 0, none, noE, 0, 0, none, none, [], 0, false, 0, noE, ⟨#[]⟩, err, found, val, ra, rows, rc⟩
/-- It wants a page, with which f is done. -/
def Pn.see (P : Pn) (page : Int) (f : Nat) : Pn := { P with wk := 3, wkey := ⟨#[]⟩, ws := 0, wp := page, sh := some f }
set_option maxRecDepth 100000 in
set_option maxHeartbeats 800000 in
theorem see_any (w : World) (Z : Nat → Prop) (p : Nat) (P : Pn) (h : Pm w Z p P) (page : Int) (f : Nat) :
    Calls Tryz.prog 35 #[.pointer (some ⟨p, 0, none⟩), .int .i64 page, .func (.func f) #[.pointer (some ⟨p, 0, none⟩)] #[]] w fun e w' => e = .returned (.tuple #[]) ∧ Pm w' Z p (P.see page f) ∧ Only (fun k => k = p) w w' := by
  have HH := hide h
  have c6 := h.cb.c 6 _ rfl
  have c7 := h.cb.c 7 _ rfl
  have c8 := h.cb.c 8 _ rfl
  have c9 := h.cb.c 9 _ rfl
  have c10 := h.cb.c 10 _ rfl
  have f6 := h.cb.f 6
  have f7 := h.cb.f 7
  have f8 := h.cb.f 8
  have f9 := h.cb.f 9
  have f10 := h.cb.f 10
  clear h
  go_enter Tryz.func35, Tryz.ntmps35
  go_wp2_with fail
  refine bodyPost_end (results_none rfl _ _ _) rfl ?_
  have HO := (((((Only.put w p 6 (.int .i64 3)).puts 7 (.string ⟨#[]⟩)).puts 8 (.int .i64 0)).puts 9 (.int .i64 page)).puts 10 (.func (.func f) #[.pointer (some ⟨p, 0, none⟩)] #[]))
  exact ⟨rfl, HH.out.mod HO (((((HH.out.cb.set 6 _).set 7 _).set 8 _).set 9 _).set 10 _) ⟨rfl, rfl, rfl⟩ ⟨rfl, rfl⟩, HO⟩
end Go.Proofs.YtajjakljheafjaaGreat
namespace Go.Proofs.YtajjakljheafjaaGreat
open Go.RowKit
/-- Numbers that a slice leads to, in block B. -/
structure Nz (w : World) (B : Nat) (ao : Option Addr) (l : List Int) : Prop where
  at_ : 0 < l.length → ∃ o, ao = some ⟨B, o, none⟩ ∧ ∀ j (h : j < l.length), w.cell? ⟨B, o + j, none⟩ = some (.int .i64 l[j])
  wf : ∀ x ∈ l, I64 x
  lt : 0 < l.length → B < w.heap.size
  len : l.length < 9223372036854775808
theorem Nz.nil (w : World) (B : Nat) (ao : Option Addr) : Nz w B ao [] := ⟨fun h => absurd h (by simp), fun _ h => by (cases h), fun h => absurd h (by simp), by simp⟩
theorem Nz.kept {S : Nat → Prop} {w w' : World} {B : Nat} {ao : Option Addr} {l : List Int} (h : Nz w B ao l) (ho : Only S w w') (hS : 0 < l.length → ¬ S B) : Nz w' B ao l :=
  ⟨fun h0 => by
    obtain ⟨o, e, hc⟩ := h.at_ h0
    exact ⟨o, e, fun j hj => (ho.cell (p := ⟨B, o + j, none⟩) (h.lt h0) (hS h0)).trans (hc j hj)⟩, h.wf, fun h0 => Nat.lt_of_lt_of_le (h.lt h0) ho.size, h.len⟩
theorem Nz.more {w w' : World} {B : Nat} {ao : Option Addr} {l : List Int} (h : Nz w B ao l) (ho : Only (fun _ => False) w w') : Nz w' B ao l := h.kept ho (fun _ h => h)
theorem Nz.one (w : World) (a : Int) (ha : I64 a) : Nz (w.alloc (.cells #[.int .i64 a] 3)) w.heap.size (some ⟨w.heap.size, 0, none⟩) [a] :=
  ⟨fun _ => ⟨0, rfl, fun j hj => by
    match j, hj with
    | 0, _ => simp⟩, fun x hx => by simp at hx; subst hx; exact ha, fun _ => by simp, by simp⟩
theorem snot_mem_take {l : List Int} {x : Int} {j : Nat} (h : ∀ k (hk : k < l.length), k < j → l[k] ≠ x) (hj : l.length ≤ j) : x ∉ l := by
  intro hm
  obtain ⟨k, hk, e⟩ := List.getElem_of_mem hm
  exact h k hk (by omega) e
set_option maxRecDepth 100000 in
set_option maxHeartbeats 800000 in
theorem nin_any (w : World) (B cp : Nat) (ao : Option Addr) (l : List Int) (x : Int) (h : Nz w B ao l) :
    Calls Tryz.prog 91 #[.slice ao l.length cp, .int .i64 x] w fun e w' => e = .returned (.bool (decide (x ∈ l))) ∧ w' = w := by
  have hlen := h.len
  have HS := hide h
  clear h
  go_enter Tryz.func91, Tryz.ntmps91
  go_wp2_with fail
  go_loop [5] (fun y => ∃ j : Nat, j ≤ l.length ∧ y = .int .i64 (j : Int) ∧ Hid (∀ k (hk : k < l.length), k < j → l[k] ≠ x)) (fun y => l.length - (intOf y).toNat)
  case atStart => exact ⟨0, by omega, rfl, (fun k _ hk => by omega)⟩
  case round =>
    obtain ⟨j, hj, rfl, HQ⟩ := hrel
    by_cases hlt : j < l.length
    · obtain ⟨o, e1, c1⟩ := HS.out.at_ (by omega)
      have k1 := c1 j hlt
      obtain ⟨z, hz⟩ : ∃ z, l[j] = z := ⟨_, rfl⟩
      have HZ := hide hz
      rw [hz] at k1
      clear c1 hz
      subst e1
      by_cases he : z = x
      · have hm : x ∈ l := by rw [← he, ← HZ.out]; exact List.getElem_mem hlt
        have HM := hide hm
        clear hm
        subst he
        go_wp2_with fail
        go_ret
        exact ⟨ret_bool (decide_eq_true HM.out).symm, rfl⟩
      · have hb : (z == x) = false := by simp [he]
        go_wp2_with fail
        go_round
        case rel =>
          refine ⟨j + 1, by omega, by go_num, ?_⟩
          intro k hk hkj
          by_cases ek : k = j
          · subst ek; rw [HZ.out]; exact he
          · exact HQ.out k hk (by omega)
        case measure => simp [intOf]; omega
    · have HM := hide (snot_mem_take HQ.out (by omega))
      go_wp2_with fail
      go_ret
      exact ⟨ret_bool (decide_eq_false HM.out).symm, rfl⟩
/-- A number was returned: not below 0 just if P. -/
structure RJs (e : Ending) (P : Prop) : Prop where
  ex : ∃ c : Int, e = .returned (.int .i64 c) ∧ (0 ≤ c ↔ P)
set_option maxRecDepth 100000 in
set_option maxHeartbeats 800000 in
theorem sindex_any (w : World) (B cp : Nat) (ao : Option Addr) (l : List Int) (x : Int) (h : Nz w B ao l) :
    Calls Tryz.prog 195 #[.slice ao l.length cp, .int .i64 x] w fun e w' => RJs e (x ∈ l) ∧ w' = w := by
  have hlen := h.len
  have HS := hide h
  clear h
  go_enter Tryz.func195, Tryz.ntmps195
  go_wp2_with fail
  go_loop [8] (fun y => ∃ j : Nat, j ≤ l.length ∧ y = .int .i64 (j : Int) ∧ Hid (∀ k (hk : k < l.length), k < j → l[k] ≠ x)) (fun y => l.length - (intOf y).toNat)
  case atStart => exact ⟨0, by omega, rfl, (fun k _ hk => by omega)⟩
  case round =>
    obtain ⟨j, hj, rfl, HQ⟩ := hrel
    by_cases hlt : j < l.length
    · obtain ⟨o, e1, c1⟩ := HS.out.at_ (by omega)
      have k1 := c1 j hlt
      obtain ⟨z, hz⟩ : ∃ z, l[j] = z := ⟨_, rfl⟩
      have HZ := hide hz
      rw [hz] at k1
      clear c1 hz
      subst e1
      by_cases he : z = x
      · have hm : x ∈ l := by rw [← he, ← HZ.out]; exact List.getElem_mem hlt
        have HM := hide hm
        clear hm
        subst he
        go_wp2_with fail
        go_ret
        exact ⟨⟨_, rfl, fun _ => HM.out, fun _ => by omega⟩, rfl⟩
      · have hb : (x == z) = false := by simp [Ne.symm he]
        go_wp2_with fail
        go_round
        case rel =>
          refine ⟨j + 1, by omega, by go_num, ?_⟩
          intro k hk hkj
          by_cases ek : k = j
          · subst ek; rw [HZ.out]; exact he
          · exact HQ.out k hk (by omega)
        case measure => simp [intOf]; omega
    · have HM := hide (snot_mem_take HQ.out (by omega))
      go_wp2_with fail
      go_ret
      exact ⟨⟨_, rfl, fun h => absurd h (by decide), fun h => absurd h HM.out⟩, rfl⟩
set_option maxRecDepth 100000 in
set_option maxHeartbeats 800000 in
theorem scontains_any (w : World) (B cp : Nat) (ao : Option Addr) (l : List Int) (x : Int) (h : Nz w B ao l) :
    Calls Tryz.prog 184 #[.slice ao l.length cp, .int .i64 x] w fun e w' => e = .returned (.bool (decide (x ∈ l))) ∧ w' = w := by
  have HC := hide (sindex_any w B cp ao l x h)
  clear h
  go_enter Tryz.func184, Tryz.ntmps184
  go_wp2_with fail
  refine HC.out.mono ?_
  rintro e w1 ⟨⟨c, rfl, hc⟩, rfl⟩
  have HP := hide hc
  clear hc HC
  by_cases h0 : 0 ≤ c
  · have g0 : decide (0 ≤ c) = true := decide_eq_true h0
    go_wp2_with fail
    go_ret
    exact ⟨ret_bool (by rw [decide_eq_true (HP.out.1 h0)]), rfl⟩
  · have g0 : decide (0 ≤ c) = false := decide_eq_false h0
    go_wp2_with fail
    go_ret
    exact ⟨ret_bool (by rw [decide_eq_false (fun h => by have := HP.out.2 h; omega)]), rfl⟩
end Go.Proofs.YtajjakljheafjaaGreat
namespace Go.Proofs.YtajjakljheafjaaGreat
open Go.RowKit
/-- A view as plain data. -/
structure Vw where
  m : Int
  next : Int
  act : List Int
  own : Int
  run : List Int
  pg : Pg
/-- A version as plain data. -/
structure Tp where
  xmin : Int
  xmax : Int
  fz : Bool
  key : ByteArray
  val : ByteArray
noncomputable def vsi (V : Vw) (x : Int) : Int := if x ∈ V.run then 1 else (gst V.m V.pg x : Int)
theorem vsi_bd (V : Vw) (x : Int) : 0 ≤ vsi V x ∧ vsi V x < 4 := by
  unfold vsi gst
  split
  · omega
  · split
    · have := stAt_lt (bl (it1 V.pg)) (x - 1).toNat
      omega
    · omega
def vown (V : Vw) (x : Int) : Bool := V.own != 0 && x == V.own
def vdone (V : Vw) (x : Int) : Bool := xbef V.m x V.next && !decide (x ∈ V.act)
noncomputable def vcom (V : Vw) (x : Int) : Bool := decide (vsi V x = 2)
noncomputable def vsees (V : Vw) (x : Int) : Bool := vown V x || (vcom V x && vdone V x)
noncomputable def vnews (V : Vw) (x : Int) : Bool := vcom V x && !vsees V x
noncomputable def vbeg (V : Vw) (T : Tp) : Bool := T.fz || vsees V T.xmin
noncomputable def vend (V : Vw) (T : Tp) : Bool := T.xmax != 0 && vsees V T.xmax
noncomputable def vvis (V : Vw) (T : Tp) : Bool := vbeg V T && !vend V T
noncomputable def vnewer (V : Vw) (T : Tp) : Bool := (!T.fz && vnews V T.xmin) || (T.xmax != 0 && vnews V T.xmax)
/-- Where a view's lists lie. -/
structure Lo where
  bA : Nat
  aA : Option Addr
  cA : Nat
  bR : Nat
  aR : Option Addr
  cR : Nat
  bP : Nat
  aP : Option Addr
  cP : Nat
/-- A view's lists in memory. -/
structure Sn (W : World) (V : Vw) (q : Lo) : Prop where
  act : Nz W q.bA q.aA V.act
  run : Nz W q.bR q.aR V.run
  pg : Strs W q.bP q.aP V.pg.items
  fit : Fit q.aP V.pg.items.length q.cP
  m : I64 V.m
  next : I64 V.next
  own : I64 V.own
theorem Sn.more {W W' : World} {V : Vw} {q : Lo} (h : Sn W V q) (ho : Only (fun _ => False) W W') : Sn W' V q := ⟨h.act.more ho, h.run.more ho, h.pg.more ho, h.fit, h.m, h.next, h.own⟩
/-- 11 cells in block b. -/
structure VB (w : World) (b : Nat) (v0 v1 v2 v3 v4 v5 v6 v7 v8 v9 v10 : Value) : Prop where
  c0 : w.cell? ⟨b, 0, none⟩ = some v0
  c1 : w.cell? ⟨b, 1, none⟩ = some v1
  c2 : w.cell? ⟨b, 2, none⟩ = some v2
  c3 : w.cell? ⟨b, 3, none⟩ = some v3
  c4 : w.cell? ⟨b, 4, none⟩ = some v4
  c5 : w.cell? ⟨b, 5, none⟩ = some v5
  c6 : w.cell? ⟨b, 6, none⟩ = some v6
  c7 : w.cell? ⟨b, 7, none⟩ = some v7
  c8 : w.cell? ⟨b, 8, none⟩ = some v8
  c9 : w.cell? ⟨b, 9, none⟩ = some v9
  c10 : w.cell? ⟨b, 10, none⟩ = some v10
  f0 : w.frozen? ⟨b, 0, none⟩ = false
  f1 : w.frozen? ⟨b, 1, none⟩ = false
  f2 : w.frozen? ⟨b, 2, none⟩ = false
  f3 : w.frozen? ⟨b, 3, none⟩ = false
  f4 : w.frozen? ⟨b, 4, none⟩ = false
  f5 : w.frozen? ⟨b, 5, none⟩ = false
  f6 : w.frozen? ⟨b, 6, none⟩ = false
  f7 : w.frozen? ⟨b, 7, none⟩ = false
  f8 : w.frozen? ⟨b, 8, none⟩ = false
  f9 : w.frozen? ⟨b, 9, none⟩ = false
  f10 : w.frozen? ⟨b, 10, none⟩ = false
  lt : b < w.heap.size
theorem VB.kept {S : Nat → Prop} {w w' : World} {b : Nat} {v0 v1 v2 v3 v4 v5 v6 v7 v8 v9 v10 : Value} (h : VB w b v0 v1 v2 v3 v4 v5 v6 v7 v8 v9 v10) (ho : Only S w w') (hS : ¬ S b) : VB w' b v0 v1 v2 v3 v4 v5 v6 v7 v8 v9 v10 :=
  ⟨(ho.cell (p := ⟨b, 0, none⟩) h.lt hS).trans h.c0, (ho.cell (p := ⟨b, 1, none⟩) h.lt hS).trans h.c1, (ho.cell (p := ⟨b, 2, none⟩) h.lt hS).trans h.c2, (ho.cell (p := ⟨b, 3, none⟩) h.lt hS).trans h.c3, (ho.cell (p := ⟨b, 4, none⟩) h.lt hS).trans h.c4, (ho.cell (p := ⟨b, 5, none⟩) h.lt hS).trans h.c5, (ho.cell (p := ⟨b, 6, none⟩) h.lt hS).trans h.c6, (ho.cell (p := ⟨b, 7, none⟩) h.lt hS).trans h.c7, (ho.cell (p := ⟨b, 8, none⟩) h.lt hS).trans h.c8, (ho.cell (p := ⟨b, 9, none⟩) h.lt hS).trans h.c9, (ho.cell (p := ⟨b, 10, none⟩) h.lt hS).trans h.c10,
   (ho.frozen (p := ⟨b, 0, none⟩) h.lt hS).trans h.f0, (ho.frozen (p := ⟨b, 1, none⟩) h.lt hS).trans h.f1, (ho.frozen (p := ⟨b, 2, none⟩) h.lt hS).trans h.f2, (ho.frozen (p := ⟨b, 3, none⟩) h.lt hS).trans h.f3, (ho.frozen (p := ⟨b, 4, none⟩) h.lt hS).trans h.f4, (ho.frozen (p := ⟨b, 5, none⟩) h.lt hS).trans h.f5, (ho.frozen (p := ⟨b, 6, none⟩) h.lt hS).trans h.f6, (ho.frozen (p := ⟨b, 7, none⟩) h.lt hS).trans h.f7, (ho.frozen (p := ⟨b, 8, none⟩) h.lt hS).trans h.f8, (ho.frozen (p := ⟨b, 9, none⟩) h.lt hS).trans h.f9, (ho.frozen (p := ⟨b, 10, none⟩) h.lt hS).trans h.f10, Nat.lt_of_lt_of_le h.lt ho.size⟩
theorem VB.more {w w' : World} {b : Nat} {v0 v1 v2 v3 v4 v5 v6 v7 v8 v9 v10 : Value} (h : VB w b v0 v1 v2 v3 v4 v5 v6 v7 v8 v9 v10) (ho : Only (fun _ => False) w w') : VB w' b v0 v1 v2 v3 v4 v5 v6 v7 v8 v9 v10 := h.kept ho (fun h => h)
theorem VB.new (w : World) (v0 v1 v2 v3 v4 v5 v6 v7 v8 v9 v10 : Value) : VB (w.alloc (.cells #[v0, v1, v2, v3, v4, v5, v6, v7, v8, v9, v10] 42)) w.heap.size v0 v1 v2 v3 v4 v5 v6 v7 v8 v9 v10 :=
  ⟨by simp, by simp, by simp, by simp, by simp, by simp, by simp, by simp, by simp, by simp, by simp, by simp, by simp, by simp, by simp, by simp, by simp, by simp, by simp, by simp, by simp, by simp, by simp⟩
/-- 5 cells in block b. -/
structure TB (w : World) (b : Nat) (v0 v1 v2 v3 v4 : Value) : Prop where
  c0 : w.cell? ⟨b, 0, none⟩ = some v0
  c1 : w.cell? ⟨b, 1, none⟩ = some v1
  c2 : w.cell? ⟨b, 2, none⟩ = some v2
  c3 : w.cell? ⟨b, 3, none⟩ = some v3
  c4 : w.cell? ⟨b, 4, none⟩ = some v4
  f0 : w.frozen? ⟨b, 0, none⟩ = false
  f1 : w.frozen? ⟨b, 1, none⟩ = false
  f2 : w.frozen? ⟨b, 2, none⟩ = false
  f3 : w.frozen? ⟨b, 3, none⟩ = false
  f4 : w.frozen? ⟨b, 4, none⟩ = false
  lt : b < w.heap.size
theorem TB.kept {S : Nat → Prop} {w w' : World} {b : Nat} {v0 v1 v2 v3 v4 : Value} (h : TB w b v0 v1 v2 v3 v4) (ho : Only S w w') (hS : ¬ S b) : TB w' b v0 v1 v2 v3 v4 :=
  ⟨(ho.cell (p := ⟨b, 0, none⟩) h.lt hS).trans h.c0, (ho.cell (p := ⟨b, 1, none⟩) h.lt hS).trans h.c1, (ho.cell (p := ⟨b, 2, none⟩) h.lt hS).trans h.c2, (ho.cell (p := ⟨b, 3, none⟩) h.lt hS).trans h.c3, (ho.cell (p := ⟨b, 4, none⟩) h.lt hS).trans h.c4,
   (ho.frozen (p := ⟨b, 0, none⟩) h.lt hS).trans h.f0, (ho.frozen (p := ⟨b, 1, none⟩) h.lt hS).trans h.f1, (ho.frozen (p := ⟨b, 2, none⟩) h.lt hS).trans h.f2, (ho.frozen (p := ⟨b, 3, none⟩) h.lt hS).trans h.f3, (ho.frozen (p := ⟨b, 4, none⟩) h.lt hS).trans h.f4, Nat.lt_of_lt_of_le h.lt ho.size⟩
theorem TB.more {w w' : World} {b : Nat} {v0 v1 v2 v3 v4 : Value} (h : TB w b v0 v1 v2 v3 v4) (ho : Only (fun _ => False) w w') : TB w' b v0 v1 v2 v3 v4 := h.kept ho (fun h => h)
theorem TB.new (w : World) (v0 v1 v2 v3 v4 : Value) : TB (w.alloc (.cells #[v0, v1, v2, v3, v4] 78)) w.heap.size v0 v1 v2 v3 v4 :=
  ⟨by simp, by simp, by simp, by simp, by simp, by simp, by simp, by simp, by simp, by simp, by simp⟩
theorem quiet_only {f : Nat} {a : Array Value} {w : World} {r : Ending} (h : Calls Tryz.prog f a w fun e w' => e = r ∧ w' = w) : Calls Tryz.prog f a w fun e w' => e = r ∧ Only (fun _ => False) w w' :=
  h.mono (fun e w' ⟨h1, h2⟩ => ⟨h1, by rw [h2]; exact Only.refl _ _⟩)
theorem four {z : Int} (h : 0 ≤ z) (k : z < 4) : z = 0 ∨ z = 1 ∨ z = 2 ∨ z = 3 := by omega
end Go.Proofs.YtajjakljheafjaaGreat
