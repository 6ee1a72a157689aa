/- Package blink's read, isBeyond, stands, with, Need, of a node in memory and any item. -/
import Derived.Test.YthjjkhacniebiaaGreatK25
import Derived.Test.YthjjkhacniebiaaGreatK33
import Derived.Maps.AppendAt
import Derived.Test.YthjjkhacniebiaaGreatK32
namespace Go.Proofs.YthjjkhacniebiaaGreat
open Go.RowKit

theorem own_keptJ {S : Nat → Prop} {w w' : World} {base : Nat} {e : TypeId} {k : Nat} {v : Value} {n : Nat} {xs : List Value} (h : w.ownsRow base e k v n xs) (ho : Only S w w') (hS : ∀ b, v.ownBlock = some b → ¬ S b) : w'.ownsRow base e k v n xs := by
  obtain ⟨h1, h2⟩ := h
  refine ⟨h1, ?_⟩
  rcases h2 with h2 | ⟨g, cap, cur, hv, hg, hh, r⟩
  · exact .inl h2
  · refine .inr ⟨g, cap, cur, hv, hg, ?_, r⟩
    rw [ho.block g (Array.getElem?_eq_some_iff.1 hh).1 (hS g (by rw [hv]; rfl))]
    exact hh
theorem own_mono {w : World} {base base' : Nat} {e : TypeId} {k : Nat} {v : Value} {n : Nat} {xs : List Value} (h : w.ownsRow base e k v n xs) (hb : base' ≤ base) : w.ownsRow base' e k v n xs := by
  obtain ⟨h1, h2⟩ := h
  refine ⟨h1, ?_⟩
  rcases h2 with h2 | ⟨g, cap, cur, hv, hg, r⟩
  · exact .inl h2
  · exact .inr ⟨g, cap, cur, hv, Nat.le_trans hb hg, r⟩
/-- What a row holds may be read and written. -/
theorem own_rg {w : World} {base : Nat} {e : TypeId} {k n g cap : Nat} {xs : List Value} (h : w.ownsRow base e k (.slice (some ⟨g, 0, none⟩) n cap) n xs) : Rg w g 0 xs := by
  have hl := h.1
  refine ⟨fun j v hv => ?_, fun j hj => ?_, (World.ownsRow.lt h g rfl).2⟩
  · have hj := (List.getElem?_eq_some_iff.1 hv).1
    rw [Nat.zero_add, World.ownsRow.cellAt h j (by omega)]
    exact hv
  · rw [Nat.zero_add]
    exact ⟨by rw [World.ownsRow.cellAt h j (by omega), List.getElem?_eq_getElem hj]; rfl, World.ownsRow.frozenAt h j⟩
def setL (xs : List Value) : Nat → List Value → List Value
  | _, [] => xs
  | j, d :: ds => setL (xs.set j d) (j + 1) ds
theorem setL_mid (ds c1 c2 c3 : List Value) (hl : ds.length = c2.length) : setL (c1 ++ c2 ++ c3) c1.length ds = c1 ++ ds ++ c3 := by
  induction ds generalizing c1 c2 with
  | nil =>
    have : c2 = [] := List.eq_nil_of_length_eq_zero (by simpa using hl.symm)
    subst this
    simp [setL]
  | cons d ds ih =>
    cases c2 with
    | nil => simp at hl
    | cons x c2 =>
      have e : (c1 ++ x :: c2 ++ c3).set c1.length d = (c1 ++ [d]) ++ c2 ++ c3 := by simp
      have e2 : c1.length + 1 = (c1 ++ [d]).length := by simp
      rw [setL, e, e2, ih (c1 ++ [d]) c2 (by simpa using hl)]
      simp
theorem own_setL {w : World} {base : Nat} {e : TypeId} {k n g cap : Nat} {xs : List Value} (h : w.ownsRow base e k (.slice (some ⟨g, 0, none⟩) n cap) n xs) (j : Nat) (ds : List Value) : (w.setCells g j ds).ownsRow base e k (.slice (some ⟨g, 0, none⟩) n cap) n (setL xs j ds) := by
  induction ds generalizing w xs j with
  | nil => exact h
  | cons d ds ih =>
    rw [World.setCells, setL]
    exact ih (h.stored j d).1 (j + 1)
theorem own_put {w : World} {base : Nat} {e : TypeId} {k n g cap : Nat} {c1 c2 c3 : List Value} (h : w.ownsRow base e k (.slice (some ⟨g, 0, none⟩) n cap) n (c1 ++ c2 ++ c3)) (ds : List Value) (hl : ds.length = c2.length) : (w.setCells g c1.length ds).ownsRow base e k (.slice (some ⟨g, 0, none⟩) n cap) n (c1 ++ ds ++ c3) := by
  have := own_setL h c1.length ds
  rwa [setL_mid ds c1 c2 c3 hl] at this
/-- A page with the place of its items. -/
structure Pz where
  p : Pg
  ao : Option Addr
  cp : Nat
def Pz.none : Pz := ⟨Pg.none, Option.none, 0⟩
abbrev Pz.ar (z : Pz) : Array Value := #[.int .i64 z.p.lsn, .int .i64 z.p.kind, .int .i64 z.p.level, .int .i64 z.p.right, .string z.p.high, .slice z.ao z.p.items.length z.cp]
def Pz.c (z : Pz) : List Value := z.ar.toList
theorem Pz.c_len (z : Pz) : z.c.length = 6 := rfl
theorem Pz.one (z : Pz) : z.ar.all Value.oneCell' = true := by simp [Value.oneCell']
/-- An image's cells. -/
def imc (n : Int) (z : Pz) : List Value := .int .i64 n :: z.c
theorem imc_len (n : Int) (z : Pz) : (imc n z).length = 7 := rfl
/-- Its items are there, in a block of P. -/
structure At (w : World) (P : Nat → Prop) (z : Pz) : Prop where
  strs : ∃ B, Strs w B z.ao z.p.items ∧ (0 < z.p.items.length → P B)
  fit : Fit z.ao z.p.items.length z.cp
theorem At.none (w : World) (P : Nat → Prop) : At w P Pz.none := ⟨⟨0, Strs.nil _ _ _, fun h => absurd h (by simp [Pz.none, Pg.none])⟩, ⟨fun _ => rfl, by simp [Pz.none, Pg.none], by simp [Pz.none]⟩⟩
theorem At.kept {S P : Nat → Prop} {w w' : World} {z : Pz} (h : At w P z) (ho : Only S w w') (hS : ∀ k, P k → ¬ S k) : At w' P z := by
  obtain ⟨⟨B, h1, h2⟩, h3⟩ := h
  exact ⟨⟨B, h1.kept ho (fun h0 => hS B (h2 h0)), h2⟩, h3⟩
theorem At.more {P : Nat → Prop} {w w' : World} {z : Pz} (h : At w P z) (ho : Only (fun _ => False) w w') : At w' P z := h.kept ho (fun _ _ h => h)
theorem At.mono {w : World} {P Q : Nat → Prop} {z : Pz} (h : At w P z) (hl : ∀ k, P k → Q k) : At w Q z := by
  obtain ⟨⟨B, h1, h2⟩, h3⟩ := h
  exact ⟨⟨B, h1, fun h0 => hl B (h2 h0)⟩, h3⟩
theorem At.old {w : World} {P : Nat → Prop} {z : Pz} (h : At w P z) : At w (fun k => P k ∧ k < w.heap.size) z := by
  obtain ⟨⟨B, h1, h2⟩, h3⟩ := h
  exact ⟨⟨B, h1, fun h0 => ⟨h2 h0, h1.lt h0⟩⟩, h3⟩
theorem Tryz.infoPgJ : (Tryz.prog.info? 24).map (fun i => (i.zero, i.size, i.bytes)) = some (some (.agg Pz.none.ar), 6, 72) := by kernel_rfl
theorem Tryz.infoImJ : (Tryz.prog.info? 85).map (fun i => (i.zero, i.size, i.bytes)) = some (some (.agg (imc 0 Pz.none).toArray), 7, 80) := by kernel_rfl
theorem im_append (w : World) (base g n cap : Nat) (xs : List Value) (h : w.ownsRow base 85 7 (.slice (some ⟨g, 0, none⟩) n cap) n xs) (B : Nat) (m : Int) (z : Pz) (hB : Rg w B 0 (imc m z)) (hn : n ≤ 1000000) (hbase : base ≤ w.heap.size) :
    ∃ g' c' w', (Builtin.append_ #[32, 32] 32 #[.slice (some ⟨g, 0, none⟩) n cap, .slice (some ⟨B, 0, none⟩) 1 1]).run Tryz.prog w = .ok (.slice (some ⟨g', 0, none⟩) (n + 1) c') w' ∧ w'.ownsRow base 85 7 (.slice (some ⟨g', 0, none⟩) (n + 1) c') (n + 1) (xs ++ imc m z) ∧ Only (fun k => k = g) w w' ∧ (g' = g ∨ g' = w.heap.size) := by
  obtain ⟨i0, hi, hz0, hz1, hz2⟩ := info_parts Tryz.infoImJ
  obtain ⟨v', w', hr, h2, h3, _, h4⟩ := run_append_own_at (P := Tryz.prog) w base 32 32 85 i0 (.agg (imc 0 Pz.none).toArray) 7 80 Tryz.underlying32 hi hz0 hz1 hz2 rfl (by decide) (.slice (some ⟨g, 0, none⟩) n cap) n xs h ⟨B, 0, none⟩ 1 1 (imc m z) rfl
    (fun j u hu => by
      have := hB.range j u hu
      rwa [add_at]) (by intro u hu; simp [imc, Pz.c] at hu; rcases hu with rfl | rfl | rfl | rfl | rfl | rfl | rfl <;> rfl) (by unfold maxLen; omega) (by omega) hbase
  obtain ⟨g', c', rfl⟩ : ∃ g' c', v' = .slice (some ⟨g', 0, none⟩) (n + 1) c' := by
    rcases h2.2 with ⟨_, q⟩ | ⟨g', cap', cur, q, _⟩
    · omega
    · exact ⟨g', cap', q⟩
  refine ⟨g', c', w', hr, h2, Only.grown h3 (fun k hk => by cases hk; rfl), ?_⟩
  rcases h4 with q | q
  · exact .inl (by simpa [Value.ownBlock] using q)
  · exact .inr (by simpa [Value.ownBlock] using q)
theorem pg_append (w : World) (base g n cap : Nat) (xs : List Value) (h : w.ownsRow base 24 6 (.slice (some ⟨g, 0, none⟩) n cap) n xs) (B : Nat) (z : Pz) (hB : Rg w B 0 (z.c)) (hn : n ≤ 1000000) (hbase : base ≤ w.heap.size) :
    ∃ g' c' w', (Builtin.append_ #[51, 51] 51 #[.slice (some ⟨g, 0, none⟩) n cap, .slice (some ⟨B, 0, none⟩) 1 1]).run Tryz.prog w = .ok (.slice (some ⟨g', 0, none⟩) (n + 1) c') w' ∧ w'.ownsRow base 24 6 (.slice (some ⟨g', 0, none⟩) (n + 1) c') (n + 1) (xs ++ z.c) ∧ Only (fun k => k = g) w w' ∧ (g' = g ∨ g' = w.heap.size) := by
  obtain ⟨i0, hi, hz0, hz1, hz2⟩ := info_parts Tryz.infoPgJ
  obtain ⟨v', w', hr, h2, h3, _, h4⟩ := run_append_own_at (P := Tryz.prog) w base 51 51 24 i0 (.agg Pz.none.ar) 6 72 Tryz.underlying51 hi hz0 hz1 hz2 rfl (by decide) (.slice (some ⟨g, 0, none⟩) n cap) n xs h ⟨B, 0, none⟩ 1 1 (z.c) rfl
    (fun j u hu => by
      have := hB.range j u hu
      rwa [add_at]) (by intro u hu; simp [Pz.c] at hu; rcases hu with rfl | rfl | rfl | rfl | rfl | rfl <;> rfl) (by unfold maxLen; omega) (by omega) hbase
  obtain ⟨g', c', rfl⟩ : ∃ g' c', v' = .slice (some ⟨g', 0, none⟩) (n + 1) c' := by
    rcases h2.2 with ⟨_, q⟩ | ⟨g', cap', cur, q, _⟩
    · omega
    · exact ⟨g', cap', q⟩
  refine ⟨g', c', w', hr, h2, Only.grown h3 (fun k hk => by cases hk; rfl), ?_⟩
  rcases h4 with q | q
  · exact .inl (by simpa [Value.ownBlock] using q)
  · exact .inr (by simpa [Value.ownBlock] using q)
end Go.Proofs.YthjjkhacniebiaaGreat

namespace Go.Proofs.YthjjkhacniebiaaGreat
open Go.RowKit

/-- What an item of a level says. -/
def brd (v : Nat) (s : ByteArray) : Option (En × Int) := if v = 0 then (decE (bl s)).map (fun e => (e, 0)) else decS (bl s)
theorem outS_map (o : Option En) : outS (o.map (fun e => (e, 0))) = .tuple #[(o.getD noE).agg, .int .i64 0, .int .i64 (if o.isSome then 0 else 140)] := by cases o <;> rfl
set_option maxHeartbeats 800000 in
theorem bread_any (v : Nat) (s : ByteArray) (w : World) : Calls Tryz.prog 25 #[.int .i64 v, .string s] w fun x w' => x = .returned (outS (brd v s)) ∧ Only (fun _ => False) w w' := by
  have HR := hide (Ev.zero w)
  have HO := hide (onlyA w (.cells #[.string ⟨#[]⟩, .int .i64 0, .int .i64 0] 41))
  have HD := hide (fun W => decode_any s W)
  have HU := hide (fun W => unsep_any s W)
  unfold brd
  obtain ⟨W0, hW0⟩ : ∃ x, w.alloc (.cells #[.string ⟨#[]⟩, .int .i64 0, .int .i64 0] 41) = x := ⟨_, rfl⟩
  rw [hW0] at HR HO
  by_cases hv : v = 0
  · rw [if_pos hv, outS_map, hv, Int.ofNat_zero]
    unfold outE at HD
    obtain ⟨E, hE⟩ : ∃ E, (decE (bl s)).getD noE = E := ⟨_, rfl⟩
    obtain ⟨K, hK⟩ : ∃ K : Int, (if (decE (bl s)).isSome = true then 0 else 140) = K := ⟨_, rfl⟩
    rw [hE, hK] at HD ⊢
    clear hE hK hv
    unfold En.agg at HD ⊢
    go_enter Tryz.func25, Tryz.ntmps25
    go_upto_region 1 with fail
    clear hW0
    go_wp2_with fail
    refine (HD.out _).mono ?_
    rintro x w1 ⟨rfl, ho⟩
    have HR1 := hide (HR.out.more ho)
    have HO1 := hide (o2 HO.out ho)
    have HB : Hid (w.heap.size < W0.heap.size) := HR.out.lt
    have HZ := hide ho.size
    clear ho HR HO HD HU
    go_upto_region 3 with fail
    have HA := hide (onlyA w1 (.cells #[.string E.key, .int .i64 E.page, .int .i64 E.slot] 41))
    have HC := hide (Ev.new w1 E)
    obtain ⟨cb, hcb⟩ : ∃ b, w1.heap.size = b := ⟨_, rfl⟩
    rw [hcb] at HC ⊢
    clear hcb
    obtain ⟨w2, hw2⟩ : ∃ x, w1.alloc (.cells #[.string E.key, .int .i64 E.page, .int .i64 E.slot] 41) = x := ⟨_, rfl⟩
    rw [hw2] at HA HC ⊢
    clear hw2
    have HR2 := hide (HR1.out.more HA.out)
    have HO2 := hide (o2 HO1.out HA.out)
    clear HA HR1 HO1
    obtain ⟨c0, c1, c2, _⟩ := HC.out
    obtain ⟨r0, r1, r2, f0, f1, f2, _⟩ := HR2.out
    go_wp2_with fail
    refine bodyPost_ret (results_ev3 rfl rfl (HR2.out.all E)) rfl ?_
    exact ⟨rfl, HO2.out.trans (Only.three _ _ _ _ _) (fun i hi e => by omega)⟩
  · have hv0 : ¬ (v : Int) = 0 := by omega
    rw [if_neg hv]
    obtain ⟨V, hV⟩ : ∃ V, (v : Int) = V := ⟨_, rfl⟩
    rw [hV] at hv0 ⊢
    clear hV hv
    unfold outS at HU ⊢
    obtain ⟨E, hE⟩ : ∃ E, ((decS (bl s)).getD (noE, 0)).1 = E := ⟨_, rfl⟩
    obtain ⟨C, hC⟩ : ∃ C, ((decS (bl s)).getD (noE, 0)).2 = C := ⟨_, rfl⟩
    obtain ⟨K, hK⟩ : ∃ K : Int, (if (decS (bl s)).isSome = true then 0 else 140) = K := ⟨_, rfl⟩
    rw [hE, hC, hK] at HU ⊢
    clear hE hC hK
    unfold En.agg at HU ⊢
    go_enter Tryz.func25, Tryz.ntmps25
    go_upto_region 1 with fail
    clear hW0
    go_wp2_with fail
    refine (HU.out _).mono ?_
    rintro x w1 ⟨rfl, ho⟩
    have HR1 := hide (HR.out.more ho)
    have HO1 := hide (o2 HO.out ho)
    clear ho HR HO HD HU
    obtain ⟨r0, r1, r2, f0, f1, f2, _⟩ := HR1.out
    go_wp2_with fail
    refine bodyPost_ret (results_ev3 rfl rfl (HR1.out.all E)) rfl ?_
    exact ⟨rfl, HO1.out.trans (Only.three _ _ _ _ _) (fun i hi e => by omega)⟩
/-- Whether an entry is among some. -/
theorem containsE_any (w : World) (B n C : Nat) (A : Option Addr) (es : List En) (e : En) (hE : Els w B A es) (hn : es.length = n) (hl : n ≤ 1048576) (hr : Rise es) :
    Calls Tryz.prog 53 #[.slice A n C, e.agg] w fun x w' => x = .returned (.bool (decide (e ∈ es))) ∧ Only (fun _ => False) w w' := by
  have HV := hide (Ev.new w e)
  have HO := hide (onlyA w (.cells #[.string e.key, .int .i64 e.page, .int .i64 e.slot] 41))
  have HI : Hid (∀ W, Only (fun _ => False) w W → Calls Tryz.prog 48 #[.slice A n C, .agg #[.string e.key, .int .i64 e.page, .int .i64 e.slot]] W fun x w' => x = .returned (.int .i64 (idxE es e)) ∧ Only (fun _ => False) W w') := fun W ho => indexE_any W B n C A es e (hE.kept ho (fun _ h => h)) hn hl hr
  have HD : Hid (decide (0 ≤ idxE es e) = decide (e ∈ es)) := by
    unfold Hid idxE
    by_cases k : e ∈ es
    · rw [if_pos k, decide_eq_true k, decide_eq_true (by omega)]
    · rw [if_neg k, decide_eq_false k]; decide
  clear hE hn hl hr
  obtain ⟨I, hI⟩ : ∃ I, idxE es e = I := ⟨_, rfl⟩
  rw [hI] at HI HD
  rw [← HD.out]
  clear hI HD
  unfold En.agg
  go_enter Tryz.func53, Tryz.ntmps53
  go_upto_region 1 with fail
  obtain ⟨W0, hW0⟩ : ∃ x, w.alloc (.cells #[.string e.key, .int .i64 e.page, .int .i64 e.slot] 41) = x := ⟨_, rfl⟩
  rw [hW0] at HV HO ⊢
  clear hW0
  obtain ⟨d0, d1, d2, _⟩ := HV.out
  go_wp2_with fail
  refine (HI.out _ HO.out).mono ?_
  rintro x w1 ⟨rfl, ho⟩
  have HO1 := hide (o2 HO.out ho)
  clear ho
  go_wp2_with fail
  go_ret
  exact ⟨rfl, HO1.out⟩
theorem neqE_run (a b : En) (w : World) : (binOp .neq 41 (.agg #[.string a.key, .int .i64 a.page, .int .i64 a.slot]) (.agg #[.string b.key, .int .i64 b.page, .int .i64 b.slot])).run Tryz.prog w = .ok (.bool (!decide (a = b))) w := by
  obtain ⟨k, p, s⟩ := a
  obtain ⟨k', p', s'⟩ := b
  by_cases h1 : k = k'
  · by_cases h2 : p = p'
    · by_cases h3 : s = s'
      · subst h1 h2 h3
        simp [go_sem]
      · simp [go_sem, h1, h2, h3]
    · simp [go_sem, h1, h2]
  · have h4 := ba_neN h1
    have h5 : ¬ k.toList = k'.toList := by simpa using h4
    simp [go_sem, h1, h5]
/-- Whether an entry stands in a node already. -/
def Nd.std (X : Nd) (e : En) : Bool := decide ((X.lv = 0 ∨ e ≠ noE) ∧ e ∈ X.es)
set_option maxHeartbeats 1600000 in
theorem stands_nd (w : World) (a : Int) (X : Nd) (e : En) (B cp : Nat) (ao : Option Addr) (hP : Nm w X B ao) :
    Calls Tryz.prog 26 #[.agg #[.int .i64 a, .int .i64 3, .int .i64 X.lv, .int .i64 X.rt, .string (hiB X.hi), .slice ao X.items.length cp], e.agg] w fun x w' => x = .returned (.bool (X.std e)) ∧ Only (fun _ => False) w w' := by
  have HX := hide (pe_new w (.int .i64 a) (.int .i64 3) (.int .i64 X.lv) (.int .i64 X.rt) (.string (hiB X.hi)) (.slice ao X.items.length cp) e)
  have HCT : Hid (∀ (W W' : World) (A : Option Addr) (n C base : Nat), Ets W base (.slice A n C) X.es → Only (fun _ => False) W W' → Calls Tryz.prog 53 #[.slice A n C, .agg #[.string e.key, .int .i64 e.page, .int .i64 e.slot]] W' fun x w' => x = .returned (.bool (decide (e ∈ X.es))) ∧ Only (fun _ => False) W' w') := fun W W' A n C base hE ho => by
    obtain ⟨B1, hels, hln⟩ := hE.elsOf
    obtain ⟨lo, hk⟩ := hP.ok
    exact containsE_any W' B1 n C A X.es e (hels.kept ho (fun _ h => h)) hln (by have := hP.few; rw [Nd.es_len] at hln; omega) hk.rise
  rcases Nat.eq_zero_or_pos X.lv with v | v
  · have HR := hide (entries_ok _ a X.rt (hiB X.hi) X.hi B cp ao X.items X.es ((hP.more HX.out.2.2).lp v))
    have HS : Hid (X.std e = decide (e ∈ X.es)) := by
      unfold Hid Nd.std
      exact decide_eq_decide.2 ⟨fun k => k.2, fun k => ⟨.inl v, k⟩⟩
    rw [HS.out]
    rw [v] at HX HR ⊢
    rw [Int.ofNat_zero] at HX HR ⊢
    clear hP HS
    obtain ⟨D, hD⟩ : ∃ D, decide (e ∈ X.es) = D := ⟨_, rfl⟩
    obtain ⟨R, hR⟩ : ∃ R, (X.rt : Int) = R := ⟨_, rfl⟩
    obtain ⟨h, hh⟩ : ∃ h, hiB X.hi = h := ⟨_, rfl⟩
    obtain ⟨n, hn⟩ : ∃ n, X.items.length = n := ⟨_, rfl⟩
    obtain ⟨m, hm⟩ : ∃ m, X.es.length = m := ⟨_, rfl⟩
    rw [hR, hh, hn] at HX HR ⊢
    rw [hD] at HCT ⊢
    unfold EnR at HR
    rw [hm] at HR
    unfold En.agg
    clear hR hh hn hD hm
    go_enter Tryz.func26, Tryz.ntmps26
    go_upto_region 1 with fail
    obtain ⟨W0, hW0⟩ : ∃ x, (w.alloc (.cells #[.int .i64 a, .int .i64 3, .int .i64 0, .int .i64 R, .string h, .slice ao n cp] 24)).alloc (.cells #[.string e.key, .int .i64 e.page, .int .i64 e.slot] 41) = x := ⟨_, rfl⟩
    rw [hW0] at HX HR ⊢
    clear hW0
    obtain ⟨p0, p1, p2, p3, p4, p5, _⟩ := HX.out.1
    go_wp2_with fail
    refine HR.out.mono ?_
    rintro x w1 ⟨A, C, rfl, he, ho⟩
    have HV1 := hide (HX.out.2.1.more ho)
    have HO1 := hide (o2 HX.out.2.2 ho)
    have HE1 := hide he
    clear he ho p0 p1 p2 p3 p4 p5 HR HX
    obtain ⟨d0, d1, d2, _⟩ := HV1.out
    go_wp2_with fail
    refine (HCT.out _ _ _ _ _ _ HE1.out (Only.refl _ _)).mono ?_
    rintro x w2 ⟨rfl, ho⟩
    have HO2 := hide (o2 HO1.out ho)
    clear ho
    go_wp2_with fail
    go_ret
    exact ⟨rfl, HO2.out⟩
  · have HR := hide (kids_ok _ a X.lv X.rt (hiB X.hi) X.hi B cp ao X.items X.ks ((hP.more HX.out.2.2).ip v))
    have HS : Hid (X.std e = (!decide (e = noE) && decide (e ∈ X.es))) := by
      unfold Hid Nd.std
      by_cases k : e = noE
      · rw [decide_eq_false (by rintro ⟨q | q, _⟩; omega; exact q k)]; simp [k]
      · by_cases q : e ∈ X.es
        · rw [decide_eq_true ⟨.inr k, q⟩]; simp [k, q]
        · rw [decide_eq_false (fun z => q z.2)]; simp [q]
    rw [HS.out]
    have hv0 : ¬ (X.lv : Int) = 0 := by omega
    have hq : ∀ W : World, (binOp .neq 41 (.agg #[.string e.key, .int .i64 e.page, .int .i64 e.slot]) (.agg #[.string ⟨#[]⟩, .int .i64 0, .int .i64 0])).run Tryz.prog W = .ok (.bool (!decide (e = noE))) W := fun W => neqE_run e noE W
    clear hP HS
    obtain ⟨D, hD⟩ : ∃ D, decide (e ∈ X.es) = D := ⟨_, rfl⟩
    obtain ⟨Z, hZ⟩ : ∃ Z, decide (e = noE) = Z := ⟨_, rfl⟩
    obtain ⟨L, hL⟩ : ∃ L, (X.lv : Int) = L := ⟨_, rfl⟩
    obtain ⟨R, hR⟩ : ∃ R, (X.rt : Int) = R := ⟨_, rfl⟩
    obtain ⟨h, hh⟩ : ∃ h, hiB X.hi = h := ⟨_, rfl⟩
    obtain ⟨n, hn⟩ : ∃ n, X.items.length = n := ⟨_, rfl⟩
    rw [hL, hR, hh, hn] at HX HR ⊢
    rw [hL] at hv0
    rw [hD] at HCT ⊢
    rw [hZ] at hq ⊢
    clear hL hR hh hn hD hZ
    unfold En.agg
    go_enter Tryz.func26, Tryz.ntmps26
    go_upto_region 1 with fail
    obtain ⟨W0, hW0⟩ : ∃ x, (w.alloc (.cells #[.int .i64 a, .int .i64 3, .int .i64 L, .int .i64 R, .string h, .slice ao n cp] 24)).alloc (.cells #[.string e.key, .int .i64 e.page, .int .i64 e.slot] 41) = x := ⟨_, rfl⟩
    rw [hW0] at HX HR ⊢
    clear hW0
    obtain ⟨p0, p1, p2, p3, p4, p5, _⟩ := HX.out.1
    go_wp2_with fail
    refine HR.out.mono ?_
    rintro x w1 ⟨A, C, A2, C2, rfl, he, hk, ho⟩
    have HV1 := hide (HX.out.2.1.more ho)
    have HO1 := hide (o2 HX.out.2.2 ho)
    have HE1 : Hid (Ets w1 W0.heap.size (.slice A X.ks.length C) X.es) := he
    clear he hk ho p0 p1 p2 p3 p4 p5 HR HX
    obtain ⟨d0, d1, d2, _⟩ := HV1.out
    cases Z with
    | true =>
      go_wp2_with fail
      go_ret
      exact ⟨rfl, HO1.out⟩
    | false =>
      go_wp2_with fail
      refine (HCT.out _ _ _ _ _ _ HE1.out (Only.refl _ _)).mono ?_
      rintro x w2 ⟨rfl, ho⟩
      have HO2 := hide (o2 HO1.out ho)
      clear ho
      go_wp2_with fail
      go_ret
      exact ⟨by simp, HO2.out⟩
end Go.Proofs.YthjjkhacniebiaaGreat
