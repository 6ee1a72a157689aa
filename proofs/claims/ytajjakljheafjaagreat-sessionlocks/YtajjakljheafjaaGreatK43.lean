/- Parts. -/
import Derived.Test.YtajjakljheafjaaGreatK41
set_option maxRecDepth 100000
namespace Go.Proofs.YtajjakljheafjaaGreat
open Go.RowKit
set_option maxRecDepth 100000 in
set_option maxHeartbeats 1600000 in
theorem page_mark (w : World) (Z : Nat → Prop) (p : Nat) (P : Pn) (h : Pm w Z p P) (V : Vv) (B : Pv) (fa : Option Addr) (fn fc : Nat) (hk : P.wk = 3) (hsh : P.sh = some 164) (R : Pn → List Value → Bool → Prop)
    (hT : ∀ W, Pm W Z p P → Only (fun _ => False) w W → Calls Tryz.prog 164 #[.pointer (some ⟨p, 0, none⟩), .agg V.ar, .agg B.ar, .slice fa fn fc] W (SQ W Z p R)) :
    Calls Tryz.prog 12 #[.pointer (some ⟨p, 0, none⟩), .agg V.ar, .agg B.ar, .slice fa fn fc] w (SQ w Z p R) := by
  have H3 := hide (St3.new w V B)
  have HH := hide (h.more H3.out.only)
  have HT := hide hT
  have HZW := hide h.zlt
  have HZP : Hid (Z p) := h.zp
  have HWN : Hid (∀ W, Pm W Z p P → Calls Tryz.prog 30 #[.pointer (some ⟨p, 0, none⟩), .int .i64 3] W fun e w' => e = .returned (.bool true) ∧ w' = W) := fun W hW => by
    have := wants_any W Z p P hW 3
    rw [hk] at this
    exact this
  have c10 := HH.out.cb.c 10 _ rfl
  rw [hsh] at c10
  unfold fv at c10
  simp only [] at c10
  clear h hT hk hsh
  unfold Vv.ar Pv.ar at *
  have HNV : Hid (¬ Z w.heap.size) := fun q => by have := HZW.out _ q; omega
  have HNP : Hid (¬ Z (w.heap.size + 1)) := fun q => by have := HZW.out _ q; omega
  have HNR : Hid (¬ Z (w.heap.size + 1 + 1)) := fun q => by have := HZW.out _ q; omega
  go_enter Tryz.func12, Tryz.ntmps12
  go_upto_region 1 with fail
  obtain ⟨W0, hW0⟩ : ∃ y, ((w.alloc (.cells #[.int .i64 V.m, .int .i64 V.nx, .slice V.aA V.nA V.cA, .int .i64 V.ow, .slice V.aR V.nR V.cR, .int .i64 V.l, .int .i64 V.k, .int .i64 V.v, .int .i64 V.r, .string V.h, .slice V.aP V.nP V.cP] 42)).alloc (.cells #[.int .i64 B.a, .int .i64 B.k, .int .i64 B.v, .int .i64 B.r, .string B.h, .slice B.ao B.n B.cp] 37)).alloc (.cells Hr.none.cells 50) = y := ⟨_, rfl⟩
  rw [hW0] at H3 HH c10 ⊢
  clear hW0
  have HSZ0 : Hid (w.heap.size + 1 + 1 < W0.heap.size) := H3.out.rb.lt
  go_wp2_with fail
  refine (HWN.out _ HH.out).mono ?_
  rintro x w1 ⟨rfl, h1⟩
  obtain rfl := h1.symm
  go_upto_region 3 with fail
  refine wp_region_noPanic ?_
  refine wp_region_held_drew (S := fun W => Cb W w.heap.size V.ar.toList ∧ Cb W (w.heap.size + 1) B.ar.toList) (by kernel_rfl) (⟨H3.out.vb.more (Only.drew _ _), H3.out.pb.more (Only.drew _ _)⟩) (fun hHeld => ?_)
  refine wpAnyH_take (i := 0) (oi := { dst := some 16, op := Op.move (Operand.tmp 0), type := 27, pos := "session.go:84", after := #[], guard := none }) (v := .pointer (some ⟨p, 0, none⟩)) rfl (by kernel_rfl) (by kernel_rfl) (by kernel_rfl) (fun _ _ _ h => h) (Or.inl ⟨by rfl, fun w' hSw => by clear hSw; go_simp⟩) (by assumption) ?_
  simp only [Act.put, List.setIfInBounds_toArray, List.set_cons_zero, List.set_cons_succ]
  refine wpAnyH_take (i := 4) (oi := { dst := some 20, op := Op.load 42 (Operand.tmp 5), type := 42, pos := "session.go:84", after := #[], guard := none }) (v := .agg V.ar) rfl (by kernel_rfl) (by kernel_rfl) (by kernel_rfl) (fun _ _ _ h => h) (yieldsIf_load_view (by rfl) _ rfl rfl (fun W hW => hW.1)) (by assumption) ?_
  simp only [Act.put, List.setIfInBounds_toArray, List.set_cons_zero, List.set_cons_succ]
  refine wpAnyH_take (i := 5) (oi := { dst := some 21, op := Op.load 37 (Operand.tmp 6), type := 37, pos := "session.go:84", after := #[], guard := none }) (v := .agg #[.int .i64 B.a, .int .i64 B.k, .int .i64 B.v, .int .i64 B.r, .string B.h, .slice B.ao B.n B.cp]) rfl (by kernel_rfl) (by kernel_rfl) (by kernel_rfl) (fun _ _ _ h => h) (yieldsIf_load_page (by rfl) _ rfl _ rfl (fun W hW => hW.2.pag)) (by assumption) ?_
  simp only [Act.put, List.setIfInBounds_toArray, List.set_cons_zero, List.set_cons_succ]
  refine wpAnyH_take (i := 6) (oi := { dst := some 22, op := Op.move (Operand.tmp 3), type := 38, pos := "session.go:84", after := #[], guard := none }) (v := .slice fa fn fc) rfl (by kernel_rfl) (by kernel_rfl) (by kernel_rfl) (fun _ _ _ h => h) (Or.inl ⟨by rfl, fun w' hSw => by clear hSw; go_simp⟩) (by assumption) ?_
  simp only [Act.put, List.setIfInBounds_toArray, List.set_cons_zero, List.set_cons_succ]
  refine wpAnyH_take (i := 1) (oi := { dst := some 17, op := Op.nilCheck (Operand.tmp 16), type := 0, pos := "session.go:84", after := #[{ on := 0, ground := Ground.data }], guard := none }) (v := .pointer (some ⟨p, 0, none⟩)) rfl (by kernel_rfl) (by kernel_rfl) (by kernel_rfl) (fun _ _ _ h => h) (Or.inl ⟨by rfl, fun w' hSw => by clear hSw; go_simp⟩) (by assumption) ?_
  simp only [Act.put, List.setIfInBounds_toArray, List.set_cons_zero, List.set_cons_succ]
  refine wpAnyH_take (i := 2) (oi := { dst := some 18, op := Op.fieldAddr 96 (Operand.tmp 17) 3, type := 0, pos := "session.go:84", after := #[{ on := 1, ground := Ground.data }], guard := none }) (v := .pointer (some ⟨p, 10, none⟩)) rfl (by kernel_rfl) (by kernel_rfl) (by kernel_rfl) (fun _ _ _ h => h) (Or.inl ⟨by rfl, fun w' hSw => by clear hSw; go_simp⟩) (by assumption) ?_
  simp only [Act.put, List.setIfInBounds_toArray, List.set_cons_zero, List.set_cons_succ]
  refine wpAnyH_ready (rs := [3]) (by kernel_rfl) (by simp) ?_
  refine AllReadyH.cons (o := { dst := some 19, op := Op.load 87 (Operand.tmp 18), type := 87, pos := "session.go:84", after := #[{ on := 2, ground := Ground.data }], guard := none }) rfl (fun K hK => ?_) (AllReadyH.nil)
  go_simp
  refine hK.out _ _ (hHeld) (fun hHeld => ?_)
  clear hK K
  try simp only [Act.put, List.setIfInBounds_toArray, List.set_cons_zero, List.set_cons_succ]
  refine wpAnyH_ready (rs := [7]) (by kernel_rfl) (by simp) ?_
  refine AllReadyH.cons (o := { dst := some 23, op := Op.call { callee := Callee.value (Operand.tmp 19), args := #[Operand.tmp 20, Operand.tmp 21, Operand.tmp 22], argTypes := #[42, 37, 38] }, type := 51, pos := "session.go:84", after := #[{ on := 3, ground := Ground.data }, { on := 4, ground := Ground.data }, { on := 5, ground := Ground.data }, { on := 6, ground := Ground.data }], guard := none }) rfl (fun K hK => ?_) (AllReadyH.nil)
  go_simp
  refine (HT.out _ (HH.out.more (Only.drew _ _)) (o2 H3.out.only (Only.drew _ _))).mono ?_
  rintro x w3 ⟨Z5, P5, cs, is, ⟨rfl, hcs, hone⟩, hz5, hp5, ho5, hR⟩
  have HS3 := hide (And.intro (H3.out.vb.kept ((Only.drew Z W0).trans ho5 (fun _ _ e => e) : Only Z W0 w3) HNV.out) (H3.out.pb.kept ((Only.drew Z W0).trans ho5 (fun _ _ e => e) : Only Z W0 w3) HNP.out))
  have HRB3 := hide (H3.out.rb.kept ((Only.drew Z W0).trans ho5 (fun _ _ e => e) : Only Z W0 w3) HNR.out)
  have HTH : Hid (w3.there (w.heap.size + 1 + 1) 0 cs.toArray.size) := by have := HRB3.out.rg.there; rw [show Hr.none.cl.length = cs.length from hcs.symm] at this; unfold Hid; simpa using this
  have HSZ : Hid ((Tryz.prog.info? 50).map (·.size) = some cs.toArray.size) := by unfold Hid; rw [Tryz.sizeRecF, List.size_toArray, hcs]
  have HON : Hid (cs.toArray.all Value.oneCell' = true) := by unfold Hid; simpa using hone
  have HC4 : Hid (Cb (w3.setCells (w.heap.size + 1 + 1) 0 cs) (w.heap.size + 1 + 1) cs) := by have q := Cb.sets (c1 := []) (c2 := Hr.none.cl) (c3 := []) (by simpa using HRB3.out) cs hcs; unfold Hid; simpa using q
  have HS4 := hide (And.intro (HS3.out.1.kept (only_setCells (w.heap.size + 1 + 1) cs 0 w3) (by omega)) (HS3.out.2.kept (only_setCells (w.heap.size + 1 + 1) cs 0 w3) (by omega)))
  have HP5 := hide hp5
  have HO5 := hide ((H3.out.only.mono (fun _ _ e => e.elim) : Only Z w W0).trans ((Only.drew Z W0).trans ho5 (fun _ _ e => e) : Only Z W0 w3) (fun _ _ e => e))
  have HZ5 : Hid (∀ b, b < W0.heap.size → Z5 b → Z b) := hz5
  have HRR := hide hR
  have HCS := hide hcs
  have HON2 := hide hone
  clear hp5 ho5 hz5 hR hcs hone
  refine hK.out _ _ (HS3.out) (fun hHeld => ?_)
  clear hK K
  try simp only [Act.put, List.setIfInBounds_toArray, List.set_cons_zero, List.set_cons_succ]
  refine wpAnyH_take (i := 8) (oi := { dst := some 24, op := Op.extract (Operand.tmp 23) 0, type := 50, pos := "session.go:84", after := #[{ on := 7, ground := Ground.data }], guard := none }) (v := .agg cs.toArray) rfl (by kernel_rfl) (by kernel_rfl) (by kernel_rfl) (fun _ _ _ h => h) (Or.inl ⟨by rfl, fun w' hSw => by clear hSw; go_simp⟩) (by assumption) ?_
  simp only [Act.put, List.setIfInBounds_toArray, List.set_cons_zero, List.set_cons_succ]
  refine wpAnyH_take (i := 9) (oi := { dst := some 25, op := Op.extract (Operand.tmp 23) 1, type := 4, pos := "session.go:84", after := #[{ on := 7, ground := Ground.data }], guard := none }) (v := .bool is) rfl (by kernel_rfl) (by kernel_rfl) (by kernel_rfl) (fun _ _ _ h => h) (Or.inl ⟨by rfl, fun w' hSw => by clear hSw; go_simp⟩) (by assumption) ?_
  simp only [Act.put, List.setIfInBounds_toArray, List.set_cons_zero, List.set_cons_succ]
  refine wpAnyH_ready (rs := [10]) (by kernel_rfl) (by simp) ?_
  refine AllReadyH.cons (o := { dst := none, op := Op.store 50 (Operand.tmp 8) (Operand.tmp 24), type := 0, pos := "session.go:84", after := #[{ on := 8, ground := Ground.data }, { on := 7, ground := Ground.chain }, { on := 0, ground := Ground.phase }, { on := 1, ground := Ground.phase }, { on := 2, ground := Ground.phase }, { on := 3, ground := Ground.phase }, { on := 4, ground := Ground.phase }, { on := 5, ground := Ground.phase }, { on := 6, ground := Ground.phase }, { on := 7, ground := Ground.phase }, { on := 8, ground := Ground.phase }, { on := 9, ground := Ground.phase }], guard := none }) rfl (fun K hK => ?_) (AllReadyH.nil)
  rw [if_pos (by rfl)]
  refine wp_store_mid 50 (.tmp 8) (.tmp 24) rfl (w.heap.size + 1 + 1) 0 cs.toArray rfl rfl HTH.out HSZ.out HON.out ?_
  refine hK.out _ _ (HS4.out) (fun hHeld => ?_)
  clear hK K
  simp only [Act.put]
  refine wpAnyH_take (i := 11) (oi := { dst := some 9, op := Op.assign (Operand.tmp 25), type := 4, pos := "session.go:84", after := #[{ on := 9, ground := Ground.data }, { on := 10, ground := Ground.chain }, { on := 0, ground := Ground.phase }, { on := 1, ground := Ground.phase }, { on := 2, ground := Ground.phase }, { on := 3, ground := Ground.phase }, { on := 4, ground := Ground.phase }, { on := 5, ground := Ground.phase }, { on := 6, ground := Ground.phase }, { on := 7, ground := Ground.phase }, { on := 8, ground := Ground.phase }, { on := 9, ground := Ground.phase }, { on := 10, ground := Ground.phase }], guard := none }) (v := .bool is) rfl (by kernel_rfl) (by kernel_rfl) (by kernel_rfl) (fun _ _ _ h => h) (Or.inl ⟨by rfl, fun w' hSw => by clear hSw; go_simp⟩) (by assumption) ?_
  simp only [Act.put, List.setIfInBounds_toArray, List.set_cons_zero, List.set_cons_succ]
  refine wpAnyH_done (by kernel_rfl) ?_ _
  refine NoPanic.normal ?_
  go_wp2_with fail
  refine bodyPost_ret (results_cb16 rfl rfl HC4.out HCS.out) rfl ?_
  refine ⟨Z5, P5, cs, is, ⟨rfl, HCS.out, HON2.out⟩, fun b hb q => HZ5.out b (Nat.lt_trans hb (Nat.lt_trans (by omega) HSZ0.out)) q, HP5.out.late (only_setCells (w.heap.size + 1 + 1) cs 0 w3) (fun q => HNR.out (HZ5.out _ HSZ0.out q)), ?_, HRR.out⟩
  exact HO5.out.trans (only_setCells (w.heap.size + 1 + 1) cs 0 w3) (fun i hi e => by omega)
theorem SQ.mono {w w' : World} {Z : Nat → Prop} {p : Nat} {R R2 : Pn → List Value → Bool → Prop} {e : Ending} (h : SQ w Z p R e w') (hR : ∀ P cs is, R P cs is → R2 P cs is) : SQ w Z p R2 e w' := by
  obtain ⟨Z', P', cs, is, h1, h2, h3, h4, h5⟩ := h
  exact ⟨Z', P', cs, is, h1, h2, h3, h4, hR _ _ _ h5⟩
theorem Nm.kept {S : Nat → Prop} {w w' : World} {x : Nd} {B : Nat} {ao : Option Addr} (h : Nm w x B ao) (ho : Only S w w') (hS : 0 < x.items.length → ¬ S B) : Nm w' x B ao := ⟨h.strs.kept ho hS, h.lvl, h.rt, h.ok, h.kok⟩
/-- The blocks of a view's lists are none of these. -/
structure SnOut (V : Vw) (q : Lo) (S : Nat → Prop) : Prop where
  a : 0 < V.act.length → ¬ S q.bA
  r : 0 < V.run.length → ¬ S q.bR
  p : 0 < V.pg.items.length → ¬ S q.bP
theorem Sn.kept {S : Nat → Prop} {W W' : World} {V : Vw} {q : Lo} (h : Sn W V q) (ho : Only S W W') (hS : SnOut V q S) : Sn W' V q := ⟨h.act.kept ho hS.a, h.run.kept ho hS.r, h.pg.kept ho hS.p, h.fit, h.m, h.next, h.own⟩
theorem SnOut.mono {V : Vw} {q : Lo} {S T : Nat → Prop} (h : SnOut V q S) (hT : ∀ b, T b → S b) : SnOut V q T := ⟨fun k t => h.a k (hT _ t), fun k t => h.r k (hT _ t), fun k t => h.p k (hT _ t)⟩
abbrev vvO (V : Vw) (q : Lo) : Vv := ⟨V.m, V.next, q.aA, V.act.length, q.cA, V.own, q.aR, V.run.length, q.cR, V.pg.lsn, V.pg.kind, V.pg.level, V.pg.right, V.pg.high, q.aP, V.pg.items.length, q.cP⟩
abbrev pvN (X : Nd) (a : Int) (ao : Option Addr) (cp : Nat) : Pv := ⟨a, 3, X.lv, X.rt, hiB X.hi, ao, X.items.length, cp⟩
/-- Hits of a leaf, through Page's allocations. -/
theorem hits_leaf (w : World) (X : Nd) (a : Int) (Bk cp : Nat) (ao : Option Addr) (hX : Nm w X Bk ao) (ha : 0 ≤ a ∧ a < 9223372036854775808) (hv : X.lv = 0) (f t : ByteArray) :
    ∀ W, Only (fun _ => False) w W → Calls Tryz.prog 93 #[.agg (pvN X a ao cp).ar, .string f, .string t] W fun x w' => HtA W w' x (X.es.filter (hitB f t)) (decide (X.rt ≠ 0) && X.goOn t) 0 := fun W ho => by
  have e : (pvN X a ao cp).ar = #[.int .i64 a, .int .i64 3, .int .i64 0, .int .i64 X.rt, .string (hiB X.hi), .slice ao X.items.length cp] := by
    show #[Value.int .i64 a, .int .i64 3, .int .i64 (X.lv : Int), .int .i64 X.rt, .string (hiB X.hi), .slice ao X.items.length cp] = _
    rw [hv]
    rfl
  rw [e]
  exact hits_nd W a X f t Bk cp ao (hX.more ho) ha hv
/-- The leaf is what it looks for. -/
theorem pg_leaf (w : World) (Z : Nat → Prop) (p : Nat) (P : Pn) (h : Pm w Z p P) (hk : P.wk = 3) (hsh : P.sh = some 92) (hth : P.th = some 51) (hs : 0 ≤ P.seen ∧ P.seen ≤ 4096) (hlv : P.lv = 0) (hte : P.te.ok = true) (hown : I64 P.own) (hkey : P.key.size ≤ 24)
    (V : Vv) (X : Nd) (a : Int) (Bk cp : Nat) (ao : Option Addr) (hX : Nm w X Bk ao) (ha : 0 ≤ a ∧ a < 9223372036854775808) (hv : X.lv = 0) (hhi : X.hi = noE) (hB : 0 < X.items.length → ¬ Z Bk) (fa : Option Addr) (fn fc : Nat) :
    Calls Tryz.prog 12 #[.pointer (some ⟨p, 0, none⟩), .agg V.ar, .agg (pvN X a ao cp).ar, .slice fa fn fc] w (SQ w Z p (fun P' cs is => is = false ∧ cs = Hr.none.cl ∧ ∃ A C, (X.es.filter (hitB P.key P.blw)).length ≤ C ∧ P' = P.sn.thr A C (X.es.filter (hitB P.key P.blw)) (decide (X.rt ≠ 0) && X.goOn P.blw) X.rt 0)) := by
  refine page_down w Z p P h V (pvN X a ao cp) fa fn fc hk hsh _ (fun W hP ho => ?_)
  have hX1 : Nm W X Bk ao := hX.more ho
  have hlen : (X.es.filter (hitB P.key P.blw)).length ≤ 1000000 := by
    have h1 := List.length_filter_le (hitB P.key P.blw) X.es
    have h2 := hX.few
    rw [Nd.es_len] at h1
    omega
  have hw := downL_any W Z p P hP V (pvN X a ao cp) fa fn fc hth hs 0 true 0 (fun P' cs is => is = false ∧ cs = Hr.none.cl ∧ ∃ A C, (X.es.filter (hitB P.key P.blw)).length ≤ C ∧ P' = P.sn.thr A C (X.es.filter (hitB P.key P.blw)) (decide (X.rt ≠ 0) && X.goOn P.blw) X.rt 0)
    (fun W2 ho2 => by
      have hX2 : Nm W2 X Bk ao := hX1.kept ho2 (fun q e => hB q (by rw [e]; exact hP.zp))
      have := way_nd W2 a X 0 P.te Bk cp ao hX2 ha hte (Nat.zero_le _)
      rw [show X.way 0 P.te = (0, true) from by unfold Nd.way; rw [hhi, byd_noE, if_neg (by decide), if_pos hv]] at this
      rw [hlv]
      exact this)
    (fun _ _ W2 hP2 ho2 => by
      have hX2 : Nm W2 X Bk ao := hX1.kept ho2 (fun q e => hB q (by rw [e]; exact hP.zp))
      exact lookThrough_any W2 Z p P.sn hP2 hown V (pvN X a ao cp) fa fn fc hkey _ _ 0 hlen (hits_leaf W2 X a Bk cp ao hX2 ha hv P.sn.key P.sn.blw))
  refine hw.mono (fun e w' q => q.mono (fun P' cs is r => ?_))
  rcases r with ⟨_, _, r⟩ | ⟨r, _⟩
  · exact r
  · exact absurd ⟨rfl, rfl⟩ r
/-- A version's numbers are small. -/
theorem look_small {k : Int} {l : List ByteArray} {i : Int} {key : ByteArray} {t : Tu} (h : lookL k l i key = some t) : I64 t.xmin ∧ I64 t.xmax := by
  unfold lookL at h
  cases hv : verL k l i with
  | none => rw [hv] at h; cases h
  | some t2 =>
    rw [hv] at h
    simp only [] at h
    have e : t2 = t := by
      by_cases q : t2.key = key
      · rw [if_pos q] at h; injection h
      · rw [if_neg q] at h; cases h
    subst e
    have hok : t2.ok = true := by
      unfold verL at hv
      by_cases q : k = 2 ∧ 0 ≤ i ∧ i < l.length
      · rw [if_pos q] at hv; exact (enc_decT hv).1
      · rw [if_neg q] at hv; cases hv
    have q := Tu.ok_iff.1 hok
    unfold I64
    omega
def tpO (o : Option Tu) : Tp := match o with | some t => ⟨t.xmin, t.xmax, t.frozen, t.key, t.value⟩ | none => ⟨0, 0, false, ⟨#[]⟩, ⟨#[]⟩⟩
/-- An entry's page. -/
theorem pg_at (w : World) (Z : Nat → Prop) (p : Nat) (P : Pn) (h : Pm w Z p P) (hk : P.wk = 3) (hsh : P.sh = some 135) (hown : I64 P.own) (hl : P.rows.length ≤ 1000) (e : En) (es : List En) (hh : P.hits = e :: es) (hcap : P.hits.length ≤ P.hc) (hmax : es.length ≤ 1000000)
    (V : Vw) (q : Lo) (hV : Sn w V q) (hVo : SnOut V q Z) (a k v r : Int) (hi : ByteArray) (Bk cp : Nat) (ao : Option Addr) (l : List ByteArray) (hS : Strs w Bk ao l) (hB : 0 < l.length → ¬ Z Bk) (fa : Option Addr) (fn fc : Nat) :
    Calls Tryz.prog 12 #[.pointer (some ⟨p, 0, none⟩), .agg (vvO V q).ar, .agg (Pv.ar ⟨a, k, v, r, hi, ao, l.length, cp⟩), .slice fa fn fc] w (SQ w Z p (fun P' cs is => is = false ∧ cs = Hr.none.cl ∧ ∃ a c, P' = P.lat es (vnewer V (tpO (lookL k l e.slot e.key))) (vvis V (tpO (lookL k l e.slot e.key))) e (lookL k l e.slot e.key) a c)) := by
  refine page_at w Z p P h (vvO V q) ⟨a, k, v, r, hi, ao, l.length, cp⟩ fa fn fc hk hsh _ (fun W hP ho => ?_)
  have hzp : ∀ b, (fun k => k = p) b → Z b := fun b e => by rw [e]; exact hP.zp
  refine lookAt_any W Z p P hP hown hl hk e es hh hcap hmax (vvO V q) ⟨a, k, v, r, hi, ao, l.length, cp⟩ fa fn fc (lookL k l e.slot e.key) _ _ (fun W2 ho2 => ?_) (fun t ht _ W2 ho2 => ?_) (fun t ht W2 ho2 => ?_)
  · exact look_any W2 a k v r hi Bk cp ao l e.slot e.key ((hS.more ho).kept ho2 (fun q e => hB q (hzp _ e)))
  · have := newer_any W2 V q (tpO (lookL k l e.slot e.key)) ((hV.more ho).kept ho2 (hVo.mono hzp)) (by rw [ht]; exact look_small ht)
    rw [ht] at this ⊢
    exact this
  · have := visible_any W2 V q (tpO (lookL k l e.slot e.key)) ((hV.more ho).kept ho2 (hVo.mono hzp)) (by rw [ht]; exact look_small ht)
    rw [ht] at this ⊢
    exact this
abbrev pA (a k v r : Int) (h : ByteArray) (ao : Option Addr) (n cp : Nat) : Value := .agg #[.int .i64 a, .int .i64 k, .int .i64 v, .int .i64 r, .string h, .slice ao n cp]
set_option maxHeartbeats 1600000 in
theorem entries_no (w : World) (a k v r : Int) (h : ByteArray) (ao : Option Addr) (n cp : Nat) (hb : hdO k v r h = none ∨ ¬ v = 0) :
    Calls Tryz.prog 101 #[pA a k v r h ao n cp] w fun x w' => x = .returned (.tuple #[.slice none 0 0, .int .i64 140]) ∧ Only (fun _ => False) w w' := by
  have HG := hide (Pag.new w (.int .i64 a) (.int .i64 k) (.int .i64 v) (.int .i64 r) (.string h) (.slice ao n cp))
  have HO := hide (onlyA w (.cells #[.int .i64 a, .int .i64 k, .int .i64 v, .int .i64 r, .string h, .slice ao n cp] 37))
  have HR := hide (fun W => readLeaf_no W a k v r h ao n cp hb)
  clear hb
  unfold pgv at HR
  go_enter Tryz.func101, Tryz.ntmps101
  go_upto_region 1 with fail
  obtain ⟨W0, hW0⟩ : ∃ x, w.alloc (.cells #[.int .i64 a, .int .i64 k, .int .i64 v, .int .i64 r, .string h, .slice ao n cp] 37) = x := ⟨_, rfl⟩
  rw [hW0] at HG HO ⊢
  clear hW0
  obtain ⟨p0, p1, p2, p3, p4, p5, _⟩ := HG.out
  go_wp2_with fail
  refine (HR.out _).mono ?_
  rintro x w1 ⟨⟨a1, n1, c1, a2, n2, c2, H, rfl⟩, ho⟩
  unfold cvv
  have HO1 := hide (o2 HO.out ho)
  clear ho p0 p1 p2 p3 p4 p5 HG HR
  have HA := hide (onlyA w1 (.cells #[.slice a1 n1 c1, .slice a2 n2 c2, .string H.key, .int .i64 H.page, .int .i64 H.slot] 164))
  go_upto_region 2 with fail
  obtain ⟨w2, hw2⟩ : ∃ x, w1.alloc (.cells #[.slice a1 n1 c1, .slice a2 n2 c2, .string H.key, .int .i64 H.page, .int .i64 H.slot] 164) = x := ⟨_, rfl⟩
  rw [hw2] at HA ⊢
  clear hw2
  go_wp2_with fail
  go_ret2
  exact ⟨rfl, o2 HO1.out HA.out⟩
/-- What is said of a page that came in. -/
structure PgA (w : World) (a : Int) (h : ByteArray) (B : Nat) (ao : Option Addr) (l : List ByteArray) : Prop where
  strs : Strs w B ao l
  few : l.length ≤ 8796093021952
  high : h.size ≤ 140737488355328
  lsn : a < 9223372036854775808
theorem PgA.more {w w' : World} {a : Int} {h : ByteArray} {B : Nat} {ao : Option Addr} {l : List ByteArray} (x : PgA w a h B ao l) (ho : Only (fun _ => False) w w') : PgA w' a h B ao l := ⟨x.strs.more ho, x.few, x.high, x.lsn⟩
theorem PgA.kept {S : Nat → Prop} {w w' : World} {a : Int} {h : ByteArray} {B : Nat} {ao : Option Addr} {l : List ByteArray} (x : PgA w a h B ao l) (ho : Only S w w') (hS : 0 < l.length → ¬ S B) : PgA w' a h B ao l := ⟨x.strs.kept ho hS, x.few, x.high, x.lsn⟩
set_option maxHeartbeats 1600000 in
/-- The entries of what is no leaf. -/
theorem entriesOf_no (w : World) (a k v r : Int) (h : ByteArray) (B cp : Nat) (ao : Option Addr) (l : List ByteArray) (hP : PgA w a h B ao l) (hb : ckB a k v r h l = false ∨ ¬ v = 0) :
    Calls Tryz.prog 132 #[pA a k v r h ao l.length cp] w fun x w' => x = .returned (.tuple #[.slice none 0 0, .int .i64 140]) ∧ Only (fun _ => False) w w' := by
  have HP := hide (Pag.new w (.int .i64 a) (.int .i64 k) (.int .i64 v) (.int .i64 r) (.string h) (.slice ao l.length cp))
  have HO := hide (onlyA w (.cells #[.int .i64 a, .int .i64 k, .int .i64 v, .int .i64 r, .string h, .slice ao l.length cp] 37))
  have hCK := check_any _ a k v r h B cp ao l (hP.strs.more HO.out) hP.few hP.high hP.lsn
  cases hc : ckB a k v r h l
  · rw [hc] at hCK
    have HCK : Hid (Calls Tryz.prog 52 #[.agg #[.int .i64 a, .int .i64 k, .int .i64 v, .int .i64 r, .string h, .slice ao l.length cp]] _ fun x w' => x = .returned (.int .i64 140) ∧ Only (fun _ => False) _ w') := hCK
    obtain ⟨n, hn⟩ : ∃ n, l.length = n := ⟨_, rfl⟩
    rw [hn] at HP HO HCK ⊢
    clear hn hCK hP hb hc
    go_enter Tryz.func132, Tryz.ntmps132
    go_upto_region 1 with fail
    obtain ⟨W0, hW0⟩ : ∃ x, w.alloc (.cells #[.int .i64 a, .int .i64 k, .int .i64 v, .int .i64 r, .string h, .slice ao n cp] 37) = x := ⟨_, rfl⟩
    rw [hW0] at HP HO HCK ⊢
    clear hW0
    obtain ⟨p0, p1, p2, p3, p4, p5, _⟩ := HP.out
    go_wp2_with fail
    refine HCK.out.mono ?_
    rintro x w1 ⟨rfl, ho⟩
    have HO1 := hide (o2 HO.out ho)
    clear ho p0 p1 p2 p3 p4 p5 HP HO HCK
    go_wp2_with fail
    go_ret2
    exact ⟨rfl, HO1.out⟩
  · rw [hc] at hCK hb
    have hv : ¬ v = 0 := hb.resolve_left (by decide)
    have HCK : Hid (Calls Tryz.prog 52 #[.agg #[.int .i64 a, .int .i64 k, .int .i64 v, .int .i64 r, .string h, .slice ao l.length cp]] _ fun x w' => x = .returned (.int .i64 0) ∧ Only (fun _ => False) _ w') := hCK
    have HEN := hide (fun W => entries_no W a k v r h ao l.length cp (.inr hv))
    obtain ⟨n, hn⟩ : ∃ n, l.length = n := ⟨_, rfl⟩
    rw [hn] at HP HO HCK HEN ⊢
    clear hn hCK hP hb hc hv
    go_enter Tryz.func132, Tryz.ntmps132
    go_upto_region 1 with fail
    obtain ⟨W0, hW0⟩ : ∃ x, w.alloc (.cells #[.int .i64 a, .int .i64 k, .int .i64 v, .int .i64 r, .string h, .slice ao n cp] 37) = x := ⟨_, rfl⟩
    rw [hW0] at HP HO HCK ⊢
    clear hW0
    obtain ⟨p0, p1, p2, p3, p4, p5, _⟩ := HP.out
    go_wp2_with fail
    refine HCK.out.mono ?_
    rintro x w1 ⟨rfl, ho⟩
    have HP1 := hide (HP.out.more ho)
    have HO1 := hide (o2 HO.out ho)
    clear ho p0 p1 p2 p3 p4 p5 HP HO HCK
    obtain ⟨p0, p1, p2, p3, p4, p5, _⟩ := HP1.out
    go_wp2_with fail
    refine (HEN.out _).mono ?_
    rintro x w2 ⟨rfl, ho⟩
    have HO2 := hide (o2 HO1.out ho)
    clear ho
    go_wp2_with fail
    go_ret2
    exact ⟨rfl, HO2.out⟩
set_option maxHeartbeats 1600000 in
/-- The hits of what is no leaf. -/
theorem hits_no (w : World) (a k v r : Int) (h : ByteArray) (B cp : Nat) (ao : Option Addr) (l : List ByteArray) (hP : PgA w a h B ao l) (hb : ckB a k v r h l = false ∨ ¬ v = 0) (f t : ByteArray) :
    Calls Tryz.prog 93 #[pA a k v r h ao l.length cp, .string f, .string t] w fun x w' => HtA w w' x [] false 140 := by
  have HP := hide (Pag.new w (.int .i64 a) (.int .i64 k) (.int .i64 v) (.int .i64 r) (.string h) (.slice ao l.length cp))
  have HO := hide (onlyA w (.cells #[.int .i64 a, .int .i64 k, .int .i64 v, .int .i64 r, .string h, .slice ao l.length cp] 37))
  have HEN := hide (entriesOf_no _ a k v r h B cp ao l (hP.more HO.out) hb)
  obtain ⟨n, hn⟩ : ∃ n, l.length = n := ⟨_, rfl⟩
  rw [hn] at HP HO HEN ⊢
  clear hn hP hb
  go_enter Tryz.func93, Tryz.ntmps93
  go_upto_region 1 with fail
  obtain ⟨W0, hW0⟩ : ∃ x, w.alloc (.cells #[.int .i64 a, .int .i64 k, .int .i64 v, .int .i64 r, .string h, .slice ao n cp] 37) = x := ⟨_, rfl⟩
  rw [hW0] at HP HO HEN ⊢
  clear hW0
  obtain ⟨p0, p1, p2, p3, p4, p5, _⟩ := HP.out
  go_wp2_with fail
  refine HEN.out.mono ?_
  rintro x w1 ⟨rfl, ho⟩
  have HO1 := hide (o2 HO.out ho)
  clear ho p0 p1 p2 p3 p4 p5 HP HO HEN
  go_wp2_with fail
  go_ret3
  exact ⟨none, 0, rfl, Ets.nil _ _, HO1.out⟩
set_option maxHeartbeats 1600000 in
/-- The way from what is no node. -/
theorem way_no (w : World) (a k v r lv : Int) (h : ByteArray) (B cp : Nat) (ao : Option Addr) (l : List ByteArray) (e : En) (hP : PgA w a h B ao l) (hb : ckB a k v r h l = false) :
    Calls Tryz.prog 28 #[pA a k v r h ao l.length cp, .int .i64 lv, .agg #[.string e.key, .int .i64 e.page, .int .i64 e.slot]] w fun x w' => x = .returned (.tuple #[.int .i64 0, .bool false, .int .i64 140]) ∧ Only (fun _ => False) w w' := by
  have HX := hide (pe_new w (.int .i64 a) (.int .i64 k) (.int .i64 v) (.int .i64 r) (.string h) (.slice ao l.length cp) e)
  have hCK := check_any _ a k v r h B cp ao l (hP.strs.more HX.out.2.2) hP.few hP.high hP.lsn
  rw [hb] at hCK
  have HCK : Hid (Calls Tryz.prog 52 #[.agg #[.int .i64 a, .int .i64 k, .int .i64 v, .int .i64 r, .string h, .slice ao l.length cp]] _ fun x w' => x = .returned (.int .i64 140) ∧ Only (fun _ => False) _ w') := hCK
  obtain ⟨n, hn⟩ : ∃ n, l.length = n := ⟨_, rfl⟩
  rw [hn] at HX HCK ⊢
  clear hn hCK hP hb
  go_enter Tryz.func28, Tryz.ntmps28
  go_upto_region 1 with fail
  obtain ⟨W0, hW0⟩ : ∃ x, (w.alloc (.cells #[.int .i64 a, .int .i64 k, .int .i64 v, .int .i64 r, .string h, .slice ao n cp] 37)).alloc (.cells #[.string e.key, .int .i64 e.page, .int .i64 e.slot] 89) = x := ⟨_, rfl⟩
  rw [hW0] at HX HCK ⊢
  clear hW0
  obtain ⟨p0, p1, p2, p3, p4, p5, _⟩ := HX.out.1
  go_wp2_with fail
  refine HCK.out.mono ?_
  rintro x w1 ⟨rfl, ho⟩
  have HO1 := hide (o2 HX.out.2.2 ho)
  clear ho p0 p1 p2 p3 p4 p5 HX HCK
  go_wp2_with fail
  go_ret3
  exact ⟨rfl, HO1.out⟩
end Go.Proofs.YtajjakljheafjaaGreat
