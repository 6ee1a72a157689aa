/- Parts. -/
import Derived.Deep.RegionHeld3
import Derived.Deep.Draws
import Derived.Test.YtpnbhddmdfcjdaaGreatK28
import Derived.Test.YtpnbhddmdfcjdaaGreatK29
import Derived.Test.YtpnbhddmdfcjdaaGreatK30
import Derived.Test.YtpnbhddmdfcjdaaGreatK31
set_option maxRecDepth 100000
namespace Go.Proofs.YtpnbhddmdfcjdaaGreat
open Go.RowKit
/-- Three cells of a variable in block b. -/
structure WB (w : World) (b : Nat) (v0 v1 v2 : Value) : Prop where
  c0 : w.cell? ⟨b, 0, none⟩ = some v0
  c1 : w.cell? ⟨b, 1, none⟩ = some v1
  c2 : w.cell? ⟨b, 2, none⟩ = some v2
  f0 : w.frozen? ⟨b, 0, none⟩ = false
  f1 : w.frozen? ⟨b, 1, none⟩ = false
  f2 : w.frozen? ⟨b, 2, none⟩ = false
  lt : b < w.heap.size
theorem WB.kept {S : Nat → Prop} {w w' : World} {b : Nat} {v0 v1 v2 : Value} (h : WB w b v0 v1 v2) (ho : Only S w w') (hS : ¬ S b) : WB w' b v0 v1 v2 :=
  ⟨(ho.cell (p := ⟨b, 0, none⟩) h.lt hS).trans h.c0, (ho.cell (p := ⟨b, 1, none⟩) h.lt hS).trans h.c1, (ho.cell (p := ⟨b, 2, none⟩) h.lt hS).trans h.c2,
   (ho.frozen (p := ⟨b, 0, none⟩) h.lt hS).trans h.f0, (ho.frozen (p := ⟨b, 1, none⟩) h.lt hS).trans h.f1, (ho.frozen (p := ⟨b, 2, none⟩) h.lt hS).trans h.f2, Nat.lt_of_lt_of_le h.lt ho.size⟩
theorem WB.more {w w' : World} {b : Nat} {v0 v1 v2 : Value} (h : WB w b v0 v1 v2) (ho : Only (fun _ => False) w w') : WB w' b v0 v1 v2 := h.kept ho (fun h => h)
theorem WB.new (w : World) (t : TypeId) (v0 v1 v2 : Value) : WB (w.alloc (.cells #[v0, v1, v2] t)) w.heap.size v0 v1 v2 := ⟨by simp, by simp, by simp, by simp, by simp, by simp, by simp⟩
theorem WB.s0 {w : World} {b : Nat} {v0 v1 v2 : Value} (h : WB w b v0 v1 v2) (u : Value) : WB (w.setCell ⟨b, 0, none⟩ u) b u v1 v2 :=
  ⟨World.cell?_setCell_same _ _ _ h.c0, othU _ _ _ _ _ _ (by omega) h.c1, othU _ _ _ _ _ _ (by omega) h.c2, by simpa using h.f0, by simpa using h.f1, by simpa using h.f2, by simpa using h.lt⟩
theorem WB.s1 {w : World} {b : Nat} {v0 v1 v2 : Value} (h : WB w b v0 v1 v2) (u : Value) : WB (w.setCell ⟨b, 1, none⟩ u) b v0 u v2 :=
  ⟨othU _ _ _ _ _ _ (by omega) h.c0, World.cell?_setCell_same _ _ _ h.c1, othU _ _ _ _ _ _ (by omega) h.c2, by simpa using h.f0, by simpa using h.f1, by simpa using h.f2, by simpa using h.lt⟩
theorem WB.s2 {w : World} {b : Nat} {v0 v1 v2 : Value} (h : WB w b v0 v1 v2) (u : Value) : WB (w.setCell ⟨b, 2, none⟩ u) b v0 v1 u :=
  ⟨othU _ _ _ _ _ _ (by omega) h.c0, othU _ _ _ _ _ _ (by omega) h.c1, World.cell?_setCell_same _ _ _ h.c2, by simpa using h.f0, by simpa using h.f1, by simpa using h.f2, by simpa using h.lt⟩
theorem WB.all {w : World} {b : Nat} {v0 v1 v2 : Value} (h : WB w b v0 v1 v2) (u0 u1 u2 : Value) : WB (((w.setCell ⟨b, 0, none⟩ u0).setCell ⟨b, 1, none⟩ u1).setCell ⟨b, 2, none⟩ u2) b u0 u1 u2 := ((h.s0 u0).s1 u1).s2 u2
theorem Only.threeW (w : World) (b : Nat) (u0 u1 u2 : Value) : Only (fun k => k = b) w (((w.setCell ⟨b, 0, none⟩ u0).setCell ⟨b, 1, none⟩ u1).setCell ⟨b, 2, none⟩ u2) := by
  have st : ∀ (W : World) (i : Nat) (v : Value), Only (fun k => k = b) W (W.setCell ⟨b, i, none⟩ v) := fun W i v => Only.setCell W ⟨b, i, none⟩ v rfl
  exact ((st _ 0 _).trans (st _ 1 _) (fun _ _ h => h)).trans (st _ 2 _) (fun _ _ h => h)
theorem load_work {w : World} {b : Nat} {v0 v1 v2 : Value} (h : WB w b v0 v1 v2) : (loadVar 39 ⟨b, 0, none⟩).run Tryz.prog w = .ok (.agg #[v0, v1, v2]) w := by
  have c0 := h.c0
  have c1 := h.c1
  have c2 := h.c2
  simp [loadVar, go_sem, c0, c1, c2]
theorem load_viewI {w : World} {b : Nat} {v0 v1 v2 v3 v4 v5 v6 v7 v8 v9 v10 : Value} (h : VB w b v0 v1 v2 v3 v4 v5 v6 v7 v8 v9 v10) : (loadVar 32 ⟨b, 0, none⟩).run Tryz.prog w = .ok (.agg #[v0, v1, v2, v3, v4, v5, v6, v7, v8, v9, v10]) w := by
  have c0 := h.c0
  have c1 := h.c1
  have c2 := h.c2
  have c3 := h.c3
  have c4 := h.c4
  have c5 := h.c5
  have c6 := h.c6
  have c7 := h.c7
  have c8 := h.c8
  have c9 := h.c9
  have c10 := h.c10
  simp [loadVar, go_sem, c0, c1, c2, c3, c4, c5, c6, c7, c8, c9, c10]
theorem yieldsIf_load_viewI {ops : Array Oper} {S : World → Prop} {op : Oper} {a : Act} {v0 v1 v2 v3 v4 v5 v6 v7 v8 v9 v10 : Value} (hw : Region.wanted op (yielded ops a.tmps) = true) (x : Operand) (ho : op.op = .load 32 x)
    {b : Nat} (hx : a.eval x = .pointer (some ⟨b, 0, none⟩)) (hS : ∀ w, S w → VB w b v0 v1 v2 v3 v4 v5 v6 v7 v8 v9 v10) : YieldsIf Tryz.prog ops S op (.agg #[v0, v1, v2, v3, v4, v5, v6, v7, v8, v9, v10]) a :=
  .inl ⟨hw, fun w hw' => by
    unfold execOp
    simp only [ho, hx, Instr.loadAt, Instr.sureAddr, Sem.run_bind, Sem.run_pure, Result.andThen_ok, load_viewI (hS w hw')]⟩
/-- The rows that grow, from W1 on alone, and the variable b that leads to them. -/
structure SoSt (W1 wr : World) (b : Nat) (v0 v1 v2 : Value) (K : Wk) : Prop where
  wb : WB wr b v0 v1 v2
  at_ : WkAt wr W1.heap.size v0 v1 v2 K
  only : Only (fun k => k = b ∨ W1.heap.size ≤ k) W1 wr
  lt : b < W1.heap.size
theorem SoSt.more {W1 wr w' : World} {b : Nat} {v0 v1 v2 : Value} {K : Wk} (h : SoSt W1 wr b v0 v1 v2 K) (ho : Only (fun _ => False) wr w') : SoSt W1 w' b v0 v1 v2 K :=
  ⟨h.wb.more ho, h.at_.more ho, h.only.trans ho (fun _ _ e => e.elim), h.lt⟩
theorem SoSt.fr {W1 wr w' : World} {b : Nat} {v0 v1 v2 v' : Value} {K : Wk} {L : List Int} (h : SoSt W1 wr b v0 v1 v2 K) (hr : IRw w' W1.heap.size v' L) (ho : Only (fun i => some i = v0.ownBlock) wr w') (hb : v'.ownBlock = v0.ownBlock ∨ ∃ k, v'.ownBlock = some k ∧ wr.heap.size ≤ k) : SoSt W1 (w'.setCell ⟨b, 0, none⟩ v') b v' v1 v2 ⟨L, K.of, K.gn⟩ :=
  have hl := h.lt
  have hs := Only.setCell (S := fun k => k = b) w' ⟨b, 0, none⟩ v' rfl
  ⟨(h.wb.kept ho (fun e => by have := (h.at_.fr.low b e.symm).1; omega)).s0 v', (h.at_.setFr hr ho hb).kept hs (fun k hk e => by omega),
   (h.only.trans ho (fun i _ e => .inr (h.at_.fr.low i e.symm).1)).trans hs (fun i _ e => .inl e), hl⟩
theorem SoSt.of {W1 wr w' : World} {b : Nat} {v0 v1 v2 v' : Value} {K : Wk} {L : List Int} (h : SoSt W1 wr b v0 v1 v2 K) (hr : IRw w' W1.heap.size v' L) (ho : Only (fun i => some i = v1.ownBlock) wr w') (hb : v'.ownBlock = v1.ownBlock ∨ ∃ k, v'.ownBlock = some k ∧ wr.heap.size ≤ k) : SoSt W1 (w'.setCell ⟨b, 1, none⟩ v') b v0 v' v2 ⟨K.fr, L, K.gn⟩ :=
  have hl := h.lt
  have hs := Only.setCell (S := fun k => k = b) w' ⟨b, 1, none⟩ v' rfl
  ⟨(h.wb.kept ho (fun e => by have := (h.at_.of.low b e.symm).1; omega)).s1 v', (h.at_.setOf hr ho hb).kept hs (fun k hk e => by omega),
   (h.only.trans ho (fun i _ e => .inr (h.at_.of.low i e.symm).1)).trans hs (fun i _ e => .inl e), hl⟩
theorem SoSt.gn {W1 wr w' : World} {b : Nat} {v0 v1 v2 v' : Value} {K : Wk} {L : List En} (h : SoSt W1 wr b v0 v1 v2 K) (hr : ERows w' W1.heap.size v' L) (ho : Only (fun i => some i = v2.ownBlock) wr w') (hb : v'.ownBlock = v2.ownBlock ∨ ∃ k, v'.ownBlock = some k ∧ wr.heap.size ≤ k) : SoSt W1 (w'.setCell ⟨b, 2, none⟩ v') b v0 v1 v' ⟨K.fr, K.of, L⟩ :=
  have hl := h.lt
  have hs := Only.setCell (S := fun k => k = b) w' ⟨b, 2, none⟩ v' rfl
  ⟨(h.wb.kept ho (fun e => by have := (h.at_.gn.low b e.symm).1; omega)).s2 v', (h.at_.setGn hr ho hb).kept hs (fun k hk e => by omega),
   (h.only.trans ho (fun i _ e => .inr (h.at_.gn.low i e.symm).1)).trans hs (fun i _ e => .inl e), hl⟩
theorem Wk.step_gn {V : Vw} {h pg : Int} {K : Wk} {i : Nat} {s : ByteArray} (hg : gnS V h s = true) : K.step V h pg i s = ⟨K.fr, K.of, K.gn ++ [⟨keyB s, pg, i⟩]⟩ := by unfold Wk.step; rw [if_pos hg]
theorem Wk.step_no {V : Vw} {h pg : Int} {K : Wk} {i : Nat} {s : ByteArray} (hd : decT (bl s) = none) (hs : (stT (bl s) == 2) = false) : K.step V h pg i s = K := by
  unfold Wk.step gnS fzS ofS
  rw [hd, hs]
  rfl
theorem Wk.step_lv {V : Vw} {h pg : Int} {K : Wk} {i : Nat} {s : ByteArray} {t : Tu} (hd : decT (bl s) = some t) (hs : (stT (bl s) == 2) = false) (hg : vgone V t.tp h = false) : K.step V h pg i s = ⟨if vold V t.tp h = true then K.fr ++ [(i : Int)] else K.fr, if voff V t.tp = true then K.of ++ [(i : Int)] else K.of, K.gn⟩ := by
  unfold Wk.step gnS fzS ofS
  simp only [hd, hs, hg]
  rfl
theorem gnS_dead {V : Vw} {h : Int} {s : ByteArray} (hs : (stT (bl s) == 2) = true) : gnS V h s = true := by unfold gnS; rw [hs]; rfl
theorem gnS_lv {V : Vw} {h : Int} {s : ByteArray} {t : Tu} (hd : decT (bl s) = some t) (hg : vgone V t.tp h = true) : gnS V h s = true := by unfold gnS; simp only [hd, hg, Bool.or_true]
theorem stT_lv {s : ByteArray} {t : Tu} (hd : decT (bl s) = some t) : (stT (bl s) == 2) = false := by unfold stT; rw [hd]; rfl
theorem deR_six {w W5 W6 : World} {sl : Value} {e : Ending} {p : Pg} {c : Int} (hw : Only (fun _ => False) w W5) (h : DeR W5 W6 sl e p c) (own : ∀ j, sl.ownBlock = some j → j < w.heap.size) (rb : Nat) (h1 : w.heap.size ≤ rb) (h2 : rb < W5.heap.size) (v0 v1 v2 v3 v4 v5 : Value) :
    DeR w ((((((W6.setCell ⟨rb, 0, none⟩ v0).setCell ⟨rb, 1, none⟩ v1).setCell ⟨rb, 2, none⟩ v2).setCell ⟨rb, 3, none⟩ v3).setCell ⟨rb, 4, none⟩ v4).setCell ⟨rb, 5, none⟩ v5) sl e p c := by
  obtain ⟨B, ao, cp, he, hS, hF, ho, hB⟩ := h
  have h6 := Only.six W6 rb v0 v1 v2 v3 v4 v5
  refine ⟨B, ao, cp, he, hS.kept h6 (fun h0 e => ?_), hF, ((hw.mono (fun _ _ h => h.elim)).trans ho (fun _ _ h => h)).trans h6 (fun i hi e => by omega), fun h0 => (hB h0).imp id (fun h => Nat.le_trans hw.size h)⟩
  rcases hB h0 with h | h
  · have := own _ h
    omega
  · omega
theorem zs_one (W : World) (z : Int) : Zs (W.alloc (.cells #[.int .i64 z] 3)) W.heap.size (some ⟨W.heap.size, 0, none⟩) [z] :=
  ⟨fun _ => ⟨0, rfl, fun j hj => by
    have : j = 0 := by simp at hj; omega
    subst this
    simp⟩, fun _ => by simp, by simp⟩
set_option maxRecDepth 100000 in
set_option maxHeartbeats 800000 in
theorem ending_any (w : World) (o n : Int) : Calls Tryz.prog 118 #[.int .i64 o, .int .i64 n] w fun e w' => ∃ b1 b2, e = .returned (.func (.func 165) #[] #[.pointer (some ⟨b1, 0, none⟩), .pointer (some ⟨b2, 0, none⟩)]) ∧ Two w' b1 b2 o n ∧ Only (fun _ => False) w w' ∧ w.heap.size ≤ b1 ∧ w.heap.size ≤ b2 := by
  have hmf : ∀ (fn : Fn) (first cap : Array Value) (w : World), (Instr.makeFunc fn first cap).run Tryz.prog w = .ok (.func fn first cap) w := fun _ _ _ _ => rfl
  have H2 : Hid (Two ((w.alloc (.cells #[.int .i64 o] 3)).alloc (.cells #[.int .i64 n] 3)) w.heap.size (w.heap.size + 1) o n) := by
    refine ⟨?_, ?_, ?_, ?_⟩
    · simp
    · simp
    · simp; omega
    · simp
  go_enter Tryz.func118, Tryz.ntmps118
  go_wp2_with fail
  go_ret
  exact ⟨_, _, rfl, H2.out, o2 (onlyA _ _) (onlyA _ _), Nat.le_refl _, by omega⟩
set_option maxRecDepth 100000 in
set_option maxHeartbeats 3200000 in
theorem mark_any (w : World) (a k v r : Int) (h : ByteArray) (base : Nat) (sl : Value) (l : List ByteArray) (hL : Ls w base sl l) (hsz : ∀ s ∈ l, s.size ≤ 140737488355328) (hln : l.length ≤ 8796093022207) (R : Rc) (L : Loc) (hn : -9223372036854775808 ≤ R.new ∧ R.new < 9223372036854775808) :
    Calls Tryz.prog 73 #[.agg #[.int .i64 a, .int .i64 k, .int .i64 v, .int .i64 r, .string h, sl], .agg (R.cells L)] w fun e w' => DeR w w' sl e (Pg.chg ⟨a, k, v, r, h, l⟩ (chgL (cgE R.old R.new) [R.slot] l)) (chgL (cgE R.old R.new) [R.slot] l).2 := by
  have HB := hide (boxR_new w a k v r h sl R L)
  have HOW : Hid (∀ j, sl.ownBlock = some j → j < w.heap.size) := fun j hj => (World.ownsRow.lt hL j hj).2
  obtain ⟨P, hP⟩ : ∃ P, Pg.chg ⟨a, k, v, r, h, l⟩ (chgL (cgE R.old R.new) [R.slot] l) = P := ⟨_, rfl⟩
  obtain ⟨C, hC⟩ : ∃ C, (chgL (cgE R.old R.new) [R.slot] l).2 = C := ⟨_, rfl⟩
  have HCH : Hid (∀ W zb b1 b2, Only (fun _ => False) w W → Zs W zb (some ⟨zb, 0, none⟩) [R.slot] → Two W b1 b2 R.old R.new → w.heap.size ≤ zb → w.heap.size ≤ b1 → w.heap.size ≤ b2 → Calls Tryz.prog 117 #[.agg #[.int .i64 a, .int .i64 k, .int .i64 v, .int .i64 r, .string h, sl], .func (.func 165) #[] #[.pointer (some ⟨b1, 0, none⟩), .pointer (some ⟨b2, 0, none⟩)], .slice (some ⟨zb, 0, none⟩) 1 1] W fun e w' => DeR W w' sl e P C) := fun W zb b1 b2 ho hz h2 g0 g1 g2 => by
    refine (changed_E W a k v r h base sl l (hL.more ho) hsz [R.slot] zb 1 (some ⟨zb, 0, none⟩) hz (fun _ q => by have := HOW.out _ q; omega) b1 b2 R.old R.new h2 (fun q => by have := HOW.out _ q; omega) (fun q => by have := HOW.out _ q; omega) hn).mono ?_
    intro e w' hq
    rw [← hP, ← hC]
    exact hq.der (Nat.le_trans (chgL_len _ _ _) hln)
  rw [hP, hC]
  clear hP hC hL hsz hln hn
  go_enter Tryz.func73, Tryz.ntmps73
  go_upto_region 1 with fail
  obtain ⟨W0, hW0⟩ : ∃ x, boxR w a k v r h sl R L = x := ⟨_, rfl⟩
  rw [hW0] at HB
  unfold boxR at hW0
  rw [hW0]
  clear hW0
  have HPG : Hid (∀ W, Only (fun j => sl.ownBlock = some j ∨ j = w.heap.size + 1 + 1) W0 W → Pag W w.heap.size (.int .i64 a) (.int .i64 k) (.int .i64 v) (.int .i64 r) (.string h) sl) := fun W ho => HB.out.pag.kept ho (fun q => q.elim (fun q => by have := HOW.out _ q; omega) (fun q => by omega))
  have HRC : Hid (∀ W, Only (fun j => sl.ownBlock = some j ∨ j = w.heap.size + 1 + 1) W0 W → Bx W (w.heap.size + 1) R L) := fun W ho => HB.out.rc.kept ho (fun q => q.elim (fun q => by have := HOW.out _ q; omega) (fun q => by omega))
  have HRB : Hid (w.heap.size + 1 + 1 < W0.heap.size) := HB.out.res.lt
  refine wp_region_noPanic ?_
  refine wp_region_held_drew (S := fun W => Only (fun j => sl.ownBlock = some j ∨ j = w.heap.size + 1 + 1) W0 W) (by kernel_rfl) ((Only.drew _ W0)) (fun hHeld => ?_)
  refine wpAnyH_take (i := 0) (oi := { dst := some 6, op := Op.load 30 (Operand.tmp 2), type := 30, pos := "deeds.go:53", after := #[], guard := none }) (v := .agg #[.int .i64 a, .int .i64 k, .int .i64 v, .int .i64 r, .string h, sl]) rfl (by kernel_rfl) (by kernel_rfl) (by kernel_rfl) (fun _ _ _ h => h) (yieldsIf_load_page (by rfl) _ rfl _ rfl (fun W hW => HPG.out W hW)) (by assumption) ?_
  simp only [Act.put, List.setIfInBounds_toArray, List.set_cons_zero, List.set_cons_succ]
  refine wpAnyH_take (i := 1) (oi := { dst := some 7, op := Op.fieldAddr 47 (Operand.tmp 3) 7, type := 0, pos := "deeds.go:53", after := #[], guard := none }) (v := .pointer (some ⟨(w.heap.size + 1), 7, none⟩)) rfl (by kernel_rfl) (by kernel_rfl) (by kernel_rfl) (fun _ _ _ h => h) (Or.inl ⟨by rfl, fun w' hSw => by clear hSw; go_simp⟩) (by assumption) ?_
  simp only [Act.put, List.setIfInBounds_toArray, List.set_cons_zero, List.set_cons_succ]
  refine wpAnyH_take (i := 3) (oi := { dst := some 9, op := Op.fieldAddr 47 (Operand.tmp 3) 8, type := 0, pos := "deeds.go:53", after := #[], guard := none }) (v := .pointer (some ⟨(w.heap.size + 1), 8, none⟩)) rfl (by kernel_rfl) (by kernel_rfl) (by kernel_rfl) (fun _ _ _ h => h) (Or.inl ⟨by rfl, fun w' hSw => by clear hSw; go_simp⟩) (by assumption) ?_
  simp only [Act.put, List.setIfInBounds_toArray, List.set_cons_zero, List.set_cons_succ]
  refine wpAnyH_take (i := 6) (oi := { dst := some 12, op := Op.fieldAddr 47 (Operand.tmp 3) 6, type := 0, pos := "deeds.go:53", after := #[], guard := none }) (v := .pointer (some ⟨(w.heap.size + 1), 6, none⟩)) rfl (by kernel_rfl) (by kernel_rfl) (by kernel_rfl) (fun _ _ _ h => h) (Or.inl ⟨by rfl, fun w' hSw => by clear hSw; go_simp⟩) (by assumption) ?_
  simp only [Act.put, List.setIfInBounds_toArray, List.set_cons_zero, List.set_cons_succ]
  refine wpAnyH_take (i := 2) (oi := { dst := some 8, op := Op.load 3 (Operand.tmp 7), type := 3, pos := "deeds.go:53", after := #[{ on := 1, ground := Ground.data }], guard := none }) (v := .int .i64 R.old) rfl (by kernel_rfl) (by kernel_rfl) (by kernel_rfl) (fun _ _ _ h => h) (yieldsIf_load_cell (by rfl) 3 _ rfl _ rfl (fun W hW => (HRC.out W hW).c7) (fun W hc => ld_int hc)) (by assumption) ?_
  simp only [Act.put, List.setIfInBounds_toArray, List.set_cons_zero, List.set_cons_succ]
  refine wpAnyH_take (i := 4) (oi := { dst := some 10, op := Op.load 3 (Operand.tmp 9), type := 3, pos := "deeds.go:53", after := #[{ on := 3, ground := Ground.data }], guard := none }) (v := .int .i64 R.new) rfl (by kernel_rfl) (by kernel_rfl) (by kernel_rfl) (fun _ _ _ h => h) (yieldsIf_load_cell (by rfl) 3 _ rfl _ rfl (fun W hW => (HRC.out W hW).c8) (fun W hc => ld_int hc)) (by assumption) ?_
  simp only [Act.put, List.setIfInBounds_toArray, List.set_cons_zero, List.set_cons_succ]
  refine wpAnyH_take (i := 7) (oi := { dst := some 13, op := Op.load 3 (Operand.tmp 12), type := 3, pos := "deeds.go:53", after := #[{ on := 6, ground := Ground.data }], guard := none }) (v := .int .i64 R.slot) rfl (by kernel_rfl) (by kernel_rfl) (by kernel_rfl) (fun _ _ _ h => h) (yieldsIf_load_cell (by rfl) 3 _ rfl _ rfl (fun W hW => (HRC.out W hW).c6) (fun W hc => ld_int hc)) (by assumption) ?_
  simp only [Act.put, List.setIfInBounds_toArray, List.set_cons_zero, List.set_cons_succ]
  refine wpAnyH_ready (rs := [5, 8]) (by kernel_rfl) (by simp) ?_
  refine AllReadyH.cons (o := { dst := some 11, op := Op.call { callee := Callee.value (Operand.func 118), args := #[Operand.tmp 8, Operand.tmp 10], argTypes := #[3, 3] }, type := 155, pos := "deeds.go:53", after := #[{ on := 2, ground := Ground.data }, { on := 4, ground := Ground.data }], guard := none }) rfl (fun K hK => ?_) (AllReadyH.cons (o := { dst := some 14, op := Op.buildSlice 25 1 #[(0, Operand.tmp 13)], type := 25, pos := "deeds.go:53", after := #[{ on := 7, ground := Ground.data }], guard := none }) rfl (fun K hK => ?_) (AllReadyH.nil))
  · go_simp
    refine (ending_any _ R.old R.new).mono ?_
    rintro e x1 ⟨b1, b2, rfl, h2, hx1, hb1, hb2⟩
    have HX1 := hide (o2 (Only.drew _ W0) hx1)
    have HT1 := hide h2
    have HBB : Hid (w.heap.size ≤ b1 ∧ w.heap.size ≤ b2) := ⟨Nat.le_trans HB.out.only.size hb1, Nat.le_trans HB.out.only.size hb2⟩
    clear hx1 h2 hb1 hb2
    refine hK.out _ _ (HX1.out.mono (fun _ _ h => h.elim)) (fun hHeld => ?_)
    clear hK K
    try simp only [Act.put, List.setIfInBounds_toArray, List.set_cons_zero, List.set_cons_succ]
    refine wpAnyH_ready (rs := [8]) (by kernel_rfl) (by simp) ?_
    refine AllReadyH.cons (o := { dst := some 14, op := Op.buildSlice 25 1 #[(0, Operand.tmp 13)], type := 25, pos := "deeds.go:53", after := #[{ on := 7, ground := Ground.data }], guard := none }) rfl (fun K hK => ?_) (AllReadyH.nil)
    go_simp
    have HZS := hide (zs_one x1 R.slot)
    have HZO := hide (o2 HX1.out (onlyA x1 (.cells #[.int .i64 R.slot] 3)))
    have HT2 := hide (HT1.out.kept (onlyA x1 (.cells #[.int .i64 R.slot] 3)) (fun h => h) (fun h => h))
    have HZB : Hid (w.heap.size ≤ x1.heap.size) := Nat.le_trans HB.out.only.size HX1.out.size
    refine hK.out _ _ (HZO.out.mono (fun _ _ h => h.elim)) (fun hHeld => ?_)
    clear hK K
    try simp only [Act.put, List.setIfInBounds_toArray, List.set_cons_zero, List.set_cons_succ]
    refine wpAnyH_ready (rs := [9]) (by kernel_rfl) (by simp) ?_
    refine AllReadyH.cons (o := { dst := some 15, op := Op.call { callee := Callee.value (Operand.func 117), args := #[Operand.tmp 6, Operand.tmp 11, Operand.tmp 14], argTypes := #[30, 155, 25] }, type := 54, pos := "deeds.go:53", after := #[{ on := 0, ground := Ground.data }, { on := 5, ground := Ground.data }, { on := 8, ground := Ground.data }, { on := 5, ground := Ground.chain }], guard := none }) rfl (fun K hK => ?_) (AllReadyH.nil)
    go_simp
    refine (HCH.out _ _ _ _ (o2 HB.out.only HZO.out) HZS.out HT2.out HZB.out HBB.out.1 HBB.out.2).mono ?_
    rintro e x3 hd
    have HD := hide hd
    obtain ⟨B3, ao3, cp3, rfl, _, _, ho3, _⟩ := hd
    have HX3 : Hid (Only (fun j => sl.ownBlock = some j ∨ j = w.heap.size + 1 + 1) W0 x3) := (HZO.out.mono (fun _ _ h => h.elim)).trans (ho3.mono (fun _ _ h => .inl h)) (fun _ _ h => h)
    have HQ3 := hide ((HB.out.res.more HZO.out).kept ho3 (fun q => by have := HOW.out _ q; omega))
    have HLT : Hid (Only (fun _ => False) w _ ∧ w.heap.size + 1 + 1 < _) := ⟨o2 HB.out.only HZO.out, Nat.lt_of_lt_of_le HRB.out HZO.out.size⟩
    obtain ⟨q0, q1, q2, q3, q4, q5, g0, g1, g2, g3, g4, g5, ql⟩ := HQ3.out
    clear ho3
    refine hK.out _ _ (HX3.out) (fun hHeld => ?_)
    clear hK K
    try simp only [Act.put, List.setIfInBounds_toArray, List.set_cons_zero, List.set_cons_succ]
    refine wpAnyH_take (i := 10) (oi := { dst := some 16, op := Op.extract (Operand.tmp 15) 0, type := 30, pos := "deeds.go:53", after := #[{ on := 9, ground := Ground.data }], guard := none }) (v := .agg #[.int .i64 P.lsn, .int .i64 P.kind, .int .i64 P.level, .int .i64 P.right, .string P.high, .slice ao3 P.items.length cp3]) rfl (by kernel_rfl) (by kernel_rfl) (by kernel_rfl) (fun _ _ _ h => h) (Or.inl ⟨by rfl, fun w' hSw => by clear hSw; go_simp⟩) (by assumption) ?_
    simp only [Act.put, List.setIfInBounds_toArray, List.set_cons_zero, List.set_cons_succ]
    refine wpAnyH_take (i := 11) (oi := { dst := some 17, op := Op.extract (Operand.tmp 15) 1, type := 53, pos := "deeds.go:53", after := #[{ on := 9, ground := Ground.data }], guard := none }) (v := .int .i64 C) rfl (by kernel_rfl) (by kernel_rfl) (by kernel_rfl) (fun _ _ _ h => h) (Or.inl ⟨by rfl, fun w' hSw => by clear hSw; go_simp⟩) (by assumption) ?_
    simp only [Act.put, List.setIfInBounds_toArray, List.set_cons_zero, List.set_cons_succ]
    refine wpAnyH_ready (rs := [12]) (by kernel_rfl) (by simp) ?_
    refine AllReadyH.cons (o := { dst := none, op := Op.store 30 (Operand.tmp 4) (Operand.tmp 16), type := 0, pos := "deeds.go:53", after := #[{ on := 10, ground := Ground.data }, { on := 9, ground := Ground.chain }, { on := 0, ground := Ground.phase }, { on := 1, ground := Ground.phase }, { on := 2, ground := Ground.phase }, { on := 3, ground := Ground.phase }, { on := 4, ground := Ground.phase }, { on := 5, ground := Ground.phase }, { on := 6, ground := Ground.phase }, { on := 7, ground := Ground.phase }, { on := 8, ground := Ground.phase }, { on := 9, ground := Ground.phase }, { on := 10, ground := Ground.phase }, { on := 11, ground := Ground.phase }], guard := none }) rfl (fun K hK => ?_) (AllReadyH.nil)
    go_simp
    refine hK.out _ _ (HX3.out.trans ((Only.six x3 (w.heap.size + 1 + 1) _ _ _ _ _ _).mono (fun _ _ h => .inr h)) (fun _ _ h => h)) (fun hHeld => ?_)
    clear hK K
    try simp only [Act.put, List.setIfInBounds_toArray, List.set_cons_zero, List.set_cons_succ]
    refine wpAnyH_take (i := 13) (oi := { dst := some 5, op := Op.assign (Operand.tmp 17), type := 53, pos := "deeds.go:53", after := #[{ on := 11, ground := Ground.data }, { on := 12, ground := Ground.chain }, { on := 0, ground := Ground.phase }, { on := 1, ground := Ground.phase }, { on := 2, ground := Ground.phase }, { on := 3, ground := Ground.phase }, { on := 4, ground := Ground.phase }, { on := 5, ground := Ground.phase }, { on := 6, ground := Ground.phase }, { on := 7, ground := Ground.phase }, { on := 8, ground := Ground.phase }, { on := 9, ground := Ground.phase }, { on := 10, ground := Ground.phase }, { on := 11, ground := Ground.phase }, { on := 12, ground := Ground.phase }], guard := none }) (v := .int .i64 C) rfl (by kernel_rfl) (by kernel_rfl) (by kernel_rfl) (fun _ _ _ h => h) (Or.inl ⟨by rfl, fun w' hSw => by clear hSw; go_simp⟩) (by assumption) ?_
    simp only [Act.put, List.setIfInBounds_toArray, List.set_cons_zero, List.set_cons_succ]
    refine wpAnyH_done (by kernel_rfl) ?_ _
    refine NoPanic.normal ?_
    go_wp2_with fail
    refine bodyPost_ret (results_page rfl rfl (Pag.six HQ3.out _ _ _ _ _ _)) rfl ?_
    exact deR_six HLT.out.1 HD.out HOW.out _ (by omega) HLT.out.2 _ _ _ _ _ _
  · go_simp
    have HZS := hide (zs_one W0.drew R.slot)
    have HZO := hide (o2 (Only.drew _ W0) (onlyA W0.drew (.cells #[.int .i64 R.slot] 3)))
    have HZB : Hid (w.heap.size ≤ W0.drew.heap.size) := HB.out.only.size
    refine hK.out _ _ (HZO.out.mono (fun _ _ h => h.elim)) (fun hHeld => ?_)
    clear hK K
    try simp only [Act.put, List.setIfInBounds_toArray, List.set_cons_zero, List.set_cons_succ]
    refine wpAnyH_ready (rs := [5]) (by kernel_rfl) (by simp) ?_
    refine AllReadyH.cons (o := { dst := some 11, op := Op.call { callee := Callee.value (Operand.func 118), args := #[Operand.tmp 8, Operand.tmp 10], argTypes := #[3, 3] }, type := 155, pos := "deeds.go:53", after := #[{ on := 2, ground := Ground.data }, { on := 4, ground := Ground.data }], guard := none }) rfl (fun K hK => ?_) (AllReadyH.nil)
    go_simp
    refine (ending_any _ R.old R.new).mono ?_
    rintro e x1 ⟨b1, b2, rfl, h2, hx1, hb1, hb2⟩
    have HX1 := hide (o2 HZO.out hx1)
    have HZ1 := hide (HZS.out.more hx1)
    have HT1 := hide h2
    have HBB : Hid (w.heap.size ≤ b1 ∧ w.heap.size ≤ b2) := ⟨Nat.le_trans (Nat.le_trans HB.out.only.size HZO.out.size) hb1, Nat.le_trans (Nat.le_trans HB.out.only.size HZO.out.size) hb2⟩
    clear hx1 h2 hb1 hb2
    refine hK.out _ _ (HX1.out.mono (fun _ _ h => h.elim)) (fun hHeld => ?_)
    clear hK K
    try simp only [Act.put, List.setIfInBounds_toArray, List.set_cons_zero, List.set_cons_succ]
    refine wpAnyH_ready (rs := [9]) (by kernel_rfl) (by simp) ?_
    refine AllReadyH.cons (o := { dst := some 15, op := Op.call { callee := Callee.value (Operand.func 117), args := #[Operand.tmp 6, Operand.tmp 11, Operand.tmp 14], argTypes := #[30, 155, 25] }, type := 54, pos := "deeds.go:53", after := #[{ on := 0, ground := Ground.data }, { on := 5, ground := Ground.data }, { on := 8, ground := Ground.data }, { on := 5, ground := Ground.chain }], guard := none }) rfl (fun K hK => ?_) (AllReadyH.nil)
    go_simp
    refine (HCH.out _ _ _ _ (o2 HB.out.only HX1.out) HZ1.out HT1.out HZB.out HBB.out.1 HBB.out.2).mono ?_
    rintro e x3 hd
    have HD := hide hd
    obtain ⟨B3, ao3, cp3, rfl, _, _, ho3, _⟩ := hd
    have HX3 : Hid (Only (fun j => sl.ownBlock = some j ∨ j = w.heap.size + 1 + 1) W0 x3) := (HX1.out.mono (fun _ _ h => h.elim)).trans (ho3.mono (fun _ _ h => .inl h)) (fun _ _ h => h)
    have HQ3 := hide ((HB.out.res.more HX1.out).kept ho3 (fun q => by have := HOW.out _ q; omega))
    have HLT : Hid (Only (fun _ => False) w _ ∧ w.heap.size + 1 + 1 < _) := ⟨o2 HB.out.only HX1.out, Nat.lt_of_lt_of_le HRB.out HX1.out.size⟩
    obtain ⟨q0, q1, q2, q3, q4, q5, g0, g1, g2, g3, g4, g5, ql⟩ := HQ3.out
    clear ho3
    refine hK.out _ _ (HX3.out) (fun hHeld => ?_)
    clear hK K
    try simp only [Act.put, List.setIfInBounds_toArray, List.set_cons_zero, List.set_cons_succ]
    refine wpAnyH_take (i := 10) (oi := { dst := some 16, op := Op.extract (Operand.tmp 15) 0, type := 30, pos := "deeds.go:53", after := #[{ on := 9, ground := Ground.data }], guard := none }) (v := .agg #[.int .i64 P.lsn, .int .i64 P.kind, .int .i64 P.level, .int .i64 P.right, .string P.high, .slice ao3 P.items.length cp3]) rfl (by kernel_rfl) (by kernel_rfl) (by kernel_rfl) (fun _ _ _ h => h) (Or.inl ⟨by rfl, fun w' hSw => by clear hSw; go_simp⟩) (by assumption) ?_
    simp only [Act.put, List.setIfInBounds_toArray, List.set_cons_zero, List.set_cons_succ]
    refine wpAnyH_take (i := 11) (oi := { dst := some 17, op := Op.extract (Operand.tmp 15) 1, type := 53, pos := "deeds.go:53", after := #[{ on := 9, ground := Ground.data }], guard := none }) (v := .int .i64 C) rfl (by kernel_rfl) (by kernel_rfl) (by kernel_rfl) (fun _ _ _ h => h) (Or.inl ⟨by rfl, fun w' hSw => by clear hSw; go_simp⟩) (by assumption) ?_
    simp only [Act.put, List.setIfInBounds_toArray, List.set_cons_zero, List.set_cons_succ]
    refine wpAnyH_ready (rs := [12]) (by kernel_rfl) (by simp) ?_
    refine AllReadyH.cons (o := { dst := none, op := Op.store 30 (Operand.tmp 4) (Operand.tmp 16), type := 0, pos := "deeds.go:53", after := #[{ on := 10, ground := Ground.data }, { on := 9, ground := Ground.chain }, { on := 0, ground := Ground.phase }, { on := 1, ground := Ground.phase }, { on := 2, ground := Ground.phase }, { on := 3, ground := Ground.phase }, { on := 4, ground := Ground.phase }, { on := 5, ground := Ground.phase }, { on := 6, ground := Ground.phase }, { on := 7, ground := Ground.phase }, { on := 8, ground := Ground.phase }, { on := 9, ground := Ground.phase }, { on := 10, ground := Ground.phase }, { on := 11, ground := Ground.phase }], guard := none }) rfl (fun K hK => ?_) (AllReadyH.nil)
    go_simp
    refine hK.out _ _ (HX3.out.trans ((Only.six x3 (w.heap.size + 1 + 1) _ _ _ _ _ _).mono (fun _ _ h => .inr h)) (fun _ _ h => h)) (fun hHeld => ?_)
    clear hK K
    try simp only [Act.put, List.setIfInBounds_toArray, List.set_cons_zero, List.set_cons_succ]
    refine wpAnyH_take (i := 13) (oi := { dst := some 5, op := Op.assign (Operand.tmp 17), type := 53, pos := "deeds.go:53", after := #[{ on := 11, ground := Ground.data }, { on := 12, ground := Ground.chain }, { on := 0, ground := Ground.phase }, { on := 1, ground := Ground.phase }, { on := 2, ground := Ground.phase }, { on := 3, ground := Ground.phase }, { on := 4, ground := Ground.phase }, { on := 5, ground := Ground.phase }, { on := 6, ground := Ground.phase }, { on := 7, ground := Ground.phase }, { on := 8, ground := Ground.phase }, { on := 9, ground := Ground.phase }, { on := 10, ground := Ground.phase }, { on := 11, ground := Ground.phase }, { on := 12, ground := Ground.phase }], guard := none }) (v := .int .i64 C) rfl (by kernel_rfl) (by kernel_rfl) (by kernel_rfl) (fun _ _ _ h => h) (Or.inl ⟨by rfl, fun w' hSw => by clear hSw; go_simp⟩) (by assumption) ?_
    simp only [Act.put, List.setIfInBounds_toArray, List.set_cons_zero, List.set_cons_succ]
    refine wpAnyH_done (by kernel_rfl) ?_ _
    refine NoPanic.normal ?_
    go_wp2_with fail
    refine bodyPost_ret (results_page rfl rfl (Pag.six HQ3.out _ _ _ _ _ _)) rfl ?_
    exact deR_six HLT.out.1 HD.out HOW.out _ (by omega) HLT.out.2 _ _ _ _ _ _
set_option maxRecDepth 100000 in
set_option maxHeartbeats 1600000 in
theorem copied_any (w : World) (a k v r : Int) (h : ByteArray) (B cp : Nat) (ao : Option Addr) (l : List ByteArray) (hS : Strs w B ao l) :
    Calls Tryz.prog 39 #[.agg #[.int .i64 a, .int .i64 k, .int .i64 v, .int .i64 r, .string h, .slice ao l.length cp]] w fun e w' => ∃ ao2 cp2, e = .returned (.agg #[.int .i64 a, .int .i64 k, .int .i64 v, .int .i64 r, .string h, .slice ao2 l.length cp2]) ∧ Ls w' w.heap.size (.slice ao2 l.length cp2) l ∧ Only (fun _ => False) w w' := by
  have HB1 := hide (boxes_one w a k v r h (.slice ao l.length cp))
  have HB2 := hide (boxes_two w a k v r h (.slice ao l.length cp))
  have HO := hide (boxes_only w a k v r h (.slice ao l.length cp))
  have HCL : Hid (∀ W, Only (fun _ => False) w W → Calls Tryz.prog 69 #[.slice ao l.length cp] W fun e w' => ∃ ao2 cp2, e = .returned (.slice ao2 l.length cp2) ∧ Ls w' W.heap.size (.slice ao2 l.length cp2) l ∧ Only (fun _ => False) W w') := fun W ho => by
    refine (clone_any W B cp ao l (hS.more ho)).mono ?_
    rintro e w' ⟨v2, rfl, hl2, ho2⟩
    obtain ⟨B2, ao2, cp2, rfl, _⟩ := hl2.strs hS.len hS.size
    exact ⟨ao2, cp2, rfl, hl2, ho2⟩
  clear hS
  go_enter Tryz.func39, Tryz.ntmps39
  go_upto_region 1 with fail
  obtain ⟨W0, hW0⟩ : ∃ x, boxes w a k v r h (.slice ao l.length cp) = x := ⟨_, rfl⟩
  rw [hW0] at HB1 HB2 HO
  unfold boxes at hW0
  rw [hW0]
  clear hW0
  have p5 := HB1.out.c5
  go_wp2_with fail
  refine (HCL.out _ HO.out).mono ?_
  rintro e w1 ⟨ao2, cp2, rfl, hl1, ho1⟩
  have hz0 := HO.out.size
  have hz1 := HB2.out.lt
  have HP1 := hide (HB1.out.more ho1)
  have HQ1 := hide (HB2.out.more ho1)
  have HO1 := hide (o2 HO.out ho1)
  have HP2 := hide (HP1.out.set5 (.slice ao2 l.length cp2))
  have hs5 := Only.setCell (S := fun j => j = w.heap.size) w1 ⟨w.heap.size, 5, none⟩ (.slice ao2 l.length cp2) rfl
  have HQ2 := hide (HQ1.out.kept hs5 (by omega))
  have HO2 := hide (HO1.out.trans hs5 (fun i hi e => by omega))
  have hown : ∀ j, (Value.slice ao2 l.length cp2).ownBlock = some j → W0.heap.size ≤ j := fun j hj => (World.ownsRow.lt hl1 j hj).1
  have HL2 := hide (hl1.kept hs5 (fun j hj e => by have := hown j hj; omega))
  have HOW := hide hown
  have HZ1 := hide hz1
  clear p5 hl1 ho1 hs5 hown HCL hz0 hz1
  obtain ⟨c0, c1, c2, c3, c4, c5, f0, f1, f2, f3, f4, f5, _⟩ := HP1.out
  go_upto_region 2 with fail
  obtain ⟨w2, hw2⟩ : ∃ x, w1.setCell ⟨w.heap.size, 5, none⟩ (.slice ao2 l.length cp2) = x := ⟨_, rfl⟩
  rw [hw2] at HP2 HQ2 HO2 HL2 ⊢
  clear hw2 c0 c1 c2 c3 c4 c5 f0 f1 f2 f3 f4 f5 HP1 HQ1 HO1
  obtain ⟨c0, c1, c2, c3, c4, c5, _⟩ := HP2.out
  obtain ⟨q0, q1, q2, q3, q4, q5, g0, g1, g2, g3, g4, g5, ql⟩ := HQ2.out
  go_wp2_with fail
  refine bodyPost_ret (results_page1 rfl rfl (Pag.six HQ2.out _ _ _ _ _ _)) rfl ?_
  have h6 := Only.six w2 (w.heap.size + 1) (.int .i64 a) (.int .i64 k) (.int .i64 v) (.int .i64 r) (.string h) (.slice ao2 l.length cp2)
  refine ⟨ao2, cp2, rfl, ?_, HO2.out.trans h6 (fun i hi e => by omega)⟩
  have hl3 := HL2.out.kept h6 (fun j hj e => by have := HOW.out j hj; have := HZ1.out; omega)
  obtain ⟨e1, e2⟩ := hl3
  refine ⟨e1, e2.imp id ?_⟩
  rintro ⟨g, cap, cur, hv, hg, hh⟩
  exact ⟨g, cap, cur, hv, Nat.le_trans HO.out.size hg, hh⟩
/-- The first image of a page. -/
def imP (page : Int) : List Im → Option Pg
  | [] => none
  | i :: t => if i.page = page then some i.body else imP page t
/-- What imageOf answers. -/
def ImQ (w w' : World) (e : Ending) (o : Option Pg) : Prop := match o with
  | some p => ∃ ao cp, e = .returned (.tuple #[.agg #[.int .i64 p.lsn, .int .i64 p.kind, .int .i64 p.level, .int .i64 p.right, .string p.high, .slice ao p.items.length cp], .bool true]) ∧ Ls w' w.heap.size (.slice ao p.items.length cp) p.items ∧ (∀ s ∈ p.items, s.size ≤ 140737488355328) ∧ p.items.length ≤ 8796093022207 ∧ Only (fun _ => False) w w'
  | none => e = .returned (.tuple #[.agg #[.int .i64 0, .int .i64 0, .int .i64 0, .int .i64 0, .string ⟨#[]⟩, .slice none 0 0], .bool false]) ∧ Only (fun _ => False) w w'
/-- The variables of imageOf: the record and the page that is answered. -/
structure Iv (w W : World) (R : Rc) (L : Loc) : Prop where
  rc : Bx W w.heap.size R L
  res : Pag W (w.heap.size + 1) (.int .i64 0) (.int .i64 0) (.int .i64 0) (.int .i64 0) (.string ⟨#[]⟩) (.slice none 0 0)
  only : Only (fun _ => False) w W
theorem Iv.more {w W W' : World} {R : Rc} {L : Loc} (x : Iv w W R L) (ho : Only (fun _ => False) W W') : Iv w W' R L := ⟨x.rc.more ho, x.res.more ho, o2 x.only ho⟩
theorem iv_new (w : World) (R : Rc) (L : Loc) : Iv w ((w.alloc (.cells (R.cells L) 47)).alloc (.cells #[.int .i64 0, .int .i64 0, .int .i64 0, .int .i64 0, .string ⟨#[]⟩, .slice none 0 0] 30)) R L := by
  have e3 := Pag.new (w.alloc (.cells (R.cells L) 47)) (.int .i64 0) (.int .i64 0) (.int .i64 0) (.int .i64 0) (.string ⟨#[]⟩) (.slice none 0 0)
  rw [World.size_alloc] at e3
  exact ⟨(Bx.new w R L).more (onlyA _ _), e3, o2 (onlyA _ _) (onlyA _ _)⟩
/-- An image in a variable of its own. -/
structure Ib (w : World) (b : Nat) (i : Im) (ao : Option Addr) (cp : Nat) : Prop where
  c0 : w.cell? ⟨b, 0, none⟩ = some (.int .i64 i.page)
  c1 : w.cell? ⟨b, 1, none⟩ = some (.int .i64 i.body.lsn)
  c2 : w.cell? ⟨b, 2, none⟩ = some (.int .i64 i.body.kind)
  c3 : w.cell? ⟨b, 3, none⟩ = some (.int .i64 i.body.level)
  c4 : w.cell? ⟨b, 4, none⟩ = some (.int .i64 i.body.right)
  c5 : w.cell? ⟨b, 5, none⟩ = some (.string i.body.high)
  c6 : w.cell? ⟨b, 6, none⟩ = some (.slice ao i.body.items.length cp)
theorem ib_new (w : World) (i : Im) (ao : Option Addr) (cp : Nat) : Ib (w.alloc (.cells #[.int .i64 i.page, .int .i64 i.body.lsn, .int .i64 i.body.kind, .int .i64 i.body.level, .int .i64 i.body.right, .string i.body.high, .slice ao i.body.items.length cp] 118)) w.heap.size i ao cp :=
  ⟨by simp, by simp, by simp, by simp, by simp, by simp, by simp⟩
set_option maxRecDepth 100000 in
set_option maxHeartbeats 3200000 in
theorem imageOf_any (w : World) (page : Int) (R : Rc) (L : Loc) (hI : ∃ T, Ims w T L.b3 L.a3 R.images) :
    Calls Tryz.prog 38 #[.int .i64 page, .agg (R.cells L)] w fun e w' => ImQ w w' e (imP page R.images) := by
  obtain ⟨T, hI⟩ := hI
  have HI := hide hI
  have hil := hI.len
  have HV0 := hide (iv_new w R L)
  obtain ⟨X, hX⟩ : ∃ X, imP page R.images = X := ⟨_, rfl⟩
  rw [hX]
  have HX := hide hX
  clear hX hI
  go_enter Tryz.func38, Tryz.ntmps38
  go_upto_region 1 with fail
  obtain ⟨W0, hW0⟩ : ∃ x, (w.alloc (.cells (R.cells L) 47)).alloc (.cells #[.int .i64 0, .int .i64 0, .int .i64 0, .int .i64 0, .string ⟨#[]⟩, .slice none 0 0] 30) = x := ⟨_, rfl⟩
  rw [hW0] at HV0 ⊢
  clear hW0
  have r13 := HV0.out.rc.c13
  go_wp2_with fail
  clear r13
  go_loopw [11] (fun i wr => ∃ (j : Nat), j ≤ R.images.length ∧ i = .int .i64 (j : Int) ∧ Hid (Iv w wr R L) ∧ Hid (imP page (R.images.drop j) = X)) (fun i _ => R.images.length - (intOf i).toNat)
  case atStart => exact ⟨0, Nat.zero_le _, rfl, HV0, HX⟩
  case round =>
    clear HV0 HX
    obtain ⟨j, hj, rfl, HV, HX⟩ := hrel
    by_cases hlt : j < R.images.length
    · obtain ⟨zo, hza, hc⟩ := (HI.out.more HV.out.only).at_ (by omega)
      obtain ⟨D, ia, ic, him, _⟩ := hc j hlt
      have hlk : (j : Int) < (R.images.length : Int) := by omega
      rw [List.drop_eq_getElem_cons hlt, imP] at HX
      obtain ⟨i, hi⟩ : ∃ i, R.images[j] = i := ⟨_, rfl⟩
      rw [hi] at him HX
      have HIS : Hid (∀ W, Only (fun _ => False) wr W → Strs W D ia i.body.items) := fun W ho => him.strs.more ho
      obtain ⟨d0, d1, d2, d3, d4, d5, d6, _⟩ := him
      have hjo : zo + j * 7 = zo + j * 7 := rfl
      clear hc hi
      rw [hza]
      have HA := hide (onlyA wr (.cells #[.int .i64 i.page, .int .i64 i.body.lsn, .int .i64 i.body.kind, .int .i64 i.body.level, .int .i64 i.body.right, .string i.body.high, .slice ia i.body.items.length ic] 118))
      have HB := hide (ib_new wr i ia ic)
      have HV1 := hide (HV.out.more HA.out)
      go_upto_region 4 with fail
      obtain ⟨b, hb⟩ : ∃ b, wr.heap.size = b := ⟨_, rfl⟩
      rw [hb] at HB ⊢
      clear hb
      obtain ⟨W1, hW1⟩ : ∃ x, wr.alloc (.cells #[.int .i64 i.page, .int .i64 i.body.lsn, .int .i64 i.body.kind, .int .i64 i.body.level, .int .i64 i.body.right, .string i.body.high, .slice ia i.body.items.length ic] 118) = x := ⟨_, rfl⟩
      rw [hW1] at HA HB HV1 ⊢
      clear hW1 d0 d1 d2 d3 d4 d5 d6 HV
      obtain ⟨e0, e1, e2, e3, e4, e5, e6⟩ := HB.out
      by_cases hp : i.page = page
      · rw [if_pos hp] at HX
        have HP := hide hp
        rw [hp] at e0
        clear hp
        go_wp2_with fail
        refine (copied_any W1 i.body.lsn i.body.kind i.body.level i.body.right i.body.high D ic ia i.body.items (HIS.out _ HA.out)).mono ?_
        rintro e w2 ⟨ao2, cp2, rfl, hl2, ho2⟩
        have HV2 := hide (HV1.out.more ho2)
        have HL2 := hide hl2
        have HZ : Hid (W1.heap.size ≤ w2.heap.size ∧ w.heap.size + 1 < W1.heap.size) := ⟨ho2.size, HV1.out.res.lt⟩
        clear e0 e1 e2 e3 e4 e5 e6 hl2 ho2
        obtain ⟨q0, q1, q2, q3, q4, q5, g0, g1, g2, g3, g4, g5, ql⟩ := HV2.out.res
        go_wp2_with fail
        refine bodyPost_ret (results_page rfl rfl (Pag.six HV2.out.res _ _ _ _ _ _)) rfl ?_
        rw [← HX.out]
        have h6 := Only.six w2 (w.heap.size + 1) (.int .i64 i.body.lsn) (.int .i64 i.body.kind) (.int .i64 i.body.level) (.int .i64 i.body.right) (.string i.body.high) (.slice ao2 i.body.items.length cp2)
        have hl3 := HL2.out.kept h6 (fun j hj e => by have := (World.ownsRow.lt HL2.out j hj).1; have := HZ.out; omega)
        refine ⟨ao2, cp2, rfl, ?_, (HIS.out _ (Only.refl _ _)).size, (HIS.out _ (Only.refl _ _)).len, HV2.out.only.trans h6 (fun i hi e => by omega)⟩
        obtain ⟨e1, e2⟩ := hl3
        refine ⟨e1, e2.imp id ?_⟩
        rintro ⟨g, cap, cur, hv, hg, hh⟩
        exact ⟨g, cap, cur, hv, by have := HZ.out; omega, hh⟩
      · have hpb : (i.page == page) = false := by simpa using hp
        rw [if_neg hp] at HX
        clear hp
        go_wp2_with fail
        clear e0 e1 e2 e3 e4 e5 e6 HB
        go_roundw
        case rel => exact ⟨j + 1, by omega, by go_num, HV1, HX⟩
        case measure => simp [intOf]; omega
    · have hlk : ¬ (j : Int) < (R.images.length : Int) := by omega
      rw [List.drop_of_length_le (by omega), imP] at HX
      obtain ⟨q0, q1, q2, q3, q4, q5, g0, g1, g2, g3, g4, g5, ql⟩ := HV.out.res
      go_wp2_with fail
      refine bodyPost_ret (results_page rfl rfl (Pag.six HV.out.res _ _ _ _ _ _)) rfl ?_
      rw [← HX.out]
      exact ⟨rfl, HV.out.only.trans (Only.six _ (w.heap.size + 1) _ _ _ _ _ _) (fun i hi e => by omega)⟩
theorem yieldsIf_load_pageI {ops : Array Oper} {S : World → Prop} {op : Oper} {a : Act} {v0 v1 v2 v3 v4 v5 : Value} (hw : Region.wanted op (yielded ops a.tmps) = true) (x : Operand) (ho : op.op = .load 30 x)
    (b : Nat) (hx : a.eval x = .pointer (some ⟨b, 0, none⟩)) (hS : ∀ w, S w → Pag w b v0 v1 v2 v3 v4 v5) : YieldsIf Tryz.prog ops S op (.agg #[v0, v1, v2, v3, v4, v5]) a :=
  .inl ⟨hw, fun w hw' => by
    unfold execOp
    simp only [ho, hx, Instr.loadAt, Instr.sureAddr, Sem.run_bind, Sem.run_pure, Result.andThen_ok, load_page (hS w hw')]⟩
theorem ld_status {w : World} {p : Addr} {v : Value} (h : w.cell? p = some v) : (loadVar 58 p).run Tryz.prog w = .ok v w := by simp [loadVar, go_sem, h]
/-- A page variable in block b, which alone has changed since W1: a page of statuses. -/
structure Var (m : Int) (W1 wr : World) (b : Nat) (f : Int) (p : Pg) (B : Nat) (ao : Option Addr) (cp : Nat) : Prop where
  pg : PgB wr b p B ao cp
  ne : B ≠ b
  ok : OkP m p
  lm : lim m (it0 p) = f
  lsn : p.lsn = 0
  only : Only (fun k => k = b) W1 wr
/-- A page laid into a new variable since wr. -/
structure Laid (wr wc : World) (b5 : Nat) (q : Pg) (B5 : Nat) (ao5 : Option Addr) (cp5 : Nat) : Prop where
  pg : PgB wc b5 q B5 ao5 cp5
  only : Only (fun _ => False) wr wc
  hb : wr.heap.size ≤ b5
  hB : 0 < q.items.length → wr.heap.size ≤ B5
theorem Laid.first {wr w5 : World} {q : Pg} {B5 cp5 : Nat} {ao5 : Option Addr} (hS : Strs w5 B5 ao5 q.items) (hF : Fit ao5 q.items.length cp5) (ho : Only (fun _ => False) wr w5) (hB : 0 < q.items.length → wr.heap.size ≤ B5) :
    Laid wr (w5.alloc (.cells #[.int .i64 q.lsn, .int .i64 q.kind, .int .i64 q.level, .int .i64 q.right, .string q.high, .slice ao5 q.items.length cp5] 30)) w5.heap.size q B5 ao5 cp5 :=
  ⟨PgB.new hS hF, o2 ho (onlyA _ _), ho.size, hB⟩
theorem Laid.then {wr w5 : World} {b5 : Nat} {q : Pg} {B5 cp5 : Nat} {ao5 : Option Addr} {v0 v1 v2 v3 v4 v5 : Value} (hz : Pag w5 b5 v0 v1 v2 v3 v4 v5) (hS : Strs w5 B5 ao5 q.items) (hF : Fit ao5 q.items.length cp5) (ho : Only (fun _ => False) wr w5) (hb : wr.heap.size ≤ b5) (hB : 0 < q.items.length → b5 < B5) :
    Laid wr ((((((w5.setCell ⟨b5, 0, none⟩ (.int .i64 q.lsn)).setCell ⟨b5, 1, none⟩ (.int .i64 q.kind)).setCell ⟨b5, 2, none⟩ (.int .i64 q.level)).setCell ⟨b5, 3, none⟩ (.int .i64 q.right)).setCell ⟨b5, 4, none⟩ (.string q.high)).setCell ⟨b5, 5, none⟩ (.slice ao5 q.items.length cp5)) b5 q B5 ao5 cp5 :=
  ⟨PgB.put hz hS hF (fun h => by have := hB h; omega), ho.trans (Only.six w5 b5 _ _ _ _ _ _) (fun i hi e => by omega), hb, fun h => by have := hB h; omega⟩
theorem Var.more {m : Int} {W1 wr wc : World} {b B cp : Nat} {f : Int} {p : Pg} {ao : Option Addr} (h : Var m W1 wr b f p B ao cp) (ho : Only (fun _ => False) wr wc) : Var m W1 wc b f p B ao cp :=
  ⟨h.pg.more ho, h.ne, h.ok, h.lm, h.lsn, h.only.trans ho (fun _ _ h => h.elim)⟩
theorem Var.put {m : Int} {W1 wr wc : World} {b B cp : Nat} {f : Int} {p : Pg} {ao : Option Addr} (h : Var m W1 wr b f p B ao cp) {b5 B5 cp5 : Nat} {q : Pg} {ao5 : Option Addr} (hl : Laid wr wc b5 q B5 ao5 cp5) (hok : OkP m q) (hlm : lim m (it0 q) = f) (hls : q.lsn = 0) :
    Var m W1 ((((((wc.setCell ⟨b, 0, none⟩ (.int .i64 q.lsn)).setCell ⟨b, 1, none⟩ (.int .i64 q.kind)).setCell ⟨b, 2, none⟩ (.int .i64 q.level)).setCell ⟨b, 3, none⟩ (.int .i64 q.right)).setCell ⟨b, 4, none⟩ (.string q.high)).setCell ⟨b, 5, none⟩ (.slice ao5 q.items.length cp5)) b f q B5 ao5 cp5 := by
  have hlt := h.pg.pag.lt
  have hpos : 0 < q.items.length := by rw [hok.two]; omega
  have hB := hl.hB hpos
  exact ⟨PgB.put (h.pg.pag.more hl.only) hl.pg.strs hl.pg.fit (fun _ => by omega), by omega, hok, hlm, hls, (h.only.trans hl.only (fun _ _ h => h.elim)).trans (Only.six wc b _ _ _ _ _ _) (fun _ _ e => e)⟩
theorem setC_zero {m x : Int} {p : Pg} {s : Nat} (h : setC m p x s = 0) : Idd m x ∧ OkP m p ∧ s < 4 := by
  unfold setC at h
  split at h
  · rename_i h1
    split at h
    · exact ⟨(cid_zero h1).1, (cid_zero h1).2, by omega⟩
    · omega
  · rename_i h1
    exact absurd h h1
theorem setC_bd (m : Int) (p : Pg) (x : Int) (s : Nat) : setC m p x s = 0 ∨ setC m p x s = 1 ∨ setC m p x s = 31 := by
  unfold setC
  split
  · split
    · exact .inl rfl
    · exact .inr (.inl rfl)
  · exact cid_bd m p x
theorem setR_ok {m x : Int} {p : Pg} {s : Nat} (h : setC m p x s = 0) : OkP m (setR m p x s) ∧ lim m (it0 (setR m p x s)) = lim m (it0 p) ∧ (setR m p x s).lsn = p.lsn := by
  obtain ⟨hI, hO, hs⟩ := setC_zero h
  unfold setR
  rw [if_pos h]
  exact ⟨hO.set hI hs, rfl, rfl⟩
/-- Statuses that a slice leads to, in block B. -/
structure Sds (w : World) (B : Nat) (ao : Option Addr) (n : Nat) (X : Nat → Int) (S : Nat → Nat) : Prop where
  at_ : 0 < n → ∃ o, ao = some ⟨B, o, none⟩ ∧ ∀ j, j < n → w.cell? ⟨B, o + j * 2, none⟩ = some (.int .i64 (X j)) ∧ w.cell? ⟨B, o + j * 2 + 1, none⟩ = some (.int .u8 (S j : Int))
  wf : ∀ j, j < n → I64 (X j) ∧ S j < 256
  lt : 0 < n → B < w.heap.size
  len : n < 9223372036854775808
theorem Sds.more {w w' : World} {B : Nat} {ao : Option Addr} {n : Nat} {X : Nat → Int} {S : Nat → Nat} (h : Sds w B ao n X S) (ho : Only (fun _ => False) w w') : Sds w' B ao n X S := by
  refine ⟨fun hl => ?_, h.wf, fun hl => Nat.lt_of_lt_of_le (h.lt hl) ho.size, h.len⟩
  obtain ⟨o, e, hc⟩ := h.at_ hl
  exact ⟨o, e, fun j hj => ⟨(ho.cell (p := ⟨B, o + j * 2, none⟩) (h.lt hl) (fun h => h)).trans (hc j hj).1, (ho.cell (p := ⟨B, o + j * 2 + 1, none⟩) (h.lt hl) (fun h => h)).trans (hc j hj).2⟩⟩
/-- The page of so many statuses. -/
noncomputable def sayP (m f : Int) (X : Nat → Int) (S : Nat → Nat) : Nat → Pg
  | 0 => blankP m f
  | k + 1 => if setC m (sayP m f X S k) (X k) (S k) = 0 then setR m (sayP m f X S k) (X k) (S k) else sayP m f X S k
theorem Tryz.cellsView : Tryz.prog.cellsOf 32 = 11 := by kernel_rfl
theorem load_view {w : World} {b : Nat} {v0 v1 v2 v3 v4 v5 v6 v7 v8 v9 v10 : Value} (h : VB w b v0 v1 v2 v3 v4 v5 v6 v7 v8 v9 v10) : (loadVar 32 ⟨b, 0, none⟩).run Tryz.prog w = .ok (.agg #[v0, v1, v2, v3, v4, v5, v6, v7, v8, v9, v10]) w := by
  have c0 := h.c0
  have c1 := h.c1
  have c2 := h.c2
  have c3 := h.c3
  have c4 := h.c4
  have c5 := h.c5
  have c6 := h.c6
  have c7 := h.c7
  have c8 := h.c8
  have c9 := h.c9
  have c10 := h.c10
  simp [loadVar, go_sem, c0, c1, c2, c3, c4, c5, c6, c7, c8, c9, c10]
theorem results_view {fn : Func} {p u : Tmp} (h : fn.results = #[.cell p 32, .tmp u]) {tmps : Array Value} {w : World} {b : Nat} {v0 v1 v2 v3 v4 v5 v6 v7 v8 v9 v10 : Value} (hp : tmps.getD p undef = .pointer (some ⟨b, 0, none⟩)) (hP : VB w b v0 v1 v2 v3 v4 v5 v6 v7 v8 v9 v10) :
    (results fn tmps).run Tryz.prog w = .ok (.tuple #[.agg #[v0, v1, v2, v3, v4, v5, v6, v7, v8, v9, v10], tmps.getD u undef]) w := by
  have e : (asAddr (.pointer (some ⟨b, 0, none⟩))).run Tryz.prog w = .ok ⟨b, 0, none⟩ w := rfl
  rw [results_cell_tmp h, hp, e]
  simp only [Result.andThen, load_view hP]
theorem VB.all {w : World} {b : Nat} {v0 v1 v2 v3 v4 v5 v6 v7 v8 v9 v10 : Value} (h : VB w b v0 v1 v2 v3 v4 v5 v6 v7 v8 v9 v10) (u0 u1 u2 u3 u4 u5 u6 u7 u8 u9 u10 : Value) : VB (((((((((((w.setCell ⟨b, 0, none⟩ u0).setCell ⟨b, 1, none⟩ u1).setCell ⟨b, 2, none⟩ u2).setCell ⟨b, 3, none⟩ u3).setCell ⟨b, 4, none⟩ u4).setCell ⟨b, 5, none⟩ u5).setCell ⟨b, 6, none⟩ u6).setCell ⟨b, 7, none⟩ u7).setCell ⟨b, 8, none⟩ u8).setCell ⟨b, 9, none⟩ u9).setCell ⟨b, 10, none⟩ u10) b u0 u1 u2 u3 u4 u5 u6 u7 u8 u9 u10 := by
  have h0 : VB (w.setCell ⟨b, 0, none⟩ u0) b u0 v1 v2 v3 v4 v5 v6 v7 v8 v9 v10 := by simpa using (h).setC (k := 0) u0
  have h1 : VB ((w.setCell ⟨b, 0, none⟩ u0).setCell ⟨b, 1, none⟩ u1) b u0 u1 v2 v3 v4 v5 v6 v7 v8 v9 v10 := by simpa using (h0).setC (k := 1) u1
  have h2 : VB (((w.setCell ⟨b, 0, none⟩ u0).setCell ⟨b, 1, none⟩ u1).setCell ⟨b, 2, none⟩ u2) b u0 u1 u2 v3 v4 v5 v6 v7 v8 v9 v10 := by simpa using (h1).setC (k := 2) u2
  have h3 : VB ((((w.setCell ⟨b, 0, none⟩ u0).setCell ⟨b, 1, none⟩ u1).setCell ⟨b, 2, none⟩ u2).setCell ⟨b, 3, none⟩ u3) b u0 u1 u2 u3 v4 v5 v6 v7 v8 v9 v10 := by simpa using (h2).setC (k := 3) u3
  have h4 : VB (((((w.setCell ⟨b, 0, none⟩ u0).setCell ⟨b, 1, none⟩ u1).setCell ⟨b, 2, none⟩ u2).setCell ⟨b, 3, none⟩ u3).setCell ⟨b, 4, none⟩ u4) b u0 u1 u2 u3 u4 v5 v6 v7 v8 v9 v10 := by simpa using (h3).setC (k := 4) u4
  have h5 : VB ((((((w.setCell ⟨b, 0, none⟩ u0).setCell ⟨b, 1, none⟩ u1).setCell ⟨b, 2, none⟩ u2).setCell ⟨b, 3, none⟩ u3).setCell ⟨b, 4, none⟩ u4).setCell ⟨b, 5, none⟩ u5) b u0 u1 u2 u3 u4 u5 v6 v7 v8 v9 v10 := by simpa using (h4).setC (k := 5) u5
  have h6 : VB (((((((w.setCell ⟨b, 0, none⟩ u0).setCell ⟨b, 1, none⟩ u1).setCell ⟨b, 2, none⟩ u2).setCell ⟨b, 3, none⟩ u3).setCell ⟨b, 4, none⟩ u4).setCell ⟨b, 5, none⟩ u5).setCell ⟨b, 6, none⟩ u6) b u0 u1 u2 u3 u4 u5 u6 v7 v8 v9 v10 := by simpa using (h5).setC (k := 6) u6
  have h7 : VB ((((((((w.setCell ⟨b, 0, none⟩ u0).setCell ⟨b, 1, none⟩ u1).setCell ⟨b, 2, none⟩ u2).setCell ⟨b, 3, none⟩ u3).setCell ⟨b, 4, none⟩ u4).setCell ⟨b, 5, none⟩ u5).setCell ⟨b, 6, none⟩ u6).setCell ⟨b, 7, none⟩ u7) b u0 u1 u2 u3 u4 u5 u6 u7 v8 v9 v10 := by simpa using (h6).setC (k := 7) u7
  have h8 : VB (((((((((w.setCell ⟨b, 0, none⟩ u0).setCell ⟨b, 1, none⟩ u1).setCell ⟨b, 2, none⟩ u2).setCell ⟨b, 3, none⟩ u3).setCell ⟨b, 4, none⟩ u4).setCell ⟨b, 5, none⟩ u5).setCell ⟨b, 6, none⟩ u6).setCell ⟨b, 7, none⟩ u7).setCell ⟨b, 8, none⟩ u8) b u0 u1 u2 u3 u4 u5 u6 u7 u8 v9 v10 := by simpa using (h7).setC (k := 8) u8
  have h9 : VB ((((((((((w.setCell ⟨b, 0, none⟩ u0).setCell ⟨b, 1, none⟩ u1).setCell ⟨b, 2, none⟩ u2).setCell ⟨b, 3, none⟩ u3).setCell ⟨b, 4, none⟩ u4).setCell ⟨b, 5, none⟩ u5).setCell ⟨b, 6, none⟩ u6).setCell ⟨b, 7, none⟩ u7).setCell ⟨b, 8, none⟩ u8).setCell ⟨b, 9, none⟩ u9) b u0 u1 u2 u3 u4 u5 u6 u7 u8 u9 v10 := by simpa using (h8).setC (k := 9) u9
  have h10 : VB (((((((((((w.setCell ⟨b, 0, none⟩ u0).setCell ⟨b, 1, none⟩ u1).setCell ⟨b, 2, none⟩ u2).setCell ⟨b, 3, none⟩ u3).setCell ⟨b, 4, none⟩ u4).setCell ⟨b, 5, none⟩ u5).setCell ⟨b, 6, none⟩ u6).setCell ⟨b, 7, none⟩ u7).setCell ⟨b, 8, none⟩ u8).setCell ⟨b, 9, none⟩ u9).setCell ⟨b, 10, none⟩ u10) b u0 u1 u2 u3 u4 u5 u6 u7 u8 u9 u10 := by simpa using (h9).setC (k := 10) u10
  exact h10
theorem VB.page {w : World} {b : Nat} {v0 v1 v2 v3 v4 v5 v6 v7 v8 v9 v10 : Value} (h : VB w b v0 v1 v2 v3 v4 v5 v6 v7 v8 v9 v10) (p0 p1 p2 p3 p4 p5 : Value) : VB ((((((w.setCell ⟨b, 5, none⟩ p0).setCell ⟨b, 6, none⟩ p1).setCell ⟨b, 7, none⟩ p2).setCell ⟨b, 8, none⟩ p3).setCell ⟨b, 9, none⟩ p4).setCell ⟨b, 10, none⟩ p5) b v0 v1 v2 v3 v4 p0 p1 p2 p3 p4 p5 := by
  have h0 : VB (w.setCell ⟨b, 5, none⟩ p0) b v0 v1 v2 v3 v4 p0 v6 v7 v8 v9 v10 := by simpa using (h).setC (k := 5) p0
  have h1 : VB ((w.setCell ⟨b, 5, none⟩ p0).setCell ⟨b, 6, none⟩ p1) b v0 v1 v2 v3 v4 p0 p1 v7 v8 v9 v10 := by simpa using (h0).setC (k := 6) p1
  have h2 : VB (((w.setCell ⟨b, 5, none⟩ p0).setCell ⟨b, 6, none⟩ p1).setCell ⟨b, 7, none⟩ p2) b v0 v1 v2 v3 v4 p0 p1 p2 v8 v9 v10 := by simpa using (h1).setC (k := 7) p2
  have h3 : VB ((((w.setCell ⟨b, 5, none⟩ p0).setCell ⟨b, 6, none⟩ p1).setCell ⟨b, 7, none⟩ p2).setCell ⟨b, 8, none⟩ p3) b v0 v1 v2 v3 v4 p0 p1 p2 p3 v9 v10 := by simpa using (h2).setC (k := 8) p3
  have h4 : VB (((((w.setCell ⟨b, 5, none⟩ p0).setCell ⟨b, 6, none⟩ p1).setCell ⟨b, 7, none⟩ p2).setCell ⟨b, 8, none⟩ p3).setCell ⟨b, 9, none⟩ p4) b v0 v1 v2 v3 v4 p0 p1 p2 p3 p4 v10 := by simpa using (h3).setC (k := 9) p4
  have h5 : VB ((((((w.setCell ⟨b, 5, none⟩ p0).setCell ⟨b, 6, none⟩ p1).setCell ⟨b, 7, none⟩ p2).setCell ⟨b, 8, none⟩ p3).setCell ⟨b, 9, none⟩ p4).setCell ⟨b, 10, none⟩ p5) b v0 v1 v2 v3 v4 p0 p1 p2 p3 p4 p5 := by simpa using (h4).setC (k := 10) p5
  exact h5
theorem VB.m {w : World} {b : Nat} {v0 v1 v2 v3 v4 v5 v6 v7 v8 v9 v10 : Value} (h : VB w b v0 v1 v2 v3 v4 v5 v6 v7 v8 v9 v10) (u : Value) : VB (w.setCell ⟨b, 0, none⟩ u) b u v1 v2 v3 v4 v5 v6 v7 v8 v9 v10 := by simpa using h.setC (k := 0) u
theorem Only.eleven (w : World) (b : Nat) (u0 u1 u2 u3 u4 u5 u6 u7 u8 u9 u10 : Value) : Only (fun k => k = b) w (((((((((((w.setCell ⟨b, 0, none⟩ u0).setCell ⟨b, 1, none⟩ u1).setCell ⟨b, 2, none⟩ u2).setCell ⟨b, 3, none⟩ u3).setCell ⟨b, 4, none⟩ u4).setCell ⟨b, 5, none⟩ u5).setCell ⟨b, 6, none⟩ u6).setCell ⟨b, 7, none⟩ u7).setCell ⟨b, 8, none⟩ u8).setCell ⟨b, 9, none⟩ u9).setCell ⟨b, 10, none⟩ u10) := by
  have st : ∀ (W : World) (i : Nat) (v : Value), Only (fun k => k = b) W (W.setCell ⟨b, i, none⟩ v) := fun W i v => Only.setCell W ⟨b, i, none⟩ v rfl
  exact (((((((((((st _ 0 _).trans (st _ 1 _) (fun _ _ h => h)).trans (st _ 2 _) (fun _ _ h => h)).trans (st _ 3 _) (fun _ _ h => h)).trans (st _ 4 _) (fun _ _ h => h)).trans (st _ 5 _) (fun _ _ h => h)).trans (st _ 6 _) (fun _ _ h => h)).trans (st _ 7 _) (fun _ _ h => h)).trans (st _ 8 _) (fun _ _ h => h)).trans (st _ 9 _) (fun _ _ h => h)).trans (st _ 10 _) (fun _ _ h => h))
theorem Only.pageAt (w : World) (b : Nat) (p0 p1 p2 p3 p4 p5 : Value) : Only (fun k => k = b) w ((((((w.setCell ⟨b, 5, none⟩ p0).setCell ⟨b, 6, none⟩ p1).setCell ⟨b, 7, none⟩ p2).setCell ⟨b, 8, none⟩ p3).setCell ⟨b, 9, none⟩ p4).setCell ⟨b, 10, none⟩ p5) := by
  have st : ∀ (W : World) (i : Nat) (v : Value), Only (fun k => k = b) W (W.setCell ⟨b, i, none⟩ v) := fun W i v => Only.setCell W ⟨b, i, none⟩ v rfl
  exact ((((((st _ 5 _).trans (st _ 6 _) (fun _ _ h => h)).trans (st _ 7 _) (fun _ _ h => h)).trans (st _ 8 _) (fun _ _ h => h)).trans (st _ 9 _) (fun _ _ h => h)).trans (st _ 10 _) (fun _ _ h => h))
end Go.Proofs.YtpnbhddmdfcjdaaGreat
