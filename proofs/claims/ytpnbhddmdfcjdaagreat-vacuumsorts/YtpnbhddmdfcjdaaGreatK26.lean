/- Parts. -/
import Derived.Test.YtpnbhddmdfcjdaaGreatK25
import Derived.Deep.RegionHeld3
import Derived.Deep.Draws
import Derived.Test.YtpnbhddmdfcjdaaGreatK18
import Derived.Test.YtpnbhddmdfcjdaaGreatK19
import Derived.Test.YtpnbhddmdfcjdaaGreatK20
import Derived.Test.YtpnbhddmdfcjdaaGreatK21
import Derived.Test.YtpnbhddmdfcjdaaGreatK22
set_option maxRecDepth 100000
namespace Go.Proofs.YtpnbhddmdfcjdaaGreat
open Go.RowKit
/-- Three cells of a variable in block b. -/
structure WB (w : World) (b : Nat) (v0 v1 v2 : Value) : Prop where
  c0 : w.cell? ⟨b, 0, none⟩ = some v0
  c1 : w.cell? ⟨b, 1, none⟩ = some v1
  c2 : w.cell? ⟨b, 2, none⟩ = some v2
  f0 : w.frozen? ⟨b, 0, none⟩ = false
  f1 : w.frozen? ⟨b, 1, none⟩ = false
  f2 : w.frozen? ⟨b, 2, none⟩ = false
  lt : b < w.heap.size
theorem WB.kept {S : Nat → Prop} {w w' : World} {b : Nat} {v0 v1 v2 : Value} (h : WB w b v0 v1 v2) (ho : Only S w w') (hS : ¬ S b) : WB w' b v0 v1 v2 :=
  ⟨(ho.cell (p := ⟨b, 0, none⟩) h.lt hS).trans h.c0, (ho.cell (p := ⟨b, 1, none⟩) h.lt hS).trans h.c1, (ho.cell (p := ⟨b, 2, none⟩) h.lt hS).trans h.c2,
   (ho.frozen (p := ⟨b, 0, none⟩) h.lt hS).trans h.f0, (ho.frozen (p := ⟨b, 1, none⟩) h.lt hS).trans h.f1, (ho.frozen (p := ⟨b, 2, none⟩) h.lt hS).trans h.f2, Nat.lt_of_lt_of_le h.lt ho.size⟩
theorem WB.more {w w' : World} {b : Nat} {v0 v1 v2 : Value} (h : WB w b v0 v1 v2) (ho : Only (fun _ => False) w w') : WB w' b v0 v1 v2 := h.kept ho (fun h => h)
theorem WB.new (w : World) (t : TypeId) (v0 v1 v2 : Value) : WB (w.alloc (.cells #[v0, v1, v2] t)) w.heap.size v0 v1 v2 := ⟨by simp, by simp, by simp, by simp, by simp, by simp, by simp⟩
theorem WB.s0 {w : World} {b : Nat} {v0 v1 v2 : Value} (h : WB w b v0 v1 v2) (u : Value) : WB (w.setCell ⟨b, 0, none⟩ u) b u v1 v2 :=
  ⟨World.cell?_setCell_same _ _ _ h.c0, othU _ _ _ _ _ _ (by omega) h.c1, othU _ _ _ _ _ _ (by omega) h.c2, by simpa using h.f0, by simpa using h.f1, by simpa using h.f2, by simpa using h.lt⟩
theorem WB.s1 {w : World} {b : Nat} {v0 v1 v2 : Value} (h : WB w b v0 v1 v2) (u : Value) : WB (w.setCell ⟨b, 1, none⟩ u) b v0 u v2 :=
  ⟨othU _ _ _ _ _ _ (by omega) h.c0, World.cell?_setCell_same _ _ _ h.c1, othU _ _ _ _ _ _ (by omega) h.c2, by simpa using h.f0, by simpa using h.f1, by simpa using h.f2, by simpa using h.lt⟩
theorem WB.s2 {w : World} {b : Nat} {v0 v1 v2 : Value} (h : WB w b v0 v1 v2) (u : Value) : WB (w.setCell ⟨b, 2, none⟩ u) b v0 v1 u :=
  ⟨othU _ _ _ _ _ _ (by omega) h.c0, othU _ _ _ _ _ _ (by omega) h.c1, World.cell?_setCell_same _ _ _ h.c2, by simpa using h.f0, by simpa using h.f1, by simpa using h.f2, by simpa using h.lt⟩
theorem WB.all {w : World} {b : Nat} {v0 v1 v2 : Value} (h : WB w b v0 v1 v2) (u0 u1 u2 : Value) : WB (((w.setCell ⟨b, 0, none⟩ u0).setCell ⟨b, 1, none⟩ u1).setCell ⟨b, 2, none⟩ u2) b u0 u1 u2 := ((h.s0 u0).s1 u1).s2 u2
theorem Only.threeW (w : World) (b : Nat) (u0 u1 u2 : Value) : Only (fun k => k = b) w (((w.setCell ⟨b, 0, none⟩ u0).setCell ⟨b, 1, none⟩ u1).setCell ⟨b, 2, none⟩ u2) := by
  have st : ∀ (W : World) (i : Nat) (v : Value), Only (fun k => k = b) W (W.setCell ⟨b, i, none⟩ v) := fun W i v => Only.setCell W ⟨b, i, none⟩ v rfl
  exact ((st _ 0 _).trans (st _ 1 _) (fun _ _ h => h)).trans (st _ 2 _) (fun _ _ h => h)
theorem load_work {w : World} {b : Nat} {v0 v1 v2 : Value} (h : WB w b v0 v1 v2) : (loadVar 39 ⟨b, 0, none⟩).run Tryz.prog w = .ok (.agg #[v0, v1, v2]) w := by
  have c0 := h.c0
  have c1 := h.c1
  have c2 := h.c2
  simp [loadVar, go_sem, c0, c1, c2]
theorem load_viewI {w : World} {b : Nat} {v0 v1 v2 v3 v4 v5 v6 v7 v8 v9 v10 : Value} (h : VB w b v0 v1 v2 v3 v4 v5 v6 v7 v8 v9 v10) : (loadVar 32 ⟨b, 0, none⟩).run Tryz.prog w = .ok (.agg #[v0, v1, v2, v3, v4, v5, v6, v7, v8, v9, v10]) w := by
  have c0 := h.c0
  have c1 := h.c1
  have c2 := h.c2
  have c3 := h.c3
  have c4 := h.c4
  have c5 := h.c5
  have c6 := h.c6
  have c7 := h.c7
  have c8 := h.c8
  have c9 := h.c9
  have c10 := h.c10
  simp [loadVar, go_sem, c0, c1, c2, c3, c4, c5, c6, c7, c8, c9, c10]
theorem yieldsIf_load_viewI {ops : Array Oper} {S : World → Prop} {op : Oper} {a : Act} {v0 v1 v2 v3 v4 v5 v6 v7 v8 v9 v10 : Value} (hw : Region.wanted op (yielded ops a.tmps) = true) (x : Operand) (ho : op.op = .load 32 x)
    {b : Nat} (hx : a.eval x = .pointer (some ⟨b, 0, none⟩)) (hS : ∀ w, S w → VB w b v0 v1 v2 v3 v4 v5 v6 v7 v8 v9 v10) : YieldsIf Tryz.prog ops S op (.agg #[v0, v1, v2, v3, v4, v5, v6, v7, v8, v9, v10]) a :=
  .inl ⟨hw, fun w hw' => by
    unfold execOp
    simp only [ho, hx, Instr.loadAt, Instr.sureAddr, Sem.run_bind, Sem.run_pure, Result.andThen_ok, load_viewI (hS w hw')]⟩
/-- The rows that grow, from W1 on alone, and the variable b that leads to them. -/
structure SoSt (W1 wr : World) (b : Nat) (v0 v1 v2 : Value) (K : Wk) : Prop where
  wb : WB wr b v0 v1 v2
  at_ : WkAt wr W1.heap.size v0 v1 v2 K
  only : Only (fun k => k = b ∨ W1.heap.size ≤ k) W1 wr
  lt : b < W1.heap.size
theorem SoSt.more {W1 wr w' : World} {b : Nat} {v0 v1 v2 : Value} {K : Wk} (h : SoSt W1 wr b v0 v1 v2 K) (ho : Only (fun _ => False) wr w') : SoSt W1 w' b v0 v1 v2 K :=
  ⟨h.wb.more ho, h.at_.more ho, h.only.trans ho (fun _ _ e => e.elim), h.lt⟩
theorem SoSt.fr {W1 wr w' : World} {b : Nat} {v0 v1 v2 v' : Value} {K : Wk} {L : List Int} (h : SoSt W1 wr b v0 v1 v2 K) (hr : IRw w' W1.heap.size v' L) (ho : Only (fun i => some i = v0.ownBlock) wr w') (hb : v'.ownBlock = v0.ownBlock ∨ ∃ k, v'.ownBlock = some k ∧ wr.heap.size ≤ k) : SoSt W1 (w'.setCell ⟨b, 0, none⟩ v') b v' v1 v2 ⟨L, K.of, K.gn⟩ :=
  have hl := h.lt
  have hs := Only.setCell (S := fun k => k = b) w' ⟨b, 0, none⟩ v' rfl
  ⟨(h.wb.kept ho (fun e => by have := (h.at_.fr.low b e.symm).1; omega)).s0 v', (h.at_.setFr hr ho hb).kept hs (fun k hk e => by omega),
   (h.only.trans ho (fun i _ e => .inr (h.at_.fr.low i e.symm).1)).trans hs (fun i _ e => .inl e), hl⟩
theorem SoSt.of {W1 wr w' : World} {b : Nat} {v0 v1 v2 v' : Value} {K : Wk} {L : List Int} (h : SoSt W1 wr b v0 v1 v2 K) (hr : IRw w' W1.heap.size v' L) (ho : Only (fun i => some i = v1.ownBlock) wr w') (hb : v'.ownBlock = v1.ownBlock ∨ ∃ k, v'.ownBlock = some k ∧ wr.heap.size ≤ k) : SoSt W1 (w'.setCell ⟨b, 1, none⟩ v') b v0 v' v2 ⟨K.fr, L, K.gn⟩ :=
  have hl := h.lt
  have hs := Only.setCell (S := fun k => k = b) w' ⟨b, 1, none⟩ v' rfl
  ⟨(h.wb.kept ho (fun e => by have := (h.at_.of.low b e.symm).1; omega)).s1 v', (h.at_.setOf hr ho hb).kept hs (fun k hk e => by omega),
   (h.only.trans ho (fun i _ e => .inr (h.at_.of.low i e.symm).1)).trans hs (fun i _ e => .inl e), hl⟩
theorem SoSt.gn {W1 wr w' : World} {b : Nat} {v0 v1 v2 v' : Value} {K : Wk} {L : List En} (h : SoSt W1 wr b v0 v1 v2 K) (hr : ERows w' W1.heap.size v' L) (ho : Only (fun i => some i = v2.ownBlock) wr w') (hb : v'.ownBlock = v2.ownBlock ∨ ∃ k, v'.ownBlock = some k ∧ wr.heap.size ≤ k) : SoSt W1 (w'.setCell ⟨b, 2, none⟩ v') b v0 v1 v' ⟨K.fr, K.of, L⟩ :=
  have hl := h.lt
  have hs := Only.setCell (S := fun k => k = b) w' ⟨b, 2, none⟩ v' rfl
  ⟨(h.wb.kept ho (fun e => by have := (h.at_.gn.low b e.symm).1; omega)).s2 v', (h.at_.setGn hr ho hb).kept hs (fun k hk e => by omega),
   (h.only.trans ho (fun i _ e => .inr (h.at_.gn.low i e.symm).1)).trans hs (fun i _ e => .inl e), hl⟩
theorem Wk.step_gn {V : Vw} {h pg : Int} {K : Wk} {i : Nat} {s : ByteArray} (hg : gnS V h s = true) : K.step V h pg i s = ⟨K.fr, K.of, K.gn ++ [⟨keyB s, pg, i⟩]⟩ := by unfold Wk.step; rw [if_pos hg]
theorem Wk.step_no {V : Vw} {h pg : Int} {K : Wk} {i : Nat} {s : ByteArray} (hd : decT (bl s) = none) (hs : (stT (bl s) == 2) = false) : K.step V h pg i s = K := by
  unfold Wk.step gnS fzS ofS
  rw [hd, hs]
  rfl
theorem Wk.step_lv {V : Vw} {h pg : Int} {K : Wk} {i : Nat} {s : ByteArray} {t : Tu} (hd : decT (bl s) = some t) (hs : (stT (bl s) == 2) = false) (hg : vgone V t.tp h = false) : K.step V h pg i s = ⟨if vold V t.tp h = true then K.fr ++ [(i : Int)] else K.fr, if voff V t.tp = true then K.of ++ [(i : Int)] else K.of, K.gn⟩ := by
  unfold Wk.step gnS fzS ofS
  simp only [hd, hs, hg]
  rfl
theorem gnS_dead {V : Vw} {h : Int} {s : ByteArray} (hs : (stT (bl s) == 2) = true) : gnS V h s = true := by unfold gnS; rw [hs]; rfl
theorem gnS_lv {V : Vw} {h : Int} {s : ByteArray} {t : Tu} (hd : decT (bl s) = some t) (hg : vgone V t.tp h = true) : gnS V h s = true := by unfold gnS; simp only [hd, hg, Bool.or_true]
theorem stT_lv {s : ByteArray} {t : Tu} (hd : decT (bl s) = some t) : (stT (bl s) == 2) = false := by unfold stT; rw [hd]; rfl
end Go.Proofs.YtpnbhddmdfcjdaaGreat
