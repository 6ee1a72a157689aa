/- Lists of calls that came in, opened. -/
import Derived.Test.YtahmmhmahglonaaEWalkA
import Derived.Deep.Draws
import Derived.ProofKit
import Derived.OpenShut
import Derived.SizedLaws
import Derived.Deep.Strs
namespace Go.Proofs.Ytahmmhmahglonaa
open Go.ChangeShapes Go.WideShapes Go.ChangeAt Go.RowKit Go.Deep

theorem Try.laidOut : laidOutB Try.prog = true := by kernel_rfl
theorem Try.cellsOp : Try.prog.cellsOf 28 = 3 := by kernel_rfl
theorem Try.bytesOp : Try.prog.bytesOf 28 = 24 := by kernel_rfl
theorem Try.cellsInt : Try.prog.cellsOf 3 = 1 := by kernel_rfl
theorem Try.cellsBool : Try.prog.cellsOf 4 = 1 := by kernel_rfl
theorem cell_spot {w : World} {a : Addr} {v : Value} (h : w.cell? a = some v) : a = ⟨a.block, a.off, none⟩ := by
  obtain ⟨b, o, s⟩ := a
  cases s with
  | none => rfl
  | some q =>
    unfold World.cell? at h
    split at h
    · simp at h
    · simp at h
theorem add_at (b o n : Nat) : (⟨b, o, none⟩ : Addr).add n = ⟨b, o + n, none⟩ := by
  unfold Addr.add
  split
  · rename_i h; rw [h]; rfl
  · rfl
theorem add_nought (a : Addr) : a.add 0 = a := by simp [Addr.add]
set_option maxRecDepth 100000 in
theorem eop_of_trod {H : Type} {enc : TypeId × Value → H} {W : World} {sp : Nat → Bool} {hd : Bool} {cs : List Value} {x : DataW H × List MemPlace} {n : Nat} (h : DataW.trod enc Try.prog W 0 sp hd n 28 cs = some x) (hl : cs.length = 3) :
    ∃ q : Bool × Int × Int, cs = [.bool q.1, .int .i64 q.2.1, .int .i64 q.2.2] ∧ N64 q.2.1 ∧ N64 q.2.2 := by
  obtain ⟨y0, y1, y2, m, _, _, g0, g1, g2⟩ := trod_struct3 Try.underlying28 h
  match cs, hl with
  | [v0, v1, v2], _ =>
    simp [Try.cellsBool, Try.cellsInt] at g0 g1 g2
    obtain ⟨c, e0, _⟩ := DataW.trod_bool Try.underlying4 g0
    obtain ⟨z, e1, _, wz⟩ := DataW.trod_int Try.underlying3 g1
    obtain ⟨s, e2, _, ws⟩ := DataW.trod_int Try.underlying3 g2
    simp at e0 e1 e2
    subst e0 e1 e2
    have b1 := bounds_i64 wz
    have b2 := bounds_i64 ws
    exact ⟨(c, z, s), rfl, ⟨b1.1, by show z < _; omega⟩, ⟨b2.1, by show s < _; omega⟩⟩
/-- Calls that a slice leads to, in block B: whether a page is dropped, which one, and its room. -/
structure Ops (w : World) (B : Nat) (ao : Option Addr) (n : Nat) (C : Nat → Bool) (X : Nat → Int) (S : Nat → Int) : Prop where
  at_ : 0 < n → ∃ o, ao = some ⟨B, o, none⟩ ∧ ∀ j, j < n → w.cell? ⟨B, o + j * 3, none⟩ = some (.bool (C j)) ∧ w.cell? ⟨B, o + j * 3 + 1, none⟩ = some (.int .i64 (X j)) ∧ w.cell? ⟨B, o + j * 3 + 2, none⟩ = some (.int .i64 (S j))
  wf : ∀ j, j < n → N64 (X j) ∧ N64 (S j)
  lt : 0 < n → B < w.heap.size
theorem Ops.kept {T : Nat → Prop} {w w' : World} {B : Nat} {ao : Option Addr} {n : Nat} {C : Nat → Bool} {X : Nat → Int} {S : Nat → Int} (h : Ops w B ao n C X S) (ho : Only T w w') (hS : 0 < n → ¬ T B) : Ops w' B ao n C X S := by
  refine ⟨fun hl => ?_, h.wf, fun hl => Nat.lt_of_lt_of_le (h.lt hl) ho.size⟩
  obtain ⟨o, e, hc⟩ := h.at_ hl
  exact ⟨o, e, fun j hj => ⟨(ho.cell (p := ⟨B, o + j * 3, none⟩) (h.lt hl) (hS hl)).trans (hc j hj).1, (ho.cell (p := ⟨B, o + j * 3 + 1, none⟩) (h.lt hl) (hS hl)).trans (hc j hj).2.1, (ho.cell (p := ⟨B, o + j * 3 + 2, none⟩) (h.lt hl) (hS hl)).trans (hc j hj).2.2⟩⟩
theorem Ops.more {w w' : World} {B : Nat} {ao : Option Addr} {n : Nat} {C : Nat → Bool} {X : Nat → Int} {S : Nat → Int} (h : Ops w B ao n C X S) (ho : Only (fun _ => False) w w') : Ops w' B ao n C X S := h.kept ho (fun _ h => h)
set_option maxRecDepth 100000 in
theorem eops_of_trod {H : Type} {enc : TypeId × Value → H} {W : World} {c : Value} {x : DataW H × List MemPlace} {sp : Nat → Bool} {hd : Bool} {fuel : Nat} (h : DataW.trod enc Try.prog W 0 sp hd fuel 22 [c] = some x) :
    ∃ (B : Nat) (ao : Option Addr) (n cap : Nat) (C : Nat → Bool) (X : Nat → Int) (S : Nat → Int), c = .slice ao n cap ∧ Ops W B ao n C X S ∧ (n = 0 ∨ ∃ el sp, x.1 = .slice el sp ∧ el.length = n) := by
  rcases open_slice Try.underlying22 h with ⟨hcs, hx⟩ | ⟨a', len, cap, m, n, D, Pl, hcs, hb, hl, hm, hmm, hx, hit⟩
  · simp at hcs
    subst hcs
    exact ⟨0, none, 0, 0, fun _ => false, fun _ => 0, fun _ => 0, rfl, ⟨fun h => by omega, fun j h => by omega, fun h => by omega⟩, .inl rfl⟩
  · simp at hcs
    subst hcs
    have hlm : len ≤ m := by rw [hmm]; split <;> omega
    have each : ∀ i, i < len → ∃ q : Bool × Int × Int, W.cell? (a'.add (i * 3)) = some (.bool q.1) ∧ W.cell? (a'.add (i * 3 + 1)) = some (.int .i64 q.2.1) ∧ W.cell? (a'.add (i * 3 + 2)) = some (.int .i64 q.2.2) ∧ N64 q.2.1 ∧ N64 q.2.2 := by
      intro i hi
      obtain ⟨cs', h1, h2⟩ := hit i (by omega)
      rw [Try.cellsOp] at h1
      obtain ⟨_, hlen, hcell⟩ := World.cells?_some h1
      obtain ⟨q, e, k1, k2⟩ := eop_of_trod h2 hlen
      subst e
      have c0 := hcell 0 (by omega)
      have c1 := hcell 1 (by omega)
      have c2 := hcell 2 (by omega)
      rw [add_add] at c0 c1 c2
      exact ⟨q, by simpa using c0, by simpa using c1, by simpa using c2, k1, k2⟩
    obtain ⟨q, hq⟩ := choose_lt (n := len) each
    have hd' : ∃ el sp, x.1 = .slice el sp ∧ el.length = len := ⟨_, _, by rw [hx], by simp⟩
    by_cases h0 : len = 0
    · subst h0
      exact ⟨0, some a', 0, cap, fun _ => false, fun _ => 0, fun _ => 0, rfl, ⟨fun h => by omega, fun j h => by omega, fun h => by omega⟩, .inl rfl⟩
    · have z0 := (hq 0 (by omega)).1
      rw [Nat.zero_mul, add_nought] at z0
      have e : a' = ⟨a'.block, a'.off, none⟩ := cell_spot z0
      have hbl := World.block_lt_of_cell? W _ z0
      obtain ⟨bb, oo, ss⟩ := a'
      simp at e
      subst e
      refine ⟨bb, some ⟨bb, oo, none⟩, len, cap, fun i => (q i).1, fun i => (q i).2.1, fun i => (q i).2.2, rfl, ⟨fun _ => ⟨oo, rfl, fun j hj => ?_⟩, fun j hj => (hq j hj).2.2.2, fun _ => hbl⟩, .inr hd'⟩
      obtain ⟨c0, c1, c2, _⟩ := hq j hj
      rw [add_at] at c0 c1 c2
      exact ⟨c0, c1, c2⟩
set_option maxRecDepth 100000 in
theorem open_eops {H : Type} {enc : TypeId × Value → H} {W : World} {base : Nat} {v : Value} {d : DataW H} {ps : List MemPlace} (hok : Value.okWide Try.prog W .any base 22 v) (h : DataW.Trod enc Try.prog W 0 (fun _ => true) true 22 v d ps) :
    ∃ (B : Nat) (ao : Option Addr) (n cap : Nat) (C : Nat → Bool) (X : Nat → Int) (S : Nat → Int), v = .slice ao n cap ∧ Ops W B ao n C X S ∧ (n = 0 ∨ ∃ el sp, d = .slice el sp ∧ el.length = n) := by
  obtain ⟨a, len, cap, rfl⟩ := okWide_slice Try.underlying22 hok
  obtain ⟨fuel, hf⟩ := h
  exact eops_of_trod (x := (d, _)) (by simpa [Value.cells] using hf)
theorem eops_bound {H : Type} {ts : List TypeId} {ds : List (DataW H)} (h : (DataW.weightsEach Try.prog ts ds).all (· ≤ reachBytes) = true) {j n : Nat} {d : DataW H} (ht : ts[j]? = some 22) (hd : ds[j]? = some d) (hn : n = 0 ∨ ∃ el sp, d = .slice el sp ∧ el.length = n) : n ≤ 5864062014634 := by
  rcases hn with rfl | ⟨el, sp, rfl, rfl⟩
  · omega
  · have := sized_slice h ht hd Try.underlying22
    rw [Try.bytesOp] at this
    unfold reachBytes at this
    omega
end Go.Proofs.Ytahmmhmahglonaa
