/- Changes that came in, opened: one, two, a list, a list with a limit. -/
import Derived.Test.YtcpgflkjeglgbaaCAwake
import Derived.Deep.Draws
import Derived.ProofKit
import Derived.OpenShut
import Derived.ShutString
import Derived.SizedLaws
import Derived.Deep.Strs
namespace Go.Proofs.Ytcpgflkjeglgbaa
open Go.ChangeShapes Go.WideShapes Go.ChangeAt Go.RowKit Go.Deep

theorem Try.laidOut : laidOutB Try.prog = true := by kernel_rfl
theorem Try.cellsOp : Try.prog.cellsOf 27 = 3 := by kernel_rfl
theorem Try.cellsOps : Try.prog.cellsOf 40 = 1 := by kernel_rfl
theorem Try.cellsSt : Try.prog.cellsOf 25 = 1 := by kernel_rfl
theorem Try.cellsInt : Try.prog.cellsOf 3 = 1 := by kernel_rfl
theorem Try.cellsBool : Try.prog.cellsOf 4 = 1 := by kernel_rfl
theorem Try.cellsTwo : Try.prog.cellsOf 44 = 2 := by kernel_rfl
theorem Try.cellsCuts : Try.prog.cellsOf 49 = 2 := by kernel_rfl
theorem ccell_spot {w : World} {a : Addr} {v : Value} (h : w.cell? a = some v) : a = ⟨a.block, a.off, none⟩ := by
  obtain ⟨b, o, s⟩ := a
  cases s with
  | none => rfl
  | some q =>
    unfold World.cell? at h
    split at h
    · simp at h
    · simp at h
theorem cadd_nought (a : Addr) : a.add 0 = a := by simp [Addr.add]
set_option maxRecDepth 100000 in
theorem op_of_trod {H : Type} {enc : TypeId × Value → H} {W : World} {sp : Nat → Bool} {hd : Bool} {cs : List Value} {x : DataW H × List MemPlace} {n : Nat} (h : DataW.trod enc Try.prog W 0 sp hd n 27 cs = some x) (hl : cs.length = 3) :
    ∃ q : Bool × Int × Nat, cs = [.bool q.1, .int .i64 q.2.1, .int .u8 (q.2.2 : Int)] ∧ I64 q.2.1 ∧ q.2.2 < 256 := by
  obtain ⟨y0, y1, y2, m, _, _, g0, g1, g2⟩ := trod_struct3 Try.underlying27 h
  match cs, hl with
  | [v0, v1, v2], _ =>
    simp [Try.cellsBool, Try.cellsInt, Try.cellsSt] at g0 g1 g2
    obtain ⟨c, e0, _⟩ := DataW.trod_bool Try.underlying4 g0
    obtain ⟨z, e1, _, wz⟩ := DataW.trod_int Try.underlying3 g1
    obtain ⟨s, e2, _, ws⟩ := DataW.trod_int Try.underlying25 g2
    simp at e0 e1 e2
    subst e0 e1 e2
    have b0 := bounds_u8 ws
    have b1 := bounds_i64 wz
    have hs : ((s.toNat : Nat) : Int) = s := by omega
    exact ⟨(c, z, s.toNat), by simp only [hs], ⟨b1.1, by show z < _; omega⟩, by show s.toNat < 256; omega⟩
set_option maxRecDepth 100000 in
theorem open_cop {H : Type} {enc : TypeId × Value → H} {W : World} {base : Nat} {v : Value} {d : DataW H} {ps : List MemPlace} (hok : Value.okWide Try.prog W .any base 27 v) (h : DataW.Trod enc Try.prog W 0 (fun _ => true) true 27 v d ps) :
    ∃ (c : Bool) (x : Int) (s : Nat), v = .agg #[.bool c, .int .i64 x, .int .u8 (s : Int)] ∧ I64 x ∧ s < 256 := by
  obtain ⟨cs, rfl, hs⟩ := okWide_struct Try.underlying27 hok
  obtain ⟨fuel, hf⟩ := h
  rw [Try.cellsOp] at hs
  obtain ⟨q, e, h1, h2⟩ := op_of_trod (cs := cs.toList) (by simpa [Value.cells] using hf) (by simpa using hs)
  refine ⟨q.1, q.2.1, q.2.2, ?_, h1, h2⟩
  obtain ⟨l⟩ := cs
  simp at e
  rw [e]
/-- Changes that a slice leads to, in block B. -/
structure Ops (w : World) (B : Nat) (ao : Option Addr) (n : Nat) (C : Nat → Bool) (X : Nat → Int) (S : Nat → Nat) : Prop where
  at_ : 0 < n → ∃ o, ao = some ⟨B, o, none⟩ ∧ ∀ j, j < n → w.cell? ⟨B, o + j * 3, none⟩ = some (.bool (C j)) ∧ w.cell? ⟨B, o + j * 3 + 1, none⟩ = some (.int .i64 (X j)) ∧ w.cell? ⟨B, o + j * 3 + 2, none⟩ = some (.int .u8 (S j : Int))
  wf : ∀ j, j < n → I64 (X j) ∧ S j < 256
  lt : 0 < n → B < w.heap.size
  len : n < 9223372036854775808
theorem Ops.kept {T : Nat → Prop} {w w' : World} {B : Nat} {ao : Option Addr} {n : Nat} {C : Nat → Bool} {X : Nat → Int} {S : Nat → Nat} (h : Ops w B ao n C X S) (ho : Only T w w') (hS : 0 < n → ¬ T B) : Ops w' B ao n C X S := by
  refine ⟨fun hl => ?_, h.wf, fun hl => Nat.lt_of_lt_of_le (h.lt hl) ho.size, h.len⟩
  obtain ⟨o, e, hc⟩ := h.at_ hl
  exact ⟨o, e, fun j hj => ⟨(ho.cell (p := ⟨B, o + j * 3, none⟩) (h.lt hl) (hS hl)).trans (hc j hj).1, (ho.cell (p := ⟨B, o + j * 3 + 1, none⟩) (h.lt hl) (hS hl)).trans (hc j hj).2.1, (ho.cell (p := ⟨B, o + j * 3 + 2, none⟩) (h.lt hl) (hS hl)).trans (hc j hj).2.2⟩⟩
theorem Ops.more {w w' : World} {B : Nat} {ao : Option Addr} {n : Nat} {C : Nat → Bool} {X : Nat → Int} {S : Nat → Nat} (h : Ops w B ao n C X S) (ho : Only (fun _ => False) w w') : Ops w' B ao n C X S := h.kept ho (fun _ h => h)
set_option maxRecDepth 100000 in
theorem cops_of_trod {H : Type} {enc : TypeId × Value → H} {W : World} {c : Value} {x : DataW H × List MemPlace} {sp : Nat → Bool} {hd : Bool} {fuel : Nat} (h : DataW.trod enc Try.prog W 0 sp hd fuel 40 [c] = some x) :
    ∃ (B : Nat) (ao : Option Addr) (n cap : Nat) (C : Nat → Bool) (X : Nat → Int) (S : Nat → Nat), c = .slice ao n cap ∧ Ops W B ao n C X S := by
  rcases open_slice Try.underlying40 h with ⟨hcs, hx⟩ | ⟨a', len, cap, m, n, D, Pl, hcs, hb, hl, hm, hmm, hx, hit⟩
  · simp at hcs
    subst hcs
    exact ⟨0, none, 0, 0, fun _ => false, fun _ => 0, fun _ => 0, rfl, ⟨fun h => by omega, fun j h => by omega, fun h => by omega, by omega⟩⟩
  · simp at hcs
    subst hcs
    have hlm : len ≤ m := by rw [hmm]; split <;> omega
    have each : ∀ i, i < len → ∃ q : Bool × Int × Nat, W.cell? (a'.add (i * 3)) = some (.bool q.1) ∧ W.cell? (a'.add (i * 3 + 1)) = some (.int .i64 q.2.1) ∧ W.cell? (a'.add (i * 3 + 2)) = some (.int .u8 (q.2.2 : Int)) ∧ I64 q.2.1 ∧ q.2.2 < 256 := by
      intro i hi
      obtain ⟨cs', h1, h2⟩ := hit i (by omega)
      rw [Try.cellsOp] at h1
      obtain ⟨_, hlen, hcell⟩ := World.cells?_some h1
      obtain ⟨q, e, k1, k2⟩ := op_of_trod h2 hlen
      subst e
      have c0 := hcell 0 (by omega)
      have c1 := hcell 1 (by omega)
      have c2 := hcell 2 (by omega)
      rw [add_add] at c0 c1 c2
      exact ⟨q, by simpa using c0, by simpa using c1, by simpa using c2, k1, k2⟩
    obtain ⟨q, hq⟩ := choose_lt (n := len) each
    have hlen : len < 9223372036854775808 := by
      have hmx : maxLen = 9223372036854775807 := rfl
      omega
    by_cases h0 : len = 0
    · subst h0
      exact ⟨0, some a', 0, cap, fun _ => false, fun _ => 0, fun _ => 0, rfl, ⟨fun h => by omega, fun j h => by omega, fun h => by omega, by omega⟩⟩
    · have z0 := (hq 0 (by omega)).1
      rw [Nat.zero_mul, cadd_nought] at z0
      have e : a' = ⟨a'.block, a'.off, none⟩ := ccell_spot z0
      have hbl := World.block_lt_of_cell? W _ z0
      obtain ⟨bb, oo, ss⟩ := a'
      simp at e
      subst e
      refine ⟨bb, some ⟨bb, oo, none⟩, len, cap, fun i => (q i).1, fun i => (q i).2.1, fun i => (q i).2.2, rfl, ⟨fun _ => ⟨oo, rfl, fun j hj => ?_⟩, fun j hj => (hq j hj).2.2.2, fun _ => hbl, hlen⟩⟩
      obtain ⟨c0, c1, c2, _⟩ := hq j hj
      rw [add_at] at c0 c1 c2
      exact ⟨c0, c1, c2⟩
set_option maxRecDepth 100000 in
theorem open_cops {H : Type} {enc : TypeId × Value → H} {W : World} {base : Nat} {v : Value} {d : DataW H} {ps : List MemPlace} (hok : Value.okWide Try.prog W .any base 40 v) (h : DataW.Trod enc Try.prog W 0 (fun _ => true) true 40 v d ps) :
    ∃ (B : Nat) (ao : Option Addr) (n cap : Nat) (C : Nat → Bool) (X : Nat → Int) (S : Nat → Nat), v = .slice ao n cap ∧ Ops W B ao n C X S := by
  obtain ⟨a, len, cap, rfl⟩ := okWide_slice Try.underlying40 hok
  obtain ⟨fuel, hf⟩ := h
  exact cops_of_trod (by simpa [Value.cells] using hf)
set_option maxRecDepth 100000 in
theorem open_ctwo {H : Type} {enc : TypeId × Value → H} {W : World} {base : Nat} {v : Value} {d : DataW H} {ps : List MemPlace} (hok : Value.okWide Try.prog W .any base 44 v) (h : DataW.Trod enc Try.prog W 0 (fun _ => true) true 44 v d ps) :
    ∃ (x y : Int), v = .agg #[.int .i64 x, .int .i64 y] ∧ I64 x ∧ I64 y := by
  obtain ⟨cs, rfl, hs⟩ := okWide_struct Try.underlying44 hok
  obtain ⟨fuel, hf⟩ := h
  rw [Try.cellsTwo] at hs
  obtain ⟨y0, y1, n, _, _, g0, g1⟩ := trod_struct2 Try.underlying44 hf
  obtain ⟨c0, c1, rfl⟩ : ∃ c0 c1, cs = #[c0, c1] := by
    obtain ⟨l⟩ := cs
    match l, hs with
    | [a, b], _ => exact ⟨a, b, rfl⟩
  simp [Value.cells, Try.cellsInt] at g0 g1
  obtain ⟨x, e0, _, w0⟩ := DataW.trod_int Try.underlying3 g0
  obtain ⟨y, e1, _, w1⟩ := DataW.trod_int Try.underlying3 g1
  simp at e0 e1
  subst e0 e1
  have b0 := bounds_i64 w0
  have b1 := bounds_i64 w1
  exact ⟨x, y, rfl, ⟨b0.1, by omega⟩, ⟨b1.1, by omega⟩⟩
set_option maxRecDepth 100000 in
theorem open_ccuts {H : Type} {enc : TypeId × Value → H} {W : World} {base : Nat} {v : Value} {d : DataW H} {ps : List MemPlace} (hok : Value.okWide Try.prog W .any base 49 v) (h : DataW.Trod enc Try.prog W 0 (fun _ => true) true 49 v d ps) :
    ∃ (B : Nat) (ao : Option Addr) (n cap : Nat) (C : Nat → Bool) (X : Nat → Int) (S : Nat → Nat) (y : Int), v = .agg #[.slice ao n cap, .int .i64 y] ∧ Ops W B ao n C X S ∧ I64 y := by
  obtain ⟨cs, rfl, hs⟩ := okWide_struct Try.underlying49 hok
  obtain ⟨fuel, hf⟩ := h
  rw [Try.cellsCuts] at hs
  obtain ⟨y0, y1, n, _, _, g0, g1⟩ := trod_struct2 Try.underlying49 hf
  obtain ⟨c0, c1, rfl⟩ : ∃ c0 c1, cs = #[c0, c1] := by
    obtain ⟨l⟩ := cs
    match l, hs with
    | [a, b], _ => exact ⟨a, b, rfl⟩
  simp [Value.cells, Try.cellsInt, Try.cellsOps] at g0 g1
  obtain ⟨B, ao, n, cap, C, X, S, rfl, hI⟩ := cops_of_trod g0
  obtain ⟨y, e1, _, w1⟩ := DataW.trod_int Try.underlying3 g1
  simp at e1
  subst e1
  have b1 := bounds_i64 w1
  exact ⟨B, ao, n, cap, C, X, S, y, rfl, hI, ⟨b1.1, by omega⟩⟩
end Go.Proofs.Ytcpgflkjeglgbaa
