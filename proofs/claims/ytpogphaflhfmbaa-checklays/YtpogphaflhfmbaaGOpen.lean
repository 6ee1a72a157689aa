/- A configuration, a control block, a row of pairs that came in. -/
import Derived.Test.YtpogphaflhfmbaaGRedo
import Derived.Deep.Draws
import Derived.ProofKit
import Derived.OpenShut
import Derived.SizedLaws
import Derived.ShutString
import Derived.Deep.Strs
namespace Go.Proofs.Ytpogphaflhfmbaa
open Go.ChangeShapes Go.WideShapes Go.ChangeAt Go.RowKit Go.Deep

theorem Try.laidOut : laidOutB Try.prog = true := by kernel_rfl
theorem Try.cellsInt : Try.prog.cellsOf 3 = 1 := by kernel_rfl
theorem Try.cellsConfig : Try.prog.cellsOf 23 = 4 := by kernel_rfl
theorem Try.cellsControl : Try.prog.cellsOf 25 = 7 := by kernel_rfl
theorem Try.cellsOwed : Try.prog.cellsOf 48 = 2 := by kernel_rfl
theorem Try.bytesOwed : Try.prog.bytesOf 48 = 16 := by kernel_rfl
theorem cell_spotG {w : World} {a : Addr} {v : Value} (h : w.cell? a = some v) : a = ⟨a.block, a.off, none⟩ := by
  obtain ⟨b, o, s⟩ := a
  cases s with
  | none => rfl
  | some q =>
    unfold World.cell? at h
    split at h
    · simp at h
    · simp at h
theorem add_atG (b o n : Nat) : (⟨b, o, none⟩ : Addr).add n = ⟨b, o + n, none⟩ := by
  unfold Addr.add
  split
  · rename_i h; rw [h]; rfl
  · rfl
theorem add_noughtG (a : Addr) : a.add 0 = a := by simp [Addr.add]
set_option maxRecDepth 100000 in
theorem config_of_trod {H : Type} {enc : TypeId × Value → H} {W : World} {sp : Nat → Bool} {hd : Bool} {c0 c1 c2 c3 : Value} {x : DataW H × List MemPlace} {n : Nat} (h : DataW.trod enc Try.prog W 0 sp hd n 23 [c0, c1, c2, c3] = some x) :
    ∃ f m l p : Int, c0 = .int .i64 f ∧ c1 = .int .i64 m ∧ c2 = .int .i64 l ∧ c3 = .int .i64 p ∧ I64 f ∧ I64 m ∧ I64 l ∧ I64 p := by
  obtain ⟨xs, n, _, hx, _, hlen, hfs⟩ := DataW.trod_struct Try.underlying23 h
  match xs, hlen with
  | [y0, y1, y2, y3], _ =>
    have g0 := hfs 0 _ rfl
    have g1 := hfs 1 _ rfl
    have g2 := hfs 2 _ rfl
    have g3 := hfs 3 _ rfl
    simp [Try.cellsInt] at g0 g1 g2 g3
    obtain ⟨f, e0, _, w0⟩ := DataW.trod_int Try.underlying3 g0
    obtain ⟨m, e1, _, w1⟩ := DataW.trod_int Try.underlying3 g1
    obtain ⟨l, e2, _, w2⟩ := DataW.trod_int Try.underlying3 g2
    obtain ⟨p, e3, _, w3⟩ := DataW.trod_int Try.underlying3 g3
    simp at e0 e1 e2 e3
    have b0 := bounds_i64 w0
    have b1 := bounds_i64 w1
    have b2 := bounds_i64 w2
    have b3 := bounds_i64 w3
    exact ⟨f, m, l, p, e0, e1, e2, e3, ⟨b0.1, by show f < _; omega⟩, ⟨b1.1, by show m < _; omega⟩, ⟨b2.1, by show l < _; omega⟩, ⟨b3.1, by show p < _; omega⟩⟩
set_option maxRecDepth 100000 in
theorem open_config {H : Type} {enc : TypeId × Value → H} {W : World} {base : Nat} {v : Value} {d : DataW H} {ps : List MemPlace} (hok : Value.okWide Try.prog W .any base 23 v) (h : DataW.Trod enc Try.prog W 0 (fun _ => true) true 23 v d ps) :
    ∃ f m l p : Int, v = .agg #[.int .i64 f, .int .i64 m, .int .i64 l, .int .i64 p] ∧ I64 f ∧ I64 m ∧ I64 l ∧ I64 p := by
  obtain ⟨cs, rfl, hs⟩ := okWide_struct Try.underlying23 hok
  obtain ⟨fuel, hf⟩ := h
  rw [Try.cellsConfig] at hs
  obtain ⟨c0, c1, c2, c3, rfl⟩ : ∃ c0 c1 c2 c3, cs = #[c0, c1, c2, c3] := by
    obtain ⟨l⟩ := cs
    match l, hs with
    | [c0, c1, c2, c3], _ => exact ⟨c0, c1, c2, c3, rfl⟩
  obtain ⟨f, m, l, p, rfl, rfl, rfl, rfl, i0, i1, i2, i3⟩ := config_of_trod (x := (d, _)) (by simpa [Value.cells] using hf)
  exact ⟨f, m, l, p, rfl, i0, i1, i2, i3⟩
set_option maxRecDepth 100000 in
theorem open_control {H : Type} {enc : TypeId × Value → H} {W : World} {base : Nat} {v : Value} {d : DataW H} {ps : List MemPlace} (hok : Value.okWide Try.prog W .any base 25 v) (h : DataW.Trod enc Try.prog W 0 (fun _ => true) true 25 v d ps) :
    ∃ c : Ct, v = c.agg ∧ c.in64 := by
  obtain ⟨cs, rfl, hs⟩ := okWide_struct Try.underlying25 hok
  obtain ⟨fuel, hf⟩ := h
  rw [Try.cellsControl] at hs
  obtain ⟨xs, n, _, hx, _, hlen, hfs⟩ := DataW.trod_struct Try.underlying25 hf
  obtain ⟨c0, c1, c2, c3, c4, c5, c6, rfl⟩ : ∃ c0 c1 c2 c3 c4 c5 c6, cs = #[c0, c1, c2, c3, c4, c5, c6] := by
    obtain ⟨l⟩ := cs
    match l, hs with
    | [c0, c1, c2, c3, c4, c5, c6], _ => exact ⟨c0, c1, c2, c3, c4, c5, c6, rfl⟩
  match xs, hlen with
  | [y0, y1, y2, y3], _ =>
    have g0 := hfs 0 _ rfl
    have g1 := hfs 1 _ rfl
    have g2 := hfs 2 _ rfl
    have g3 := hfs 3 _ rfl
    simp [Value.cells, Try.cellsInt, Try.cellsConfig] at g0 g1 g2 g3
    obtain ⟨f, m, l, p, rfl, rfl, rfl, rfl, i0, i1, i2, i3⟩ := config_of_trod g0
    obtain ⟨a, e1, _, w1⟩ := DataW.trod_int Try.underlying3 g1
    obtain ⟨b, e2, _, w2⟩ := DataW.trod_int Try.underlying3 g2
    obtain ⟨c, e3, _, w3⟩ := DataW.trod_int Try.underlying3 g3
    simp at e1 e2 e3
    subst e1 e2 e3
    have b1 := bounds_i64 w1
    have b2 := bounds_i64 w2
    have b3 := bounds_i64 w3
    exact ⟨⟨f, m, l, p, a, b, c⟩, rfl, ⟨i0, i1, i2, i3, ⟨b1.1, by show a < _; omega⟩, ⟨b2.1, by show b < _; omega⟩, ⟨b3.1, by show c < _; omega⟩⟩⟩
set_option maxRecDepth 100000 in
theorem owed_of_trod {H : Type} {enc : TypeId × Value → H} {W : World} {sp : Nat → Bool} {hd : Bool} {cs : List Value} {x : DataW H × List MemPlace} {n : Nat} (h : DataW.trod enc Try.prog W 0 sp hd n 48 cs = some x) (hl : cs.length = 2) :
    ∃ q : Int × Int, cs = [.int .i64 q.1, .int .i64 q.2] := by
  obtain ⟨xs, n, _, hx, _, hlen, hfs⟩ := DataW.trod_struct Try.underlying48 h
  match cs, hl with
  | [v0, v1], _ =>
    match xs, hlen with
    | [y0, y1], _ =>
      have g0 := hfs 0 _ rfl
      have g1 := hfs 1 _ rfl
      simp [Try.cellsInt] at g0 g1
      obtain ⟨a, e0, _, _⟩ := DataW.trod_int Try.underlying3 g0
      obtain ⟨b, e1, _, _⟩ := DataW.trod_int Try.underlying3 g1
      simp at e0 e1
      subst e0 e1
      exact ⟨(a, b), rfl⟩
set_option maxRecDepth 100000 in
theorem oweds_of_trod {H : Type} {enc : TypeId × Value → H} {W : World} {c : Value} {x : DataW H × List MemPlace} {sp : Nat → Bool} {hd : Bool} {fuel : Nat} (h : DataW.trod enc Try.prog W 0 sp hd fuel 26 [c] = some x) :
    ∃ (B : Nat) (ao : Option Addr) (cap : Nat) (l : List (Int × Int)), c = .slice ao l.length cap ∧ (l.length ≤ 9223372036854775807 → Pr W B ao l) ∧ (l.length = 0 ∨ ∃ el sp, x.1 = .slice el sp ∧ el.length = l.length) := by
  rcases open_slice Try.underlying26 h with ⟨hcs, hx⟩ | ⟨a', len, cap, m, n, D, Pl, hcs, hb, hl, hm, hmm, hx, hit⟩
  · simp at hcs
    subst hcs
    exact ⟨0, none, 0, [], rfl, fun _ => Pr.nil _ _ _, .inl rfl⟩
  · simp at hcs
    subst hcs
    have each : ∀ i, i < len → ∃ q : Int × Int, W.cell? (a'.add (i * 2)) = some (.int .i64 q.1) ∧ W.cell? (a'.add (i * 2 + 1)) = some (.int .i64 q.2) := by
      intro i hi
      obtain ⟨cs', h1, h2⟩ := hit i (by rw [hmm]; split <;> omega)
      rw [Try.cellsOwed] at h1
      obtain ⟨_, hlen, hcell⟩ := World.cells?_some h1
      obtain ⟨q, e⟩ := owed_of_trod h2 hlen
      subst e
      have c0 := hcell 0 (by omega)
      have c1 := hcell 1 (by omega)
      rw [add_add] at c0 c1
      exact ⟨q, by simpa using c0, by simpa using c1⟩
    obtain ⟨q, hq⟩ := choose_lt (n := len) each
    have hlen : ((List.range len).map q).length = len := by simp
    refine ⟨a'.block, some a', cap, (List.range len).map q, by rw [hlen], fun hb => ⟨fun h0 => ?_, fun h0 => ?_, hb⟩, ?_⟩
    · rw [hlen] at h0
      have c0 := (hq 0 (by omega)).1
      rw [Nat.zero_mul, add_noughtG] at c0
      have ha := cell_spotG c0
      refine ⟨a'.off, by rw [← ha], fun j hj => ?_⟩
      rw [hlen] at hj
      have cj := hq j (by omega)
      rw [ha, add_atG, add_atG] at cj
      simpa [Nat.add_assoc] using cj
    · rw [hlen] at h0
      have c0 := (hq 0 (by omega)).1
      rw [Nat.zero_mul, add_noughtG] at c0
      exact World.block_lt_of_cell? W _ c0
    · rw [hlen]
      exact .inr ⟨_, _, by rw [hx], by simp⟩
set_option maxRecDepth 100000 in
theorem open_oweds {H : Type} {enc : TypeId × Value → H} {W : World} {base : Nat} {v : Value} {d : DataW H} {ps : List MemPlace} (hok : Value.okWide Try.prog W .any base 26 v) (h : DataW.Trod enc Try.prog W 0 (fun _ => true) true 26 v d ps) :
    ∃ (B : Nat) (ao : Option Addr) (cap : Nat) (l : List (Int × Int)), v = .slice ao l.length cap ∧ (l.length ≤ 9223372036854775807 → Pr W B ao l) ∧ (l.length = 0 ∨ ∃ el sp, d = .slice el sp ∧ el.length = l.length) := by
  obtain ⟨a, len, cap, rfl⟩ := okWide_slice Try.underlying26 hok
  obtain ⟨fuel, hf⟩ := h
  exact oweds_of_trod (x := (d, _)) (by simpa [Value.cells] using hf)
theorem oweds_bound {H : Type} {ts : List TypeId} {ds : List (DataW H)} (h : (DataW.weightsEach Try.prog ts ds).all (· ≤ reachBytes) = true) {j n : Nat} {d : DataW H} (ht : ts[j]? = some 26) (hd : ds[j]? = some d) (hn : n = 0 ∨ ∃ el sp, d = .slice el sp ∧ el.length = n) : n ≤ 9223372036854775807 := by
  rcases hn with rfl | ⟨el, sp, rfl, rfl⟩
  · omega
  · have := sized_slice h ht hd Try.underlying26
    rw [Try.bytesOwed] at this
    unfold reachBytes at this
    omega
end Go.Proofs.Ytpogphaflhfmbaa
