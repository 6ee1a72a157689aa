/- Entries that came in, opened. -/
import Derived.Test.YthjjkhacniebiaaGreatK14
import Derived.ProofKit
import Derived.OpenShut
import Derived.ShutString
import Derived.SizedLaws
import Derived.Deep.Strs
namespace Go.Proofs.YthjjkhacniebiaaGreat
open Go.ChangeShapes Go.WideShapes Go.ChangeAt Go.RowKit Go.Deep

instance : Inhabited En := ⟨noE⟩
theorem Tryz.laidOut : laidOutB Tryz.prog = true := by kernel_rfl
theorem Tryz.cellsInt : Tryz.prog.cellsOf 3 = 1 := by kernel_rfl
theorem Tryz.cellsEnt : Tryz.prog.cellsOf 41 = 3 := by kernel_rfl
theorem Tryz.cellsStr : Tryz.prog.cellsOf 9 = 1 := by kernel_rfl
set_option maxRecDepth 100000 in
theorem open_entry {H : Type} {enc : TypeId × Value → H} {W : World} {base : Nat} {v : Value} {d : DataW H} {ps : List MemPlace} (hok : Value.okWide Tryz.prog W .any base 41 v) (h : DataW.Trod enc Tryz.prog W 0 (fun _ => true) true 41 v d ps) :
    ∃ T : En, v = .agg #[.string T.key, .int .i64 T.page, .int .i64 T.slot] ∧ (-9223372036854775808 ≤ T.page ∧ T.page < 9223372036854775808) ∧ (-9223372036854775808 ≤ T.slot ∧ T.slot < 9223372036854775808) := by
  obtain ⟨cs, rfl, hs⟩ := okWide_struct Tryz.underlying41 hok
  obtain ⟨fuel, hf⟩ := h
  rw [Tryz.cellsEnt] at hs
  obtain ⟨xs, n, _, hx, _, hlen, hfs⟩ := DataW.trod_struct Tryz.underlying41 hf
  obtain ⟨c0, c1, c2, rfl⟩ : ∃ c0 c1 c2, cs = #[c0, c1, c2] := by
    obtain ⟨l⟩ := cs
    match l, hs with
    | [c0, c1, c2], _ => exact ⟨c0, c1, c2, rfl⟩
  match xs, hlen with
  | [y0, y1, y2], _ =>
    have g0 := hfs 0 _ rfl
    have g1 := hfs 1 _ rfl
    have g2 := hfs 2 _ rfl
    simp [Value.cells, Tryz.cellsInt, Tryz.cellsStr] at g0 g1 g2
    obtain ⟨k, e0, _, _⟩ := DataW.trod_string Tryz.underlying9 g0
    obtain ⟨a, e1, _, w1⟩ := DataW.trod_int Tryz.underlying3 g1
    obtain ⟨b, e2, _, w2⟩ := DataW.trod_int Tryz.underlying3 g2
    simp at e0 e1 e2
    subst e0 e1 e2
    have b0 := bounds_i64 w1
    have b1 := bounds_i64 w2
    exact ⟨⟨k, a, b⟩, rfl, ⟨b0.1, by show a < _; omega⟩, ⟨b1.1, by show b < _; omega⟩⟩
theorem spotN {w : World} {a : Addr} {v : Value} (h : w.cell? a = some v) : a = ⟨a.block, a.off, none⟩ := by
  obtain ⟨b, o, s⟩ := a
  cases s with
  | none => rfl
  | some q =>
    unfold World.cell? at h
    split at h
    · simp at h
    · simp at h
set_option maxRecDepth 100000 in
theorem one_ent {H : Type} {enc : TypeId × Value → H} {w : World} {sp : Nat → Bool} {a : Addr} {i n : Nat} {D : DataW H} {Pl : List MemPlace}
    (h : ∃ cs', w.cells? 0 (a.add (i * Tryz.prog.cellsOf 41)) (Tryz.prog.cellsOf 41) = some cs' ∧ DataW.trod enc Tryz.prog w 0 sp true n 41 cs' = some (D, Pl)) :
    ∃ q : En, w.cell? (a.add (i * 3)) = some (.string q.key) ∧ w.cell? (a.add (i * 3 + 1)) = some (.int .i64 q.page) ∧ w.cell? (a.add (i * 3 + 2)) = some (.int .i64 q.slot) := by
  obtain ⟨cs', h1, h2⟩ := h
  rw [Tryz.cellsEnt] at h1
  obtain ⟨_, hlen, hcell⟩ := World.cells?_some h1
  obtain ⟨y0, y1, y2, m, hxy, _, g0, g1, g2⟩ := trod_struct3 Tryz.underlying41 h2
  match cs', hlen with
  | [v0, v1, v2], _ =>
    simp [Tryz.cellsInt, Tryz.cellsStr] at g0 g1 g2
    obtain ⟨s, e0, f0, ws⟩ := DataW.trod_string Tryz.underlying9 g0
    obtain ⟨k, e1, f1, wk⟩ := DataW.trod_int Tryz.underlying3 g1
    obtain ⟨z, e2, f2, wz⟩ := DataW.trod_int Tryz.underlying3 g2
    simp at e0 e1 e2
    subst e0; subst e1; subst e2
    have c0 := hcell 0 (by omega)
    have c1 := hcell 1 (by omega)
    have c2 := hcell 2 (by omega)
    rw [add_add] at c0 c1 c2
    exact ⟨⟨s, k, z⟩, by simpa using c0, by simpa using c1, by simpa using c2⟩
set_option maxRecDepth 100000 in
/-- A list of entries that came in. -/
theorem open_ents {H : Type} {enc : TypeId × Value → H} {W : World} {base : Nat} {v : Value} {d : DataW H} {ps : List MemPlace} (hok : Value.okWide Tryz.prog W .any base 47 v) (h : DataW.Trod enc Tryz.prog W 0 (fun _ => true) true 47 v d ps) :
    ∃ (B : Nat) (a : Option Addr) (cap : Nat) (es : List En), v = .slice a es.length cap ∧ es.length ≤ maxLen ∧ Els W B a es := by
  obtain ⟨a, len, cap, rfl⟩ := okWide_slice Tryz.underlying47 hok
  obtain ⟨fuel, hf⟩ := h
  rcases open_slice Tryz.underlying47 (by simpa [Value.cells] using hf) with ⟨hcs, hx⟩ | ⟨a', len', cap', m, n, D, Pl, hcs, hb, hl, hm, hmm, hx, hit⟩
  · simp at hcs
    obtain ⟨rfl, rfl, rfl⟩ := hcs
    exact ⟨0, none, 0, [], rfl, by simp, Els.nil _ _ _⟩
  · simp at hcs
    obtain ⟨rfl, rfl, rfl⟩ := hcs
    simp at hmm
    subst hmm
    obtain ⟨q, hq⟩ := choose_lt (n := m) (fun i hi => one_ent (hit i hi))
    have hlen : ((List.range len).map q).length = len := by simp
    refine ⟨a'.block, some a', m, (List.range len).map q, by rw [hlen], by rw [hlen]; exact Nat.le_trans hl hm, ⟨fun h0 => ?_⟩⟩
    rw [hlen] at h0
    have c0 := (hq 0 (by omega)).1
    have e0 : a'.add (0 * 3) = a' := by unfold Addr.add; split <;> simp_all
    rw [e0] at c0
    have ha := spotN c0
    refine ⟨a'.off, by rw [← ha], fun j hj => ?_⟩
    rw [hlen] at hj
    obtain ⟨cj0, cj1, cj2⟩ := hq j (by omega)
    rw [ha, add_at] at cj0 cj1 cj2
    have e : ((List.range len).map q)[j]'(by rw [hlen]; exact hj) = q j := by simp
    rw [e]
    exact ⟨cj0, by rw [Nat.add_assoc]; exact cj1, by rw [Nat.add_assoc]; exact cj2, World.block_lt_of_cell? W ⟨a'.block, a'.off + j * 3, none⟩ cj0⟩
end Go.Proofs.YthjjkhacniebiaaGreat
