/- Lists of calls that came in, opened. -/
import Derived.Test.YtmcghpeamnmbpaaOAwake
import Derived.ProofKit
import Derived.OpenShut
import Derived.SizedLaws
import Derived.Deep.Strs
import Derived.Deep.Draws
import Derived.Deep.Grids
namespace Go.Proofs.Ytmcghpeamnmbpaa
open Go.ChangeShapes Go.WideShapes Go.ChangeAt Go.RowKit Go.Deep

theorem Try.laidOut : laidOutB Try.prog = true := by kernel_rfl
theorem Try.cellsBool : Try.prog.cellsOf 4 = 1 := by kernel_rfl
theorem Try.cellsInt : Try.prog.cellsOf 3 = 1 := by kernel_rfl
theorem Try.cellsInts : Try.prog.cellsOf 27 = 1 := by kernel_rfl
theorem Try.cellsSnap : Try.prog.cellsOf 29 = 2 := by kernel_rfl
theorem Try.cellsOp : Try.prog.cellsOf 31 = 6 := by kernel_rfl
theorem Try.bytesInt : Try.prog.bytesOf 3 = 8 := by kernel_rfl
theorem Try.bytesOp : Try.prog.bytesOf 31 = 64 := by kernel_rfl
theorem cell_spot {w : World} {a : Addr} {v : Value} (h : w.cell? a = some v) : a = ⟨a.block, a.off, none⟩ := by
  obtain ⟨b, o, s⟩ := a
  cases s with
  | none => rfl
  | some q =>
    unfold World.cell? at h
    split at h
    · simp at h
    · simp at h
theorem add_nought (a : Addr) : a.add 0 = a := by
  unfold Addr.add
  simp
/-- A call, and where its list lies. -/
structure Oq where
  c : Cl
  ao : Option Addr
  cp : Nat
def Oq.cells (z : Oq) : List Value := [.int .i64 z.c.ask, .int .i64 z.c.who, .int .i64 z.c.n, .bool z.c.flag, .int .i64 z.c.nx, .slice z.ao z.c.act.length z.cp]
structure Oq.ok (b : Nat) (w : World) (z : Oq) : Prop where
  who : N64 z.c.who
  nm : Nm w (fun k => k < b) z.ao z.c.act
/-- Calls that a slice leads to, in block B; all that they lead to is below b. -/
structure Oqs (b : Nat) (w : World) (B : Nat) (ao : Option Addr) (q : List Oq) : Prop where
  at_ : 0 < q.length → ∃ o, ao = some ⟨B, o, none⟩ ∧ ∀ j (h : j < q.length) (t : Nat) (v : Value), q[j].cells[t]? = some v → w.cell? ⟨B, o + j * 6 + t, none⟩ = some v
  ok : ∀ z ∈ q, z.ok b w
  lt : 0 < q.length → B < b ∧ B < w.heap.size
  len : q.length ≤ 2199023255488
theorem Oqs.kept {b : Nat} {S : Nat → Prop} {w w' : World} {B : Nat} {ao : Option Addr} {q : List Oq} (h : Oqs b w B ao q) (ho : Only S w w') (hS : ∀ k, S k → b ≤ k) : Oqs b w' B ao q := by
  refine ⟨fun h0 => ?_, fun z hz => ⟨(h.ok z hz).who, (h.ok z hz).nm.kept ho (fun k _ hk hs => by have := hS k hs; omega)⟩, fun h0 => ⟨(h.lt h0).1, Nat.lt_of_lt_of_le (h.lt h0).2 ho.size⟩, h.len⟩
  obtain ⟨o, e, hc⟩ := h.at_ h0
  exact ⟨o, e, fun j hj t v hv => (ho.cell (p := ⟨B, o + j * 6 + t, none⟩) (h.lt h0).2 (fun hs => by have h1 : b ≤ B := hS _ hs; have := (h.lt h0).1; omega)).trans (hc j hj t v hv)⟩
theorem Oqs.more {b : Nat} {w w' : World} {B : Nat} {ao : Option Addr} {q : List Oq} (h : Oqs b w B ao q) (ho : Only (fun _ => False) w w') : Oqs b w' B ao q := h.kept ho (fun _ h => h.elim)
theorem weightsAll_mem {H : Type} {P : Program} {e : TypeId} {d : DataW H} {l : List (DataW H)} {n : Nat} (hd : d ∈ l) (hn : n ∈ d.weights P e) : n ∈ DataW.weightsAll P e l := by
  induction l with
  | nil => cases hd
  | cons x t ih =>
    rw [DataW.weightsAll, List.mem_append]
    rcases List.mem_cons.1 hd with rfl | h
    · exact .inl hn
    · exact .inr (ih h)
set_option maxRecDepth 100000 in
/-- What the walk's opening of a slice gives, with the reach. -/
theorem slice_reach {H : Type} {enc : TypeId × Value → H} {W : World} {t e : TypeId} {c : Value} {x : DataW H × List MemPlace} {n : Nat} (ht : Try.prog.underlying t = some (.slice e)) (h : DataW.trod enc Try.prog W 0 (fun _ => true) true n t [c] = some x) (hw : ∀ m ∈ x.1.weights Try.prog t, m ≤ reachBytes) {k : Nat} (hb : k ≤ Try.prog.bytesOf e) :
    c = .slice none 0 0 ∨ ∃ (a : Addr) (len cap m : Nat) (D : Nat → DataW H) (Pl : Nat → List MemPlace), c = .slice (some a) len cap ∧ len ≤ cap ∧ cap ≤ maxLen ∧ cap * k ≤ 140737488351232 ∧
      (∀ i, i < cap → ∃ cs', W.cells? 0 (a.add (i * Try.prog.cellsOf e)) (Try.prog.cellsOf e) = some cs' ∧ DataW.trod enc Try.prog W 0 (fun _ => true) true m e cs' = some (D i, Pl i)) ∧
      (∀ i, i < len → ∀ k ∈ (D i).weights Try.prog e, k ≤ reachBytes) := by
  rcases open_slice ht h with ⟨hcs, hx⟩ | ⟨a', len', cap', m, n', D, Pl, hcs, hb', hl, hm, hmm, hx, hit⟩
  · simp at hcs
    exact .inl hcs
  · simp at hcs hmm
    subst hmm
    have hwr : reachBytes = 140737488351232 := by decide
    rw [hx] at hw
    simp only [DataW.weights, ht] at hw
    have hwb := hw ((((List.range len').map D).length + ((List.range (m - len')).map fun j => D (len' + j)).length) * Try.prog.bytesOf e) (by simp)
    simp only [List.length_map, List.length_range] at hwb
    have h8 : (len' + (m - len')) * k ≤ (len' + (m - len')) * Try.prog.bytesOf e := Nat.mul_le_mul_left _ hb
    have hme : len' + (m - len') = m := by omega
    rw [hme] at h8 hwb
    refine .inr ⟨a', len', m, n', D, Pl, hcs, hl, hm, by omega, hit, fun i hi k hk => ?_⟩
    refine hw k (List.mem_cons_of_mem _ (List.mem_append.2 (.inl (weightsAll_mem (d := D i) (List.mem_map.2 ⟨i, List.mem_range.2 hi, rfl⟩) hk))))
set_option maxRecDepth 100000 in
theorem ints_reach {H : Type} {enc : TypeId × Value → H} {W : World} {c : Value} {x : DataW H × List MemPlace} {n : Nat} (h : DataW.trod enc Try.prog W 0 (fun _ => true) true n 27 [c] = some x) (hw : ∀ m ∈ x.1.weights Try.prog 27, m ≤ reachBytes) :
    ∃ (ao : Option Addr) (cp : Nat) (l : List Int), c = .slice ao l.length cp ∧ Nm W (fun k => k < W.heap.size) ao l := by
  rcases slice_reach (k := 8) Try.underlying27 h hw (by rw [Try.bytesInt]; decide) with rfl | ⟨a, len, cap, m, D, Pl, rfl, hl, hm, hc, hit, _⟩
  · exact ⟨none, 0, [], rfl, Nm.none _ _ _⟩
  · have one : ∀ i, i < cap → ∃ z : Int, W.cell? (a.add i) = some (.int .i64 z) := fun i hi => by
      obtain ⟨cs', h1, h2⟩ := hit i hi
      rw [Try.cellsInt] at h1
      obtain ⟨_, hlen, hcell⟩ := World.cells?_some h1
      match cs', hlen with
      | [v0], _ =>
        obtain ⟨z, e0, _, wz⟩ := DataW.trod_int Try.underlying3 h2
        simp at e0
        subst e0
        have c0 := hcell 0 (by omega)
        rw [add_nought, Nat.mul_one] at c0
        exact ⟨z, by simpa using c0⟩
    obtain ⟨q, hq⟩ := choose_lt (n := cap) one
    have hlen : ((List.range len).map q).length = len := by simp
    refine ⟨some a, cap, (List.range len).map q, by rw [hlen], ⟨fun h0 => ?_, by rw [hlen]; omega⟩⟩
    rw [hlen] at h0
    have c0 := hq 0 (by omega)
    rw [add_nought] at c0
    have ha := cell_spot c0
    have hb := World.block_lt_of_cell? W _ c0
    refine ⟨a.block, a.off, by rw [← ha], hb, hb, fun j hj => ?_⟩
    rw [hlen] at hj
    have cj := hq j (by omega)
    rw [ha, add_at] at cj
    rw [cj]
    simp
set_option maxRecDepth 100000 in
theorem op_of_trod {H : Type} {enc : TypeId × Value → H} {W : World} {c0 c1 c2 c3 c4 c5 : Value} {x : DataW H × List MemPlace} {n : Nat} (h : DataW.trod enc Try.prog W 0 (fun _ => true) true n 31 [c0, c1, c2, c3, c4, c5] = some x)
    (hw : ∀ m ∈ x.1.weights Try.prog 31, m ≤ reachBytes) : ∃ z : Oq, [c0, c1, c2, c3, c4, c5] = z.cells ∧ z.ok W.heap.size W := by
  obtain ⟨xs, n', _, hx, _, hlen, hfs⟩ := DataW.trod_struct Try.underlying31 h
  match xs, hlen with
  | [y0, y1, y2, y3, y4], _ =>
    have g0 := hfs 0 _ rfl
    have g1 := hfs 1 _ rfl
    have g2 := hfs 2 _ rfl
    have g3 := hfs 3 _ rfl
    have g4 := hfs 4 _ rfl
    simp [Try.cellsInt, Try.cellsBool, Try.cellsSnap] at g0 g1 g2 g3 g4
    obtain ⟨a0, e0, _, w0⟩ := DataW.trod_int Try.underlying3 g0
    obtain ⟨a1, e1, _, w1⟩ := DataW.trod_int Try.underlying3 g1
    obtain ⟨a2, e2, _, w2⟩ := DataW.trod_int Try.underlying3 g2
    obtain ⟨b3, e3, _⟩ := DataW.trod_bool Try.underlying4 g3
    simp at e0 e1 e2 e3
    subst e0 e1 e2 e3
    have hx1 := congrArg Prod.fst hx
    simp only at hx1
    rw [hx1] at hw
    simp only [DataW.weights, Try.underlying31] at hw
    have hw4 : ∀ m ∈ y4.1.weights Try.prog 29, m ≤ reachBytes := fun m hm => hw m (DataW.weights_mem_each (j := 4) (t := 29) (d := y4.1) rfl rfl m hm)
    obtain ⟨ys, n2, _, hy, _, hlen2, hfs2⟩ := DataW.trod_struct Try.underlying29 g4
    match ys, hlen2 with
    | [z0, z1], _ =>
      have k0 := hfs2 0 _ rfl
      have k1 := hfs2 1 _ rfl
      simp [Try.cellsInt, Try.cellsInts] at k0 k1
      obtain ⟨a4, e4, _, w4⟩ := DataW.trod_int Try.underlying3 k0
      simp at e4
      subst e4
      have hy1 := congrArg Prod.fst hy
      simp only at hy1
      rw [hy1] at hw4
      simp only [DataW.weights, Try.underlying29] at hw4
      have hw5 : ∀ m ∈ z1.1.weights Try.prog 27, m ≤ reachBytes := fun m hm => hw4 m (DataW.weights_mem_each (j := 1) (t := 27) (d := z1.1) rfl rfl m hm)
      obtain ⟨ao, cp, l, rfl, hI⟩ := ints_reach k1 hw5
      have b1 := bounds_i64 w1
      exact ⟨⟨⟨a0, a1, a2, b3, a4, l⟩, ao, cp⟩, rfl, ⟨⟨b1.1, by show a1 < 9223372036854775808; omega⟩, hI⟩⟩
set_option maxRecDepth 100000 in
theorem open_ops {H : Type} {enc : TypeId × Value → H} {W : World} {base : Nat} {v : Value} {d : DataW H} {ps : List MemPlace} (hok : Value.okWide Try.prog W .any base 22 v) (h : DataW.Trod enc Try.prog W 0 (fun _ => true) true 22 v d ps)
    (hw : ∀ m ∈ d.weights Try.prog 22, m ≤ reachBytes) : ∃ (B : Nat) (ao : Option Addr) (cp : Nat) (q : List Oq), v = .slice ao q.length cp ∧ Oqs W.heap.size W B ao q := by
  obtain ⟨fuel, hf⟩ := h
  have hv : v.cells.toList = [v] := by
    rcases okWide_slice Try.underlying22 hok with ⟨a, b, c, rfl⟩
    rfl
  rw [hv] at hf
  rcases slice_reach (k := 64) Try.underlying22 hf hw (by rw [Try.bytesOp]; decide) with rfl | ⟨a, len, cap, m, D, Pl, rfl, hl, hm, hc, hit, hwe⟩
  · exact ⟨0, none, 0, [], rfl, ⟨fun h => absurd h (by simp), (fun z hz => by cases hz), fun h => absurd h (by simp), by simp⟩⟩
  · by_cases hl0 : len = 0
    · subst hl0
      exact ⟨0, some a, cap, [], rfl, ⟨fun h => absurd h (by simp), (fun z hz => by cases hz), fun h => absurd h (by simp), by simp⟩⟩
    have ha : a = ⟨a.block, a.off, none⟩ := by
      obtain ⟨cs', h1, h2⟩ := hit 0 (by omega)
      rw [Try.cellsOp] at h1
      obtain ⟨_, hlen, hcell⟩ := World.cells?_some h1
      have c0 := hcell 0 (by omega)
      rw [add_add, Nat.zero_mul, add_nought] at c0
      match cs', hlen with
      | v0 :: _, _ => exact cell_spot (v := v0) (by simpa using c0)
    have inh : Inhabited Oq := ⟨⟨⟨0, 0, 0, false, 0, []⟩, none, 0⟩⟩
    have one : ∀ i, i < len → ∃ z : Oq, (∀ t v, z.cells[t]? = some v → W.cell? ⟨a.block, a.off + i * 6 + t, none⟩ = some v) ∧ z.ok W.heap.size W := fun i hi => by
      obtain ⟨cs', h1, h2⟩ := hit i (by omega)
      rw [Try.cellsOp] at h1
      obtain ⟨_, hlen, hcell⟩ := World.cells?_some h1
      match cs', hlen with
      | [v0, v1, v2, v3, v4, v5], _ =>
        obtain ⟨z, he, hz⟩ := op_of_trod h2 (hwe i hi)
        refine ⟨z, fun t u hu => ?_, hz⟩
        have hu' : [v0, v1, v2, v3, v4, v5][t]? = some u := by rw [he]; exact hu
        have ht : t < 6 := (List.getElem?_eq_some_iff.1 hu').1
        have ct := hcell t (by omega)
        rw [add_add, ha, add_at] at ct
        rw [show a.off + i * 6 + t = a.off + (i * 6 + t) by omega, ← hu']
        simpa using ct
    obtain ⟨q, hq⟩ := choose_lt (n := len) one
    have hlen : ((List.range len).map q).length = len := by simp
    refine ⟨a.block, some a, cap, (List.range len).map q, by rw [hlen], ⟨fun h0 => ⟨a.off, by rw [← ha], fun j hj t v hv => ?_⟩, fun z hz => ?_, fun h0 => ?_, by rw [hlen]; omega⟩⟩
    · rw [hlen] at hj
      exact (hq j hj).1 t v (by simpa using hv)
    · obtain ⟨j, hj, rfl⟩ := List.mem_map.1 hz
      exact (hq j (List.mem_range.1 hj)).2
    · have c0 := (hq 0 (by omega)).1 0 _ rfl
      have := World.block_lt_of_cell? W ⟨a.block, a.off + 0 * 6 + 0, none⟩ c0
      exact ⟨this, this⟩
end Go.Proofs.Ytmcghpeamnmbpaa
