/- Lists of acts that came in, opened. -/
import Derived.Test.YtachbonlakbjmaaDDoesP
import Derived.Test.YtachbonlakbjmaaDOpen
import Derived.SizedLaws
import Derived.Deep.Strs
import Derived.Deep.Draws
import Derived.Deep.Grids
namespace Go.Proofs.Ytachbonlakbjmaa
open Go.ChangeShapes Go.WideShapes Go.ChangeAt Go.RowKit Go.Deep

/-- An act as plain data, and where its list of fates lies. -/
structure Ac where
  wh : Int
  at_ : Int
  many : Int
  fill : Int
  odd : Bool
  how : List Int
  B : Nat
  ao : Option Addr
  cp : Nat
def Ac.cells (z : Ac) : List Value := [.int .u8 z.wh, .int .i64 z.at_, .int .i64 z.many, .int .i64 z.fill, .bool z.odd, .slice z.ao z.how.length z.cp]
structure Ac.ok (w : World) (z : Ac) : Prop where
  wh : 0 ≤ z.wh ∧ z.wh < 256
  at_ : -9223372036854775808 ≤ z.at_ ∧ z.at_ < 9223372036854775808
  how : Ints w z.B z.ao z.how
  nil : z.ao = none → z.cp = 0
  len : z.how.length ≤ 17592186043904
/-- Acts that a slice leads to, in block B. -/
structure Acs (w : World) (B : Nat) (ao : Option Addr) (q : List Ac) : Prop where
  at_ : 0 < q.length → ∃ o, ao = some ⟨B, o, none⟩ ∧ ∀ j (h : j < q.length) (t : Nat) (v : Value), q[j].cells[t]? = some v → w.cell? ⟨B, o + j * 6 + t, none⟩ = some v
  ok : ∀ z ∈ q, z.ok w
  lt : 0 < q.length → B < w.heap.size
  len : q.length ≤ 17592186043904
theorem Ac.ok.kept {S : Nat → Prop} {w w' : World} {z : Ac} (h : z.ok w) (ho : Only S w w') (hS : 0 < z.how.length → ¬ S z.B) : z.ok w' := ⟨h.wh, h.at_, h.how.kept ho hS, h.nil, h.len⟩
theorem Acs.kept {w w' : World} {B : Nat} {ao : Option Addr} {q : List Ac} (h : Acs w B ao q) (ho : Only (fun k => w.heap.size ≤ k) w w') : Acs w' B ao q := by
  have hf : ∀ k, k < w.heap.size → ¬ w.heap.size ≤ k := fun k hk => by omega
  refine ⟨fun h0 => ?_, fun z hz => (h.ok z hz).kept ho (fun h0 => hf _ ((h.ok z hz).how.lt h0)), fun h0 => Nat.lt_of_lt_of_le (h.lt h0) ho.size, h.len⟩
  obtain ⟨o, e, hc⟩ := h.at_ h0
  exact ⟨o, e, fun j hj t v hv => (ho.cell (p := ⟨B, o + j * 6 + t, none⟩) (h.lt h0) (hf _ (h.lt h0))).trans (hc j hj t v hv)⟩
theorem Try.cellsAct : Try.prog.cellsOf 36 = 6 := by kernel_rfl
theorem Try.cellsU8 : Try.prog.cellsOf 5 = 1 := by kernel_rfl
theorem Try.cellsInts : Try.prog.cellsOf 34 = 1 := by kernel_rfl
theorem Try.bytesInt : Try.prog.bytesOf 3 = 8 := by kernel_rfl
theorem Try.bytesAct : Try.prog.bytesOf 36 = 64 := by kernel_rfl
theorem add_at (b o n : Nat) : (⟨b, o, none⟩ : Addr).add n = ⟨b, o + n, none⟩ := by
  unfold Addr.add
  split
  · rename_i h; rw [h]; rfl
  · rfl
theorem weightsAll_mem {H : Type} {P : Program} {e : TypeId} {d : DataW H} {l : List (DataW H)} {n : Nat} (hd : d ∈ l) (hn : n ∈ d.weights P e) : n ∈ DataW.weightsAll P e l := by
  induction l with
  | nil => cases hd
  | cons x t ih =>
    rw [DataW.weightsAll, List.mem_append]
    rcases List.mem_cons.1 hd with rfl | h
    · exact .inl hn
    · exact .inr (ih h)
set_option maxRecDepth 100000 in
/-- What the walk's opening of a slice gives, with the reach. -/
theorem slice_reach {H : Type} {enc : TypeId × Value → H} {W : World} {t e : TypeId} {c : Value} {x : DataW H × List MemPlace} {n : Nat} (ht : Try.prog.underlying t = some (.slice e)) (h : DataW.trod enc Try.prog W 0 (fun _ => true) true n t [c] = some x) (hw : ∀ m ∈ x.1.weights Try.prog t, m ≤ reachBytes) (hb : 8 ≤ Try.prog.bytesOf e) :
    c = .slice none 0 0 ∨ ∃ (a : Addr) (len cap m : Nat) (D : Nat → DataW H) (Pl : Nat → List MemPlace), c = .slice (some a) len cap ∧ len ≤ cap ∧ cap ≤ maxLen ∧ cap ≤ 17592186043904 ∧
      (∀ i, i < cap → ∃ cs', W.cells? 0 (a.add (i * Try.prog.cellsOf e)) (Try.prog.cellsOf e) = some cs' ∧ DataW.trod enc Try.prog W 0 (fun _ => true) true m e cs' = some (D i, Pl i)) ∧
      (∀ i, i < len → ∀ k ∈ (D i).weights Try.prog e, k ≤ reachBytes) := by
  rcases open_slice ht h with ⟨hcs, hx⟩ | ⟨a', len', cap', m, n', D, Pl, hcs, hb', hl, hm, hmm, hx, hit⟩
  · simp at hcs
    exact .inl hcs
  · simp at hcs hmm
    subst hmm
    have hwr : reachBytes = 140737488351232 := by decide
    rw [hx] at hw
    simp only [DataW.weights, ht] at hw
    have hwb := hw ((((List.range len').map D).length + ((List.range (m - len')).map fun j => D (len' + j)).length) * Try.prog.bytesOf e) (by simp)
    simp only [List.length_map, List.length_range] at hwb
    have h8 : (len' + (m - len')) * 8 ≤ (len' + (m - len')) * Try.prog.bytesOf e := Nat.mul_le_mul_left _ hb
    refine .inr ⟨a', len', m, n', D, Pl, hcs, hl, hm, by omega, hit, fun i hi k hk => ?_⟩
    refine hw k (List.mem_cons_of_mem _ (List.mem_append.2 (.inl (weightsAll_mem (d := D i) (List.mem_map.2 ⟨i, List.mem_range.2 hi, rfl⟩) hk))))
set_option maxRecDepth 100000 in
theorem ints_reach {H : Type} {enc : TypeId × Value → H} {W : World} {c : Value} {x : DataW H × List MemPlace} {n : Nat} (h : DataW.trod enc Try.prog W 0 (fun _ => true) true n 34 [c] = some x) (hw : ∀ m ∈ x.1.weights Try.prog 34, m ≤ reachBytes) :
    ∃ (B : Nat) (ao : Option Addr) (cp : Nat) (l : List Int), c = .slice ao l.length cp ∧ Ints W B ao l ∧ (ao = none → cp = 0) ∧ l.length ≤ 17592186043904 := by
  rcases slice_reach Try.underlying34 h hw (by rw [Try.bytesInt]; decide) with rfl | ⟨a, len, cap, m, D, Pl, rfl, hl, hm, hc, hit, _⟩
  · exact ⟨0, none, 0, [], rfl, ⟨fun h => absurd h (by simp), fun j h => absurd h (by simp), fun h => absurd h (by simp), by simp⟩, fun _ => rfl, by simp⟩
  · have one : ∀ i, i < cap → ∃ z : Int, W.cell? (a.add i) = some (.int .i64 z) ∧ -9223372036854775808 ≤ z ∧ z < 9223372036854775808 := fun i hi => by
      obtain ⟨cs', h1, h2⟩ := hit i hi
      rw [Try.cellsInt] at h1
      obtain ⟨_, hlen, hcell⟩ := World.cells?_some h1
      match cs', hlen with
      | [v0], _ =>
        obtain ⟨z, e0, _, wz⟩ := DataW.trod_int Try.underlying3 h2
        simp at e0
        subst e0
        have c0 := hcell 0 (by omega)
        rw [add_nought, Nat.mul_one] at c0
        have bz := bounds_i64 wz
        exact ⟨z, by simpa using c0, by omega, by omega⟩
    obtain ⟨q, hq⟩ := choose_lt (n := cap) one
    have hlen : ((List.range len).map q).length = len := by simp
    have hg : ∀ j, j < len → ((List.range len).map q).getD j 0 = q j := fun j hj => by simp [List.getD_eq_getElem?_getD, hj]
    refine ⟨a.block, some a, cap, (List.range len).map q, by rw [hlen], ⟨fun h0 => ?_, fun j hj => ?_, fun h0 => ?_, by rw [hlen]; unfold maxLen at hm; omega⟩, (fun h => by cases h), by rw [hlen]; omega⟩
    · rw [hlen] at h0
      have c0 := (hq 0 (by omega)).1
      rw [add_nought] at c0
      have ha := cell_spot c0
      refine ⟨a.off, by rw [← ha], fun j hj => ?_⟩
      rw [hlen] at hj
      have cj := (hq j (by omega)).1
      rw [ha, add_at] at cj
      rw [cj, hg j hj]
    · rw [hlen] at hj
      rw [hg j hj]
      exact (hq j (by omega)).2
    · rw [hlen] at h0
      have c0 := (hq 0 (by omega)).1
      rw [add_nought] at c0
      exact World.block_lt_of_cell? W _ c0
set_option maxRecDepth 100000 in
theorem act_of_trod {H : Type} {enc : TypeId × Value → H} {W : World} {c0 c1 c2 c3 c4 c5 : Value} {x : DataW H × List MemPlace} {n : Nat} (h : DataW.trod enc Try.prog W 0 (fun _ => true) true n 36 [c0, c1, c2, c3, c4, c5] = some x)
    (hw : ∀ m ∈ x.1.weights Try.prog 36, m ≤ reachBytes) : ∃ z : Ac, [c0, c1, c2, c3, c4, c5] = z.cells ∧ z.ok W := by
  obtain ⟨xs, n', _, hx, _, hlen, hfs⟩ := DataW.trod_struct Try.underlying36 h
  match xs, hlen with
  | [y0, y1, y2, y3, y4, y5], _ =>
    have g0 := hfs 0 _ rfl
    have g1 := hfs 1 _ rfl
    have g2 := hfs 2 _ rfl
    have g3 := hfs 3 _ rfl
    have g4 := hfs 4 _ rfl
    have g5 := hfs 5 _ rfl
    simp [Try.cellsInt, Try.cellsU8, Try.cellsBool, Try.cellsInts] at g0 g1 g2 g3 g4 g5
    obtain ⟨a0, e0, _, w0⟩ := DataW.trod_int Try.underlying5 g0
    obtain ⟨a1, e1, _, w1⟩ := DataW.trod_int Try.underlying3 g1
    obtain ⟨a2, e2, _, w2⟩ := DataW.trod_int Try.underlying3 g2
    obtain ⟨a3, e3, _, w3⟩ := DataW.trod_int Try.underlying3 g3
    obtain ⟨b4, e4, _⟩ := DataW.trod_bool Try.underlying4 g4
    simp at e0 e1 e2 e3 e4
    subst e0 e1 e2 e3 e4
    have hx1 := congrArg Prod.fst hx
    simp only at hx1
    rw [hx1] at hw
    simp only [DataW.weights, Try.underlying36] at hw
    have hw5 : ∀ m ∈ y5.1.weights Try.prog 34, m ≤ reachBytes := fun m hm => hw m (DataW.weights_mem_each (j := 5) (t := 34) (d := y5.1) rfl rfl m hm)
    obtain ⟨B, ao, cp, l, rfl, hI, hn, hl⟩ := ints_reach g5 hw5
    have b0 := bounds_u8 w0
    have b1 := bounds_i64 w1
    exact ⟨⟨a0, a1, a2, a3, b4, l, B, ao, cp⟩, rfl, ⟨⟨b0.1, by show a0 < 256; omega⟩, ⟨b1.1, by show a1 < 9223372036854775808; omega⟩, hI, hn, hl⟩⟩
set_option maxRecDepth 100000 in
theorem open_acts {H : Type} {enc : TypeId × Value → H} {W : World} {base : Nat} {v : Value} {d : DataW H} {ps : List MemPlace} (hok : Value.okWide Try.prog W .any base 24 v) (h : DataW.Trod enc Try.prog W 0 (fun _ => true) true 24 v d ps)
    (hw : ∀ m ∈ d.weights Try.prog 24, m ≤ reachBytes) : ∃ (B : Nat) (ao : Option Addr) (cp : Nat) (q : List Ac), v = .slice ao q.length cp ∧ Acs W B ao q := by
  obtain ⟨fuel, hf⟩ := h
  have hv : v.cells.toList = [v] := by
    rcases okWide_slice Try.underlying24 hok with ⟨a, b, c, rfl⟩
    rfl
  rw [hv] at hf
  rcases slice_reach Try.underlying24 hf hw (by rw [Try.bytesAct]; decide) with rfl | ⟨a, len, cap, m, D, Pl, rfl, hl, hm, hc, hit, hwe⟩
  · exact ⟨0, none, 0, [], rfl, ⟨fun h => absurd h (by simp), (fun z hz => by cases hz), fun h => absurd h (by simp), by simp⟩⟩
  · by_cases hl0 : len = 0
    · subst hl0
      exact ⟨0, some a, cap, [], rfl, ⟨fun h => absurd h (by simp), (fun z hz => by cases hz), fun h => absurd h (by simp), by simp⟩⟩
    have ha : a = ⟨a.block, a.off, none⟩ := by
      obtain ⟨cs', h1, h2⟩ := hit 0 (by omega)
      rw [Try.cellsAct] at h1
      obtain ⟨_, hlen, hcell⟩ := World.cells?_some h1
      have c0 := hcell 0 (by omega)
      rw [add_add, Nat.zero_mul, add_nought] at c0
      match cs', hlen with
      | v0 :: _, _ => exact cell_spot (v := v0) (by simpa using c0)
    have inh : Inhabited Ac := ⟨⟨0, 0, 0, 0, false, [], 0, none, 0⟩⟩
    have one : ∀ i, i < len → ∃ z : Ac, (∀ t v, z.cells[t]? = some v → W.cell? ⟨a.block, a.off + i * 6 + t, none⟩ = some v) ∧ z.ok W := fun i hi => by
      obtain ⟨cs', h1, h2⟩ := hit i (by omega)
      rw [Try.cellsAct] at h1
      obtain ⟨_, hlen, hcell⟩ := World.cells?_some h1
      match cs', hlen with
      | [v0, v1, v2, v3, v4, v5], _ =>
        obtain ⟨z, he, hz⟩ := act_of_trod h2 (hwe i hi)
        refine ⟨z, fun t u hu => ?_, hz⟩
        have hu' : [v0, v1, v2, v3, v4, v5][t]? = some u := by rw [he]; exact hu
        have ht : t < 6 := (List.getElem?_eq_some_iff.1 hu').1
        have ct := hcell t (by omega)
        rw [add_add, ha, add_at] at ct
        rw [show a.off + i * 6 + t = a.off + (i * 6 + t) by omega, ← hu']
        simpa using ct
    obtain ⟨q, hq⟩ := choose_lt (n := len) one
    have hlen : ((List.range len).map q).length = len := by simp
    refine ⟨a.block, some a, cap, (List.range len).map q, by rw [hlen], ⟨fun h0 => ⟨a.off, by rw [← ha], fun j hj t v hv => ?_⟩, fun z hz => ?_, fun h0 => ?_, by rw [hlen]; omega⟩⟩
    · rw [hlen] at hj
      exact (hq j hj).1 t v (by simpa using hv)
    · obtain ⟨j, hj, rfl⟩ := List.mem_map.1 hz
      exact (hq j (List.mem_range.1 hj)).2
    · have c0 := (hq 0 (by omega)).1 0 _ rfl
      exact World.block_lt_of_cell? W ⟨a.block, a.off + 0 * 6 + 0, none⟩ c0
end Go.Proofs.Ytachbonlakbjmaa
