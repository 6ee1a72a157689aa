/- Parts. -/
import Derived.Test.YtajjakljheafjaaGreatK45
set_option maxRecDepth 100000
namespace Go.Proofs.YtajjakljheafjaaGreat
open Go.ChangeShapes Go.WideShapes Go.ChangeAt Go.RowKit Go.Deep
/-- Shows that a slice at ao leads to, in block B. -/
structure Shs (w : World) (B : Nat) (ao : Option Addr) (l : List Sh) : Prop where
  at_ : 0 < l.length → ∃ o, ao = some ⟨B, o, none⟩ ∧ ∀ j (h : j < l.length), w.rangeAt B (o + j * 22) l[j].cl
  lt : 0 < l.length → B < w.heap.size
  each : ∀ z ∈ l, ShO w z
  len : l.length ≤ 17592186043904
theorem Shs.nil (w : World) (B : Nat) (ao : Option Addr) : Shs w B ao [] := ⟨fun h => absurd h (by simp), fun h => absurd h (by simp), (fun _ h => by cases h), by simp⟩
theorem Shs.kept {w w' : World} {B : Nat} {ao : Option Addr} {l : List Sh} {S : Nat → Prop} (h : Shs w B ao l) (ho : Only S w w') (hS : ∀ b, S b → w.heap.size ≤ b) : Shs w' B ao l :=
  ⟨fun h0 => by
    obtain ⟨o, e, hc⟩ := h.at_ h0
    have hl := h.lt h0
    exact ⟨o, e, fun j hj i v hv => (ho.cell (p := ⟨B, o + j * 22 + i, none⟩) hl (fun e => by have q : w.heap.size ≤ B := hS _ e; omega)).trans (hc j hj i v hv)⟩,
   fun h0 => Nat.lt_of_lt_of_le (h.lt h0) ho.size, fun z hz => (h.each z hz).kept ho hS, h.len⟩
set_option maxRecDepth 100000 in
theorem shows_of_trod {H : Type} {enc : TypeId × Value → H} {W : World} {c : Value} {x : DataW H × List MemPlace} {n : Nat} (h : DataW.trod enc Tryz.prog W 0 (fun _ => true) true n 25 [c] = some x) (hw : ∀ m ∈ x.1.weights Tryz.prog 25, m ≤ reachBytes) :
    ∃ (B : Nat) (ao : Option Addr) (cp : Nat) (l : List Sh), c = .slice ao l.length cp ∧ Shs W B ao l := by
  have hb16 : 8 ≤ Tryz.prog.bytesOf 44 := of_decide_eq_true (by kernel_rfl)
  rcases slice_reach Tryz.underlying25 h hw hb16 with rfl | ⟨a, len, cap, m, D, Pl, rfl, hl, hm, hc, hit, hwe⟩
  · exact ⟨0, none, 0, [], rfl, Shs.nil _ _ _⟩
  · by_cases hl0 : len = 0
    · subst hl0
      exact ⟨0, some a, cap, [], rfl, Shs.nil _ _ _⟩
    have ha : a = ⟨a.block, a.off, none⟩ := by
      obtain ⟨cs', h1, h2⟩ := hit 0 (by omega)
      rw [Tryz.cellsShow] at h1
      obtain ⟨_, hlen, hcell⟩ := World.cells?_some h1
      have c0 := hcell 0 (by omega)
      rw [add_add, Nat.zero_mul, add0] at c0
      match cs', hlen with
      | v0 :: _, _ => exact cell_spot (v := v0) (by simpa using c0)
    have inh : Inhabited Sh := ⟨⟨0, .none, 0, none, 0, ⟨0, 0, [], 0, [], .none⟩, ⟨0, none, 0, 0, none, 0, 0, none, 0⟩, [], 0, none, 0, false, 0, 0⟩⟩
    have one : ∀ i, i < len → ∃ z : Sh, W.rangeAt a.block (a.off + i * 22) z.cl ∧ ShO W z := fun i hi => by
      obtain ⟨cs', h1, h2⟩ := hit i (by omega)
      rw [Tryz.cellsShow] at h1
      obtain ⟨_, hlen, hcell⟩ := World.cells?_some h1
      match cs', hlen with
      | [v0, v1, v2, v3, v4, v5, v6, v7, v8, v9, v10, v11, v12, v13, v14, v15, v16, v17, v18, v19, v20, v21], _ =>
        obtain ⟨r, he, hat⟩ := show_of_trod h2 (hwe i hi)
        refine ⟨r, fun j u hu => ?_, hat⟩
        have hu' : [v0, v1, v2, v3, v4, v5, v6, v7, v8, v9, v10, v11, v12, v13, v14, v15, v16, v17, v18, v19, v20, v21][j]? = some u := by rw [he]; exact hu
        have hj : j < 22 := (List.getElem?_eq_some_iff.1 hu').1
        have cj := hcell j (by omega)
        rw [add_add, ha, add_at] at cj
        have e1 : a.off + i * 22 + j = a.off + (i * 22 + j) := by omega
        rw [e1]
        rw [← hu']
        simpa using cj
    obtain ⟨q, hq⟩ := choose_lt (n := len) one
    have hlen : ((List.range len).map q).length = len := by simp
    refine ⟨a.block, some a, cap, (List.range len).map q, by rw [hlen], ⟨fun h0 => ⟨a.off, by rw [← ha], fun j hj => ?_⟩, fun h0 => ?_, fun z hz => ?_, ?_⟩⟩
    · rw [hlen] at hj
      simpa using (hq j hj).1
    · have c0 := (hq 0 (by omega)).1 0 (.int .i64 (q 0).ask) rfl
      exact World.block_lt_of_cell? W ⟨a.block, a.off + 0 * 22 + 0, none⟩ c0
    · obtain ⟨j, hj, rfl⟩ := List.mem_map.1 hz
      exact (hq j (List.mem_range.1 hj)).2
    · rw [hlen]
      omega
set_option maxRecDepth 100000 in
theorem open_shows {H : Type} {enc : TypeId × Value → H} {W : World} {base : Nat} {v : Value} {d : DataW H} {ps : List MemPlace} (hok : Value.okWide Tryz.prog W .any base 25 v) (h : DataW.Trod enc Tryz.prog W 0 (fun _ => true) true 25 v d ps)
    (hw : ∀ m ∈ d.weights Tryz.prog 25, m ≤ reachBytes) : ∃ (B : Nat) (ao : Option Addr) (cp : Nat) (l : List Sh), v = .slice ao l.length cp ∧ Shs W B ao l := by
  obtain ⟨fuel, hf⟩ := h
  have hv : v.cells.toList = [v] := by
    rcases okWide_slice Tryz.underlying25 hok with ⟨a, b, c, rfl⟩
    rfl
  rw [hv] at hf
  exact shows_of_trod hf hw
theorem Tryz.cellsAsk : Tryz.prog.cellsOf 24 = 5 := by kernel_rfl
theorem Tryz.cellsCall : Tryz.prog.cellsOf 22 = 1 := by kernel_rfl
set_option maxRecDepth 100000 in
theorem open_ask {H : Type} {enc : TypeId × Value → H} {W : World} {base : Nat} {v : Value} {d : DataW H} {ps : List MemPlace} (hok : Value.okWide Tryz.prog W .any base 24 v) (h : DataW.Trod enc Tryz.prog W 0 (fun _ => true) true 24 v d ps)
    (_hw : ∀ m ∈ d.weights Tryz.prog 24, m ≤ reachBytes) : ∃ a : Aq, v = .agg a.ar ∧ I64 a.n ∧ (0 ≤ a.c ∧ a.c ≤ 255) := by
  obtain ⟨cs, rfl, hs⟩ := okWide_struct Tryz.underlying24 hok
  obtain ⟨fuel, hf⟩ := h
  rw [Tryz.cellsAsk] at hs
  obtain ⟨xs, n, _, hx, _, hlen, hfs⟩ := DataW.trod_struct Tryz.underlying24 hf
  obtain ⟨c0, c1, c2, c3, c4, rfl⟩ : ∃ c0 c1 c2 c3 c4, cs = #[c0, c1, c2, c3, c4] := by
    obtain ⟨l⟩ := cs
    match l, hs with
    | [c0, c1, c2, c3, c4], _ => exact ⟨c0, c1, c2, c3, c4, rfl⟩
  match xs, hlen with
  | [y0, y1, y2, y3, y4], _ =>
    have g0 := hfs 0 _ rfl
    have g1 := hfs 1 _ rfl
    have g2 := hfs 2 _ rfl
    have g3 := hfs 3 _ rfl
    have g4 := hfs 4 _ rfl
    simp [Value.cells, Tryz.cellsInt, Tryz.cellsStr, Tryz.cellsCall] at g0 g1 g2 g3 g4
    obtain ⟨a, e0, _, w0⟩ := DataW.trod_int Tryz.underlying22 g0
    obtain ⟨k, e1, _, _⟩ := DataW.trod_string Tryz.underlying9 g1
    obtain ⟨t, e2, _, _⟩ := DataW.trod_string Tryz.underlying9 g2
    obtain ⟨u, e3, _, _⟩ := DataW.trod_string Tryz.underlying9 g3
    obtain ⟨b, e4, _, w4⟩ := DataW.trod_int Tryz.underlying3 g4
    simp at e0 e1 e2 e3 e4
    subst e0 e1 e2 e3 e4
    have b0 := bounds_u8 w0
    have b4 := bounds_i64 w4
    exact ⟨⟨a, k, t, u, b⟩, rfl, ⟨b4.1, by show b < _; omega⟩, by show 0 ≤ a; omega, by show a ≤ 255; omega⟩
end Go.Proofs.YtajjakljheafjaaGreat
