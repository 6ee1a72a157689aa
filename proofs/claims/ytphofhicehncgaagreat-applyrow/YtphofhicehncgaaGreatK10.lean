/- What the small functions of package tuple, and the document's, do. -/
import Derived.Test.YtphofhicehncgaaGreatK05
import Derived.Test.YtphofhicehncgaaGreatK09
import Derived.Deep.Draws
import Derived.Deep.Grids
import Derived.Test.YtphofhicehncgaaGreatK07
import Derived.Test.YtphofhicehncgaaGreatK02
import Derived.Test.YtphofhicehncgaaGreatK03
import Derived.Test.YtphofhicehncgaaGreatK06
namespace Go.Proofs.YtphofhicehncgaaGreat
open Go.ChangeShapes Go.WideShapes Go.ChangeAt Go.RowKit Go.Deep

theorem Tryz.cellsRec : Tryz.prog.cellsOf 34 = 16 := by kernel_rfl
theorem Tryz.cellsImage : Tryz.prog.cellsOf 40 = 7 := by kernel_rfl
theorem Tryz.cellsOwed : Tryz.prog.cellsOf 186 = 2 := by kernel_rfl
theorem Tryz.cellsBegun : Tryz.prog.cellsOf 188 = 2 := by kernel_rfl
theorem Tryz.cellsKind : Tryz.prog.cellsOf 28 = 1 := by kernel_rfl
theorem Tryz.cellsInts : Tryz.prog.cellsOf 29 = 1 := by kernel_rfl
theorem Tryz.cellsImages : Tryz.prog.cellsOf 30 = 1 := by kernel_rfl
theorem Tryz.cellsOweds : Tryz.prog.cellsOf 31 = 1 := by kernel_rfl
theorem Tryz.cellsBeguns : Tryz.prog.cellsOf 32 = 1 := by kernel_rfl
theorem Tryz.bytesInt : Tryz.prog.bytesOf 3 = 8 := by kernel_rfl
theorem Tryz.bytesImage : Tryz.prog.bytesOf 40 = 80 := by kernel_rfl
theorem Tryz.bytesOwed : Tryz.prog.bytesOf 186 = 16 := by kernel_rfl
theorem Tryz.bytesBegun : Tryz.prog.bytesOf 188 = 16 := by kernel_rfl
theorem add0 (a : Addr) : a.add 0 = a := by unfold Addr.add; simp
set_option maxRecDepth 100000 in
/-- What the walk's opening of a slice gives, with the reach. -/
theorem slice_reach {H : Type} {enc : TypeId × Value → H} {W : World} {t e : TypeId} {c : Value} {x : DataW H × List MemPlace} {n : Nat} (ht : Tryz.prog.underlying t = some (.slice e)) (h : DataW.trod enc Tryz.prog W 0 (fun _ => true) true n t [c] = some x) (hw : ∀ m ∈ x.1.weights Tryz.prog t, m ≤ reachBytes) (hb : 8 ≤ Tryz.prog.bytesOf e) :
    c = .slice none 0 0 ∨ ∃ (a : Addr) (len cap m : Nat) (D : Nat → DataW H) (Pl : Nat → List MemPlace), c = .slice (some a) len cap ∧ len ≤ cap ∧ cap ≤ maxLen ∧ cap ≤ 17592186043904 ∧
      (∀ i, i < cap → ∃ cs', W.cells? 0 (a.add (i * Tryz.prog.cellsOf e)) (Tryz.prog.cellsOf e) = some cs' ∧ DataW.trod enc Tryz.prog W 0 (fun _ => true) true m e cs' = some (D i, Pl i)) ∧
      (∀ i, i < len → ∀ k ∈ (D i).weights Tryz.prog e, k ≤ reachBytes) := by
  rcases open_slice ht h with ⟨hcs, hx⟩ | ⟨a', len', cap', m, n', D, Pl, hcs, hb', hl, hm, hmm, hx, hit⟩
  · simp at hcs
    exact .inl hcs
  · simp at hcs hmm
    subst hmm
    have hwr : reachBytes = 140737488351232 := by decide
    rw [hx] at hw
    simp only [DataW.weights, ht] at hw
    have hwb := hw ((((List.range len').map D).length + ((List.range (m - len')).map fun j => D (len' + j)).length) * Tryz.prog.bytesOf e) (by simp)
    simp only [List.length_map, List.length_range] at hwb
    have h8 : (len' + (m - len')) * 8 ≤ (len' + (m - len')) * Tryz.prog.bytesOf e := Nat.mul_le_mul_left _ hb
    refine .inr ⟨a', len', m, n', D, Pl, hcs, hl, hm, by omega, hit, fun i hi k hk => ?_⟩
    refine hw k (List.mem_cons_of_mem _ (List.mem_append.2 (.inl (weightsAll_mem (d := D i) (List.mem_map.2 ⟨i, List.mem_range.2 hi, rfl⟩) hk))))
set_option maxRecDepth 100000 in
theorem zs_of_trod {H : Type} {enc : TypeId × Value → H} {W : World} {c : Value} {x : DataW H × List MemPlace} {n : Nat} (h : DataW.trod enc Tryz.prog W 0 (fun _ => true) true n 29 [c] = some x) (hw : ∀ m ∈ x.1.weights Tryz.prog 29, m ≤ reachBytes) :
    ∃ (B : Nat) (ao : Option Addr) (cp : Nat) (l : List Int), c = .slice ao l.length cp ∧ Zs W B ao l ∧ Fit ao l.length cp := by
  rcases slice_reach Tryz.underlying29 h hw (by rw [Tryz.bytesInt]; decide) with rfl | ⟨a, len, cap, m, D, Pl, rfl, hl, hm, hc, hit, _⟩
  · exact ⟨0, none, 0, [], rfl, Zs.nil _ _ _, ⟨fun _ => rfl, by simp, by simp⟩⟩
  · have one : ∀ i, i < cap → ∃ z : Int, W.cell? (a.add i) = some (.int .i64 z) := fun i hi => by
      obtain ⟨cs', h1, h2⟩ := hit i hi
      rw [Tryz.cellsInt] at h1
      obtain ⟨_, hlen, hcell⟩ := World.cells?_some h1
      match cs', hlen with
      | [v0], _ =>
        obtain ⟨z, e0, _, _⟩ := DataW.trod_int Tryz.underlying3 h2
        simp at e0
        subst e0
        have c0 := hcell 0 (by omega)
        rw [add0, Nat.mul_one] at c0
        exact ⟨z, by simpa using c0⟩
    obtain ⟨q, hq⟩ := choose_lt (n := cap) one
    have hlen : ((List.range len).map q).length = len := by simp
    refine ⟨a.block, some a, cap, (List.range len).map q, by rw [hlen], ⟨fun h0 => ?_, fun h0 => ?_, by rw [hlen]; omega⟩, ⟨(fun h => by cases h), (by rw [hlen]; exact hl), hm⟩⟩
    · rw [hlen] at h0
      have c0 := hq 0 (by omega)
      rw [add0] at c0
      have ha := cell_spot c0
      refine ⟨a.off, by rw [← ha], fun j hj => ?_⟩
      rw [hlen] at hj
      have cj := hq j (by omega)
      rw [ha, add_at] at cj
      rw [cj]
      simp
    · rw [hlen] at h0
      have c0 := hq 0 (by omega)
      rw [add0] at c0
      exact World.block_lt_of_cell? W _ c0
set_option maxRecDepth 100000 in
theorem prs_of_trod {H : Type} {enc : TypeId × Value → H} {W : World} {t e : TypeId} {c : Value} {x : DataW H × List MemPlace} {n : Nat} (ht : Tryz.prog.underlying t = some (.slice e)) (hce : Tryz.prog.cellsOf e = 2) (hbe : Tryz.prog.bytesOf e = 16)
    (two : ∀ (m : Nat) (v0 v1 : Value) (y : DataW H × List MemPlace), DataW.trod enc Tryz.prog W 0 (fun _ => true) true m e [v0, v1] = some y → ∃ a b : Int, v0 = .int .i64 a ∧ v1 = .int .i64 b)
    (h : DataW.trod enc Tryz.prog W 0 (fun _ => true) true n t [c] = some x) (hw : ∀ m ∈ x.1.weights Tryz.prog t, m ≤ reachBytes) :
    ∃ (B : Nat) (ao : Option Addr) (cp : Nat) (l : List (Int × Int)), c = .slice ao l.length cp ∧ Prs W B ao l := by
  rcases slice_reach ht h hw (by rw [hbe]; decide) with rfl | ⟨a, len, cap, m, D, Pl, rfl, hl, hm, hc, hit, _⟩
  · exact ⟨0, none, 0, [], rfl, Prs.nil _ _ _⟩
  · have one : ∀ i, i < cap → ∃ z : Int × Int, W.cell? (a.add (i * 2)) = some (.int .i64 z.1) ∧ W.cell? (a.add (i * 2 + 1)) = some (.int .i64 z.2) := fun i hi => by
      obtain ⟨cs', h1, h2⟩ := hit i hi
      rw [hce] at h1
      obtain ⟨_, hlen, hcell⟩ := World.cells?_some h1
      match cs', hlen with
      | [v0, v1], _ =>
        obtain ⟨p, q, e0, e1⟩ := two _ _ _ _ h2
        subst e0; subst e1
        have c0 := hcell 0 (by omega)
        have c1 := hcell 1 (by omega)
        rw [add_add] at c0 c1
        exact ⟨(p, q), by simpa using c0, by simpa using c1⟩
    obtain ⟨q, hq⟩ := choose_lt (n := cap) one
    have hlen : ((List.range len).map q).length = len := by simp
    refine ⟨a.block, some a, cap, (List.range len).map q, by rw [hlen], ⟨fun h0 => ?_, fun h0 => ?_, by rw [hlen]; omega⟩⟩
    · rw [hlen] at h0
      have c0 := (hq 0 (by omega)).1
      rw [Nat.zero_mul, add0] at c0
      have ha := cell_spot c0
      refine ⟨a.off, by rw [← ha], fun j hj => ?_⟩
      rw [hlen] at hj
      have cj := hq j (by omega)
      rw [ha, add_at, add_at] at cj
      simpa [Nat.add_assoc] using cj
    · rw [hlen] at h0
      have c0 := (hq 0 (by omega)).1
      rw [Nat.zero_mul, add0] at c0
      exact World.block_lt_of_cell? W _ c0
set_option maxRecDepth 100000 in
theorem two_owed {H : Type} {enc : TypeId × Value → H} {W : World} (m : Nat) (v0 v1 : Value) (y : DataW H × List MemPlace) (h : DataW.trod enc Tryz.prog W 0 (fun _ => true) true m 186 [v0, v1] = some y) : ∃ a b : Int, v0 = .int .i64 a ∧ v1 = .int .i64 b := by
  obtain ⟨xs, n, _, hx, _, hlen, hfs⟩ := DataW.trod_struct Tryz.underlying186 h
  match xs, hlen with
  | [y0, y1], _ =>
    have g0 := hfs 0 _ rfl
    have g1 := hfs 1 _ rfl
    simp [Tryz.cellsInt] at g0 g1
    obtain ⟨a, e0, _, _⟩ := DataW.trod_int Tryz.underlying3 g0
    obtain ⟨b, e1, _, _⟩ := DataW.trod_int Tryz.underlying3 g1
    simp at e0 e1
    exact ⟨a, b, e0, e1⟩
set_option maxRecDepth 100000 in
theorem two_begun {H : Type} {enc : TypeId × Value → H} {W : World} (m : Nat) (v0 v1 : Value) (y : DataW H × List MemPlace) (h : DataW.trod enc Tryz.prog W 0 (fun _ => true) true m 188 [v0, v1] = some y) : ∃ a b : Int, v0 = .int .i64 a ∧ v1 = .int .i64 b := by
  obtain ⟨xs, n, _, hx, _, hlen, hfs⟩ := DataW.trod_struct Tryz.underlying188 h
  match xs, hlen with
  | [y0, y1], _ =>
    have g0 := hfs 0 _ rfl
    have g1 := hfs 1 _ rfl
    simp [Tryz.cellsInt] at g0 g1
    obtain ⟨a, e0, _, _⟩ := DataW.trod_int Tryz.underlying3 g0
    obtain ⟨b, e1, _, _⟩ := DataW.trod_int Tryz.underlying3 g1
    simp at e0 e1
    exact ⟨a, b, e0, e1⟩
set_option maxRecDepth 100000 in
/-- A page's cells that came in. -/
theorem page_of_trod {H : Type} {enc : TypeId × Value → H} {W : World} {c0 c1 c2 c3 c4 c5 : Value} {x : DataW H × List MemPlace} {n : Nat} (h : DataW.trod enc Tryz.prog W 0 (fun _ => true) true n 25 [c0, c1, c2, c3, c4, c5] = some x) (hw : ∀ m ∈ x.1.weights Tryz.prog 25, m ≤ reachBytes) :
    ∃ (p : Pg) (B : Nat) (ao : Option Addr) (cp : Nat), c0 = .int .i64 p.lsn ∧ c1 = .int .i64 p.kind ∧ c2 = .int .i64 p.level ∧ c3 = .int .i64 p.right ∧ c4 = .string p.high ∧ c5 = .slice ao p.items.length cp ∧ Strs W B ao p.items ∧ Fit ao p.items.length cp ∧ p.high.size ≤ 140737488355328 ∧ p.lsn < 9223372036854775808 := by
  obtain ⟨xs, n', _, hx, _, hlen, hfs⟩ := DataW.trod_struct Tryz.underlying25 h
  match xs, hlen with
  | [y0, y1, y2, y3, y4, y5], _ =>
    have g0 := hfs 0 _ rfl
    have g1 := hfs 1 _ rfl
    have g2 := hfs 2 _ rfl
    have g3 := hfs 3 _ rfl
    have g4 := hfs 4 _ rfl
    have g5 := hfs 5 _ rfl
    simp [Tryz.cellsInt, Tryz.cellsStr, Tryz.cellsStrs] at g0 g1 g2 g3 g4 g5
    obtain ⟨a, e0, _, w0⟩ := DataW.trod_int Tryz.underlying3 g0
    obtain ⟨k, e1, _, w1⟩ := DataW.trod_int Tryz.underlying3 g1
    obtain ⟨u, e2, _, w2⟩ := DataW.trod_int Tryz.underlying3 g2
    obtain ⟨r, e3, _, w3⟩ := DataW.trod_int Tryz.underlying3 g3
    obtain ⟨h, e4, f4, _⟩ := DataW.trod_string Tryz.underlying9 g4
    simp at e0 e1 e2 e3 e4
    rw [hx] at hw
    simp only [DataW.weights, Tryz.underlying25] at hw
    have hw4 : ∀ m ∈ y4.1.weights Tryz.prog 9, m ≤ reachBytes := fun m hm => hw m (DataW.weights_mem_each (j := 4) (t := 9) (d := y4.1) rfl rfl m hm)
    have hw5 : ∀ m ∈ y5.1.weights Tryz.prog 23, m ≤ reachBytes := fun m hm => hw m (DataW.weights_mem_each (j := 5) (t := 23) (d := y5.1) rfl rfl m hm)
    obtain ⟨B, ao, cp, l, e5, hS, hF, hL⟩ := strs_of_trod g5 hw5
    have hwr : reachBytes = 140737488351232 := by decide
    have hh : h.size ≤ 140737488355328 := by
      rw [f4] at hw4
      have := hw4 h.data.toList.length (by simp [DataW.weights])
      rw [show h.data.toList.length = h.size from bl_len _] at this
      omega
    have b0 := bounds_i64 w0
    exact ⟨⟨a, k, u, r, h, l⟩, B, ao, cp, e0, e1, e2, e3, e4, e5, hS, hF, hh, by show a < _; omega⟩
set_option maxRecDepth 100000 in
theorem im_of_trod {H : Type} {enc : TypeId × Value → H} {W : World} {c0 c1 c2 c3 c4 c5 c6 : Value} {x : DataW H × List MemPlace} {n : Nat} (h : DataW.trod enc Tryz.prog W 0 (fun _ => true) true n 40 [c0, c1, c2, c3, c4, c5, c6] = some x) (hw : ∀ m ∈ x.1.weights Tryz.prog 40, m ≤ reachBytes) :
    ∃ (i : Im) (B : Nat) (ao : Option Addr) (cp : Nat), c0 = .int .i64 i.page ∧ c1 = .int .i64 i.body.lsn ∧ c2 = .int .i64 i.body.kind ∧ c3 = .int .i64 i.body.level ∧ c4 = .int .i64 i.body.right ∧ c5 = .string i.body.high ∧ c6 = .slice ao i.body.items.length cp ∧ Strs W B ao i.body.items ∧ Fit ao i.body.items.length cp ∧ i.body.high.size ≤ 140737488355328 ∧ i.body.lsn < 9223372036854775808 := by
  obtain ⟨xs, n', _, hx, _, hlen, hfs⟩ := DataW.trod_struct Tryz.underlying40 h
  match xs, hlen with
  | [y0, y1], _ =>
    have g0 := hfs 0 _ rfl
    have g1 := hfs 1 _ rfl
    simp [Tryz.cellsInt, Tryz.cellsPage] at g0 g1
    obtain ⟨a, e0, _, _⟩ := DataW.trod_int Tryz.underlying3 g0
    simp at e0
    rw [hx] at hw
    simp only [DataW.weights, Tryz.underlying40] at hw
    have hw1 : ∀ m ∈ y1.1.weights Tryz.prog 25, m ≤ reachBytes := fun m hm => hw m (DataW.weights_mem_each (j := 1) (t := 25) (d := y1.1) rfl rfl m hm)
    obtain ⟨p, B, ao, cp, k0, k1, k2, k3, k4, k5, hS, hF, hh, hl⟩ := page_of_trod g1 hw1
    exact ⟨⟨a, p⟩, B, ao, cp, e0, k0, k1, k2, k3, k4, k5, hS, hF, hh, hl⟩
set_option maxRecDepth 100000 in
theorem ims_of_trod {H : Type} {enc : TypeId × Value → H} {W : World} {c : Value} {x : DataW H × List MemPlace} {n : Nat} (h : DataW.trod enc Tryz.prog W 0 (fun _ => true) true n 30 [c] = some x) (hw : ∀ m ∈ x.1.weights Tryz.prog 30, m ≤ reachBytes) :
    ∃ (B : Nat) (ao : Option Addr) (cp : Nat) (l : List Im), c = .slice ao l.length cp ∧ Ims W (fun _ => True) B ao l := by
  rcases slice_reach Tryz.underlying30 h hw (by rw [Tryz.bytesImage]; decide) with rfl | ⟨a, len, cap, m, D, Pl, rfl, hl, hm, hc, hit, hwe⟩
  · exact ⟨0, none, 0, [], rfl, Ims.nil _ _ _ _⟩
  · by_cases hl0 : len = 0
    · subst hl0
      exact ⟨0, some a, cap, [], rfl, Ims.nil _ _ _ _⟩
    have ha : a = ⟨a.block, a.off, none⟩ := by
      obtain ⟨cs', h1, h2⟩ := hit 0 (by omega)
      rw [Tryz.cellsImage] at h1
      obtain ⟨_, hlen, hcell⟩ := World.cells?_some h1
      have c0 := hcell 0 (by omega)
      rw [add_add, Nat.zero_mul, add0] at c0
      match cs', hlen with
      | v0 :: _, _ => exact cell_spot (v := v0) (by simpa using c0)
    have inh : Inhabited (Im × Nat × Option Addr × Nat) := ⟨(⟨0, Pg.none⟩, 0, none, 0)⟩
    have one : ∀ i, i < len → ∃ z : Im × Nat × Option Addr × Nat, ∃ b o, a = ⟨b, o, none⟩ ∧ b < W.heap.size ∧ ImAt W b (o + i * 7) z.1 z.2.1 z.2.2.1 z.2.2.2 := fun i hi => by
      obtain ⟨cs', h1, h2⟩ := hit i (by omega)
      rw [Tryz.cellsImage] at h1
      obtain ⟨_, hlen, hcell⟩ := World.cells?_some h1
      match cs', hlen with
      | [v0, v1, v2, v3, v4, v5, v6], _ =>
        obtain ⟨j, B, ao, cp, e0, e1, e2, e3, e4, e5, e6, hS, hF, hh, hls⟩ := im_of_trod h2 (hwe i hi)
        subst e0 e1 e2 e3 e4 e5 e6
        have c0 := hcell 0 (by omega)
        have c1 := hcell 1 (by omega)
        have c2 := hcell 2 (by omega)
        have c3 := hcell 3 (by omega)
        have c4 := hcell 4 (by omega)
        have c5 := hcell 5 (by omega)
        have c6 := hcell 6 (by omega)
        rw [add_add] at c0 c1 c2 c3 c4 c5 c6
        rw [ha, add_at] at c0 c1 c2 c3 c4 c5 c6
        have hb := World.block_lt_of_cell? W _ c0
        refine ⟨(j, B, ao, cp), a.block, a.off, ha, hb, ⟨by simpa using c0, by simpa [Nat.add_assoc] using c1, by simpa [Nat.add_assoc] using c2, by simpa [Nat.add_assoc] using c3, by simpa [Nat.add_assoc] using c4, by simpa [Nat.add_assoc] using c5, by simpa [Nat.add_assoc] using c6, hS, hF, hh, hls⟩⟩
    obtain ⟨q, hq⟩ := choose_lt (n := len) one
    have hlen : ((List.range len).map fun i => (q i).1).length = len := by simp
    refine ⟨a.block, some a, cap, (List.range len).map fun i => (q i).1, by rw [hlen], ⟨fun h0 => ?_, fun h0 => ?_, by rw [hlen]; omega⟩⟩
    · rw [hlen] at h0
      obtain ⟨b, o, ha, hb, _⟩ := hq 0 (by omega)
      subst ha
      refine ⟨o, rfl, fun j hj => ?_⟩
      rw [hlen] at hj
      obtain ⟨b', o', ha', hb', hI⟩ := hq j hj
      injection ha' with e1 e2
      subst e1 e2
      refine ⟨(q j).2.1, (q j).2.2.1, (q j).2.2.2, ?_, fun _ => trivial⟩
      simpa using hI
    · rw [hlen] at h0
      obtain ⟨b, o, ha, hb, _⟩ := hq 0 (by omega)
      subst ha
      exact hb

set_option maxRecDepth 100000 in
theorem open_rec {H : Type} {enc : TypeId × Value → H} {W : World} {base : Nat} {v : Value} {d : DataW H} {ps : List MemPlace} (hok : Value.okWide Tryz.prog W .any base 34 v) (h : DataW.Trod enc Tryz.prog W 0 (fun _ => true) true 34 v d ps)
    (hw : ∀ m ∈ d.weights Tryz.prog 34, m ≤ reachBytes) : ∃ (r : Rc) (L : Loc), v = .agg (r.cells L) ∧ RcAt W r L := by
  obtain ⟨cs, rfl, hs⟩ := okWide_struct Tryz.underlying34 hok
  obtain ⟨fuel, hf⟩ := h
  rw [Tryz.cellsRec] at hs
  obtain ⟨xs, n, _, hx, _, hlen, hfs⟩ := DataW.trod_struct Tryz.underlying34 hf
  obtain ⟨c0, c1, c2, c3, c4, c5, c6, c7, c8, c9, c10, c11, c12, c13, c14, c15, rfl⟩ : ∃ c0 c1 c2 c3 c4 c5 c6 c7 c8 c9 c10 c11 c12 c13 c14 c15, cs = #[c0, c1, c2, c3, c4, c5, c6, c7, c8, c9, c10, c11, c12, c13, c14, c15] := by
    obtain ⟨l⟩ := cs
    match l, hs with
    | [c0, c1, c2, c3, c4, c5, c6, c7, c8, c9, c10, c11, c12, c13, c14, c15], _ => exact ⟨c0, c1, c2, c3, c4, c5, c6, c7, c8, c9, c10, c11, c12, c13, c14, c15, rfl⟩
  match xs, hlen with
  | [y0, y1, y2, y3, y4, y5, y6, y7, y8, y9, y10, y11, y12, y13, y14, y15], _ =>
    simp only [Prod.mk.injEq] at hx
    have g0 := hfs 0 _ rfl
    have g1 := hfs 1 _ rfl
    have g2 := hfs 2 _ rfl
    have g3 := hfs 3 _ rfl
    have g4 := hfs 4 _ rfl
    have g5 := hfs 5 _ rfl
    have g6 := hfs 6 _ rfl
    have g7 := hfs 7 _ rfl
    have g8 := hfs 8 _ rfl
    have g9 := hfs 9 _ rfl
    have g10 := hfs 10 _ rfl
    have g11 := hfs 11 _ rfl
    have g12 := hfs 12 _ rfl
    have g13 := hfs 13 _ rfl
    have g14 := hfs 14 _ rfl
    have g15 := hfs 15 _ rfl
    simp [Value.cells, Tryz.cellsInt, Tryz.cellsStr, Tryz.cellsKind, Tryz.cellsInts, Tryz.cellsImages, Tryz.cellsOweds, Tryz.cellsBeguns] at g0 g1 g2 g3 g4 g5 g6 g7 g8 g9 g10 g11 g12 g13 g14 g15
    obtain ⟨z0, e0, _, _⟩ := DataW.trod_int Tryz.underlying3 g0
    obtain ⟨z1, e1, _, _⟩ := DataW.trod_int Tryz.underlying3 g1
    obtain ⟨z2, e2, _, _⟩ := DataW.trod_int Tryz.underlying3 g2
    obtain ⟨z3, e3, _, w3⟩ := DataW.trod_int Tryz.underlying28 g3
    obtain ⟨z4, e4, _, _⟩ := DataW.trod_int Tryz.underlying3 g4
    obtain ⟨z5, e5, _, _⟩ := DataW.trod_int Tryz.underlying3 g5
    obtain ⟨z6, e6, _, _⟩ := DataW.trod_int Tryz.underlying3 g6
    obtain ⟨z7, e7, _, _⟩ := DataW.trod_int Tryz.underlying3 g7
    obtain ⟨z8, e8, _, _⟩ := DataW.trod_int Tryz.underlying3 g8
    obtain ⟨z9, e9, _, _⟩ := DataW.trod_int Tryz.underlying3 g9
    obtain ⟨s, e10, f10, _⟩ := DataW.trod_string Tryz.underlying9 g10
    simp at e0 e1 e2 e3 e4 e5 e6 e7 e8 e9 e10
    rw [hx.1] at hw
    simp only [DataW.weights, Tryz.underlying34] at hw
    have hw10 : ∀ m ∈ y10.1.weights Tryz.prog 9, m ≤ reachBytes := fun m hm => hw m (DataW.weights_mem_each (j := 10) (t := 9) (d := y10.1) rfl rfl m hm)
    have hw11 : ∀ m ∈ y11.1.weights Tryz.prog 29, m ≤ reachBytes := fun m hm => hw m (DataW.weights_mem_each (j := 11) (t := 29) (d := y11.1) rfl rfl m hm)
    have hw12 : ∀ m ∈ y12.1.weights Tryz.prog 29, m ≤ reachBytes := fun m hm => hw m (DataW.weights_mem_each (j := 12) (t := 29) (d := y12.1) rfl rfl m hm)
    have hw13 : ∀ m ∈ y13.1.weights Tryz.prog 30, m ≤ reachBytes := fun m hm => hw m (DataW.weights_mem_each (j := 13) (t := 30) (d := y13.1) rfl rfl m hm)
    have hw14 : ∀ m ∈ y14.1.weights Tryz.prog 31, m ≤ reachBytes := fun m hm => hw m (DataW.weights_mem_each (j := 14) (t := 31) (d := y14.1) rfl rfl m hm)
    have hw15 : ∀ m ∈ y15.1.weights Tryz.prog 32, m ≤ reachBytes := fun m hm => hw m (DataW.weights_mem_each (j := 15) (t := 32) (d := y15.1) rfl rfl m hm)
    obtain ⟨B1, a1, p1, l1, k1, hz1, hf1⟩ := zs_of_trod g11 hw11
    obtain ⟨B2, a2, p2, l2, k2, hz2, hf2⟩ := zs_of_trod g12 hw12
    obtain ⟨B3, a3, p3, l3, k3, hz3⟩ := ims_of_trod g13 hw13
    obtain ⟨B4, a4, p4, l4, k4, hz4⟩ := prs_of_trod Tryz.underlying31 Tryz.cellsOwed Tryz.bytesOwed two_owed g14 hw14
    obtain ⟨B5, a5, p5, l5, k5, hz5⟩ := prs_of_trod Tryz.underlying32 Tryz.cellsBegun Tryz.bytesBegun two_begun g15 hw15
    have hwr : reachBytes = 140737488351232 := by decide
    have hh : s.size ≤ 140737488355328 := by
      rw [f10] at hw10
      have := hw10 s.data.toList.length (by simp [DataW.weights])
      rw [show s.data.toList.length = s.size from bl_len _] at this
      omega
    have b3 := bounds_u8 w3
    refine ⟨⟨z0, z1, z2, z3, z4, z5, z6, z7, z8, z9, s, l1, l2, l3, l4, l5⟩, ⟨a1, a2, a3, a4, a5, p1, p2, p3, p4, p5, B1, B2, B3, B4, B5⟩, ?_, hz1, hz2, ⟨_, hz3⟩, hz4, hz5, hf1, hf2, hh, ⟨by show 0 ≤ z3; omega, by show z3 ≤ 255; omega⟩⟩
    rw [e0, e1, e2, e3, e4, e5, e6, e7, e8, e9, e10, k1, k2, k3, k4, k5]
end Go.Proofs.YtphofhicehncgaaGreat

namespace Go.Proofs.YtphofhicehncgaaGreat
open Go.RowKit

/-- A version as plain data. -/
structure Tu where
  xmin : Int
  xmax : Int
  frozen : Bool
  key : ByteArray
  value : ByteArray
theorem Tu.ext' {a b : Tu} (h1 : a.xmin = b.xmin) (h2 : a.xmax = b.xmax) (h3 : a.frozen = b.frozen) (h4 : a.key = b.key) (h5 : a.value = b.value) : a = b := by
  cases a; cases b; simp_all
def okK (k : ByteArray) : Bool := decide (1 ≤ k.size ∧ k.size ≤ 24)
theorem okK_iff {k : ByteArray} : okK k = true ↔ 1 ≤ k.size ∧ k.size ≤ 24 := by unfold okK; simp
def Tu.ok (t : Tu) : Bool := decide (1 ≤ t.xmin ∧ t.xmin ≤ 1024 ∧ 0 ≤ t.xmax ∧ t.xmax ≤ 1024 ∧ 1 ≤ t.key.size ∧ t.key.size ≤ 24 ∧ t.value.size ≤ 64)
theorem Tu.ok_iff {t : Tu} : t.ok = true ↔ (1 ≤ t.xmin ∧ t.xmin ≤ 1024 ∧ 0 ≤ t.xmax ∧ t.xmax ≤ 1024 ∧ 1 ≤ t.key.size ∧ t.key.size ≤ 24 ∧ t.value.size ≤ 64) := by unfold Tu.ok; simp
theorem Tu.ok_key {t : Tu} (h : t.ok = true) : okK t.key = true := by
  rw [Tu.ok_iff] at h
  rw [okK_iff]
  omega
/-- A text as it is laid. -/
def txL (s : ByteArray) : List UInt8 := sev s.size ++ s.data.toList
/-- A version's first byte. -/
def mkB (b : Bool) : UInt8 := if b then 3 else 1
/-- A version's bytes. -/
def Tu.enc (t : Tu) : List UInt8 := mkB t.frozen :: (bigF 2 t.xmin.toNat ++ (bigF 2 t.xmax.toNat ++ (txL t.key ++ txL t.value)))
/-- Two texts read one behind the other: both, what is left, what is wrong. -/
def rdTT (l : List UInt8) : List UInt8 × List UInt8 × List UInt8 × Int :=
  if (rdT 24 l).2.2 = 0 then ((rdT 24 l).1, (rdT 64 (rdT 24 l).2.1).1, (rdT 64 (rdT 24 l).2.1).2.1, (rdT 64 (rdT 24 l).2.1).2.2) else ((rdT 24 l).1, [], (rdT 24 l).2.1, (rdT 24 l).2.2)
/-- What is wrong at the end. -/
def endE (l : List UInt8) (x : Int) : Int := if x = 0 then (if l.length = 0 then 0 else 12) else x
/-- What stands in bytes that may be a version's. -/
def rawT (l : List UInt8) : Tu := ⟨ofTo ((l.drop 1).take 2), ofTo ((l.drop 3).take 2), l.head? == some 3, str (rdTT (l.drop 5)).1, str (rdTT (l.drop 5)).2.1⟩
def marked (l : List UInt8) : Bool := l.head? == some 1 || l.head? == some 3
def headed (l : List UInt8) : Bool := decide (5 ≤ l.length) && marked l
def endT (l : List UInt8) : Int := endE (rdTT l).2.2.1 (rdTT l).2.2.2
def goodT (l : List UInt8) : Bool := headed l && (endT (l.drop 5) == 0 && (rawT l).ok)
/-- The version of bytes. -/
def decT (l : List UInt8) : Option Tu := if goodT l then some (rawT l) else none
def noT : Tu := ⟨0, 0, false, ⟨#[]⟩, ⟨#[]⟩⟩
/-- What a dead slot holds. -/
def dlay (k : ByteArray) : List UInt8 := 4 :: txL k
def endD (l : List UInt8) : Int := endE (rdT 24 l).2.1 (rdT 24 l).2.2
def deadK (l : List UInt8) : Option ByteArray := if l.head? = some 4 ∧ endD (l.drop 1) = 0 ∧ okK (str (rdT 24 (l.drop 1)).1) = true then some (str (rdT 24 (l.drop 1)).1) else none
def keyT (l : List UInt8) : Option ByteArray := match decT l with | some t => some t.key | none => deadK l
/-- A slot's state. -/
def stT (l : List UInt8) : Int := if (decT l).isSome then 3 else if (deadK l).isSome then 2 else if l = [] then 1 else 0

theorem endE_zero {l : List UInt8} {x : Int} (h : endE l x = 0) : x = 0 ∧ l = [] := by
  unfold endE at h
  split at h
  · split at h
    · exact ⟨by assumption, List.eq_nil_of_length_eq_zero (by assumption)⟩
    · simp at h
  · contradiction
theorem rdN_upto (z : Int) (m : Nat) (rest : List UInt8) (hm : m < 9223372036854775808) (hz : (m : Int) ≤ z) : rdN z (sev m ++ rest) = ((m : Int), rest, 0) := by
  have h := rd_sev 9 0 m 0 rest rfl (by omega) (fun h => by omega) (by omega)
  have h' : rd 0 0 (sev m ++ rest) = ((m : Int), ((sev m).length : Int), 0) := by
    have e : sev m = sevF 9 m := rfl
    rw [e, h]; simp
  rw [rdN_ok h' (by omega)]
  simp
theorem rdT_upto (z : Int) (s : ByteArray) (rest : List UInt8) (hm : s.size < 9223372036854775808) (hz : (s.size : Int) ≤ z) : rdT z (txL s ++ rest) = (bl s, rest, 0) := by
  have h := rdN_upto z s.size (bl s ++ rest) hm hz
  have hl := bl_len s
  unfold txL
  rw [List.append_assoc]
  rw [show s.data.toList = bl s from rfl]
  rw [rdT_ok (by rw [h]) (by rw [h]; simp; omega)]
  rw [h]
  rw [show ((s.size : Int)).toNat = (bl s).length by omega, List.take_left, List.drop_left]
theorem sev_one (n : Nat) (h : n < 128) : (sev n).length = 1 := by
  unfold sev
  rw [sevF_end h]
  rfl
theorem txL_len (s : ByteArray) (h : s.size < 128) : (txL s).length = 1 + s.size := by
  unfold txL
  rw [List.length_append, sev_one _ h, show s.data.toList = bl s from rfl, bl_len]
theorem rdT_txL {z : Int} {l : List UInt8} (h : (rdT z l).2.2 = 0) : l = txL (str (rdT z l).1) ++ (rdT z l).2.1 := by
  have := rdT_canon z l h
  unfold txL
  rw [str_size]
  exact this
theorem mkB_head (b : Bool) (l : List UInt8) : headed (mkB b :: l) = decide (4 ≤ l.length) := by
  unfold headed marked mkB
  cases b <;> simp
theorem dec_encT {t : Tu} (h : t.ok = true) : decT t.enc = some t := by
  have h' := Tu.ok_iff.1 h
  have l1 := bigF_len 2 t.xmin.toNat
  have l2 := bigF_len 2 t.xmax.toNat
  have d5 : t.enc.drop 5 = txL t.key ++ txL t.value := by
    unfold Tu.enc
    rw [List.drop_succ_cons, ← List.append_assoc, List.drop_append_of_le_length (by simp; omega), List.drop_of_length_le (by simp; omega), List.nil_append]
  have d1 : (t.enc.drop 1).take 2 = bigF 2 t.xmin.toNat := by
    unfold Tu.enc
    rw [List.drop_succ_cons, List.drop_zero, List.take_append_of_le_length (by omega), List.take_of_length_le (by omega)]
  have d3 : (t.enc.drop 3).take 2 = bigF 2 t.xmax.toNat := by
    unfold Tu.enc
    rw [List.drop_succ_cons, List.drop_append_of_le_length (by omega), List.drop_of_length_le (by omega), List.nil_append, List.take_append_of_le_length (by omega), List.take_of_length_le (by omega)]
  have t1 : rdT 24 (t.enc.drop 5) = (bl t.key, txL t.value, 0) := by
    rw [d5]
    exact rdT_upto 24 t.key _ (by omega) (by omega)
  have t2 : rdT 64 (txL t.value) = (bl t.value, [], 0) := by
    have := rdT_upto 64 t.value [] (by omega) (by omega)
    rwa [List.append_nil] at this
  have tt : rdTT (t.enc.drop 5) = (bl t.key, bl t.value, [], 0) := by
    unfold rdTT
    rw [t1]
    simp only [if_pos]
    rw [t2]
  have hr : rawT t.enc = t := by
    unfold rawT
    rw [d1, d3, tt, ofTo_big 2 _ (by omega) (by omega), ofTo_big 2 _ (by omega) (by omega)]
    simp only [str_bl]
    refine Tu.ext' ?_ ?_ ?_ rfl rfl
    · simp; omega
    · simp; omega
    · simp only [Tu.enc, mkB, List.head?_cons]
      cases t.frozen <;> rfl
  have hh : headed t.enc = true := by
    unfold Tu.enc
    rw [mkB_head]
    simp only [List.length_append, decide_eq_true_eq]
    omega
  unfold decT goodT
  rw [hr, hh, h]
  unfold endT
  rw [tt]
  rfl
theorem list5 {l : List UInt8} (h : 5 ≤ l.length) : ∃ a b c d e r, l = a :: b :: c :: d :: e :: r := by
  match l, h with
  | a :: b :: c :: d :: e :: r, _ => exact ⟨a, b, c, d, e, r, rfl⟩
theorem enc_decT {l : List UInt8} {t : Tu} (h : decT l = some t) : t.ok = true ∧ t.enc = l ∧ headed l = true := by
  unfold decT at h
  split at h
  · rename_i hg
    simp only [Option.some.injEq] at h
    subst h
    unfold goodT at hg
    simp only [Bool.and_eq_true, beq_iff_eq] at hg
    obtain ⟨hh, he, hok⟩ := hg
    refine ⟨hok, ?_, hh⟩
    unfold headed at hh
    simp only [Bool.and_eq_true, decide_eq_true_eq] at hh
    obtain ⟨h5, hm⟩ := hh
    obtain ⟨a, b, c, d, e, r, rfl⟩ := list5 h5
    obtain ⟨hx, hl⟩ := endE_zero he
    simp only [List.drop_succ_cons, List.drop_zero] at hx hl
    have hq : r = txL (str (rdTT r).1) ++ txL (str (rdTT r).2.1) := by
      unfold rdTT at hx hl ⊢
      by_cases h0 : (rdT 24 r).2.2 = 0
      · rw [if_pos h0] at hx hl ⊢
        simp only at hx hl ⊢
        have e1 := rdT_txL h0
        have e2 := rdT_txL hx
        rw [hl, List.append_nil] at e2
        rw [← e2]
        exact e1
      · rw [if_neg h0] at hx
        exact absurd hx h0
    have b1 := big_ofTo [b, c] (by simp)
    have b2 := big_ofTo [d, e] (by simp)
    simp only [List.length_cons, List.length_nil] at b1 b2
    unfold Tu.enc rawT
    simp only [List.drop_succ_cons, List.drop_zero, List.take_succ_cons, List.take_zero, List.head?_cons]
    rw [← hq, b1, b2]
    unfold marked at hm
    simp only [List.head?_cons] at hm
    simp only [List.cons_append, List.nil_append, List.cons.injEq, and_true]
    unfold mkB
    by_cases ha : a = 3
    · subst ha; rfl
    · have : a = 1 := by simpa [ha] using hm
      subst this; rfl
  · cases h
theorem dead_lay {k : ByteArray} (h : okK k = true) : deadK (dlay k) = some k := by
  have h' := okK_iff.1 h
  have t1 : rdT 24 ((dlay k).drop 1) = (bl k, [], 0) := by
    have := rdT_upto 24 k [] (by omega) (by omega)
    rwa [List.append_nil] at this
  unfold deadK endD
  rw [t1]
  rw [if_pos ⟨rfl, rfl, by simpa [str_bl] using h⟩]
  simp [str_bl]
theorem lay_dead {l : List UInt8} {k : ByteArray} (h : deadK l = some k) : okK k = true ∧ dlay k = l ∧ l.head? = some 4 := by
  unfold deadK at h
  split at h
  · rename_i hc
    obtain ⟨h0, h1, h2⟩ := hc
    simp only [Option.some.injEq] at h
    subst h
    refine ⟨h2, ?_, h0⟩
    obtain ⟨hx, hl⟩ := endE_zero h1
    have e1 := rdT_txL hx
    rw [hl, List.append_nil] at e1
    unfold dlay
    rw [← e1]
    cases l with
    | nil => simp at h0
    | cons a r =>
      simp only [List.head?_cons, Option.some.injEq] at h0
      subst h0
      rfl
  · cases h
theorem headed_four {l : List UInt8} (h : headed l = true) : l.head? ≠ some 4 := by
  unfold headed marked at h
  intro e
  rw [e] at h
  simp at h
theorem headed_nil {l : List UInt8} (h : headed l = true) : l ≠ [] := by
  rintro rfl
  simp [headed] at h
theorem dec_dead {l : List UInt8} {t : Tu} (h : decT l = some t) : deadK l = none := by
  cases hd : deadK l with
  | none => rfl
  | some k => exact absurd (lay_dead hd).2.2 (headed_four (enc_decT h).2.2)
theorem dead_dec {l : List UInt8} {k : ByteArray} (h : deadK l = some k) : decT l = none := by
  cases hd : decT l with
  | none => rfl
  | some t => rw [dec_dead hd] at h; cases h
theorem enc_lenT {t : Tu} (h : t.ok = true) : t.enc.length = 7 + t.key.size + t.value.size := by
  have h' := Tu.ok_iff.1 h
  have l1 := bigF_len 2 t.xmin.toNat
  have l2 := bigF_len 2 t.xmax.toNat
  have l3 := txL_len t.key (by omega)
  have l4 := txL_len t.value (by omega)
  unfold Tu.enc
  simp only [List.length_cons, List.length_append]
  omega
theorem enc_injT {a b : Tu} (ha : a.ok = true) (hb : b.ok = true) (h : a.enc = b.enc) : a = b := by
  have e1 := dec_encT ha
  rw [h, dec_encT hb] at e1
  simpa using e1.symm
end Go.Proofs.YtphofhicehncgaaGreat

namespace Go.Proofs.YtphofhicehncgaaGreat
open Go.RowKit

/-- A version as a value. -/
def Tu.agg (t : Tu) : Value := .agg #[.int .i64 t.xmin, .int .i64 t.xmax, .bool t.frozen, .string t.key, .string t.value]
theorem isKey_any (k : ByteArray) (w : World) : Calls Tryz.prog 61 #[.string k] w fun e w' => e = .returned (.bool (okK k)) ∧ w' = w := by
  have hk : okK k = (decide ((1 : Int) ≤ k.size) && decide ((k.size : Int) ≤ 24)) := by
    unfold okK
    rw [Bool.eq_iff_iff]
    simp only [Bool.and_eq_true, decide_eq_true_eq]
    omega
  rw [hk]
  by_cases h1 : (1 : Int) ≤ k.size
  · go_enter Tryz.func61, Tryz.ntmps61
    go_wp2
    go_ret
    exact ⟨by simp [h1], rfl⟩
  · go_enter Tryz.func61, Tryz.ntmps61
    go_wp2
    go_ret
    exact ⟨by simp; omega, rfl⟩
theorem umark_any (b : Bool) (w : World) : Calls Tryz.prog 54 #[.bool b] w fun e w' => e = .returned (.string ⟨#[mkB b]⟩) ∧ w' = w := by
  cases b
  all_goals
    go_enter Tryz.func54, Tryz.ntmps54
    go_wp2
    go_ret
    exact ⟨rfl, rfl⟩
theorem ufree_any (w : World) : Calls Tryz.prog 47 #[] w fun e w' => e = .returned (.string ⟨#[]⟩) ∧ w' = w := by
  go_enter Tryz.func47, Tryz.ntmps47
  go_wp2
  go_ret
  exact ⟨rfl, rfl⟩
theorem ba_eqU {s t : ByteArray} (h : s = t) : (s.toList == t.toList) = true := by simp [h]
theorem ba_neU {s t : ByteArray} (h : ¬ s = t) : (s.toList == t.toList) = false := by
  cases e : (s.toList == t.toList) with
  | false => rfl
  | true =>
    refine absurd ?_ h
    have e' : s.toList = t.toList := by simpa using e
    rw [ByteArray.toList_eq, ByteArray.toList_eq] at e'
    exact ByteArray.ext (Array.toList_inj.1 e')
theorem one_ne {a b : UInt8} (h : ¬ a = b) : ¬ (⟨#[a]⟩ : ByteArray) = ⟨#[b]⟩ := by
  intro e
  injection e with e
  simp at e
  exact h e
theorem isMark_any (a : UInt8) (w : World) : Calls Tryz.prog 62 #[.string ⟨#[a]⟩] w fun e w' => e = .returned (.bool (a == 1 || a == 3)) ∧ w' = w := by
  by_cases h1 : a = 1
  · subst h1
    go_enter Tryz.func62, Tryz.ntmps62
    go_wp2
    go_ret
    exact ⟨rfl, rfl⟩
  · have e1 : ((⟨#[a]⟩ : ByteArray).toList == (⟨#[1]⟩ : ByteArray).toList) = false := ba_neU (one_ne h1)
    by_cases h3 : a = 3
    · subst h3
      go_enter Tryz.func62, Tryz.ntmps62
      go_wp2
      go_ret
      exact ⟨rfl, rfl⟩
    · have e3 : ((⟨#[a]⟩ : ByteArray).toList == (⟨#[3]⟩ : ByteArray).toList) = false := ba_neU (one_ne h3)
      go_enter Tryz.func62, Tryz.ntmps62
      go_wp2
      go_ret
      exact ⟨ret_bool (by simp_all), rfl⟩
set_option maxRecDepth 100000 in
set_option maxHeartbeats 1600000 in
theorem isVersion_any (t : Tu) (w : World) (h0 : -9223372036854775808 ≤ t.xmin ∧ t.xmin < 9223372036854775808) (h1 : -9223372036854775808 ≤ t.xmax ∧ t.xmax < 9223372036854775808) :
    Calls Tryz.prog 53 #[t.agg] w fun e w' => e = .returned (.bool t.ok) ∧ Only (fun _ => False) w w' := by
  obtain ⟨a, b, f, k, v⟩ := t
  have hk : Tu.ok ⟨a, b, f, k, v⟩ = (decide (1 ≤ a) && (decide (a ≤ 1024) && (decide (0 ≤ b) && (decide (b ≤ 1024) && (okK k && decide ((v.size : Int) ≤ 64)))))) := by
    unfold okK Tu.ok
    rw [Bool.eq_iff_iff]
    simp only [Bool.and_eq_true, decide_eq_true_eq]
    omega
  rw [hk]
  unfold Tu.agg
  simp only at h0 h1 ⊢
  clear hk
  obtain ⟨q, hq⟩ : ∃ q, okK k = q := ⟨_, rfl⟩
  have hc := fun W => isKey_any k W
  rw [hq] at hc
  rw [hq]
  clear hq
  by_cases c1 : 1 ≤ a
  · by_cases c2 : a ≤ 1024
    · by_cases c3 : 0 ≤ b
      · by_cases c4 : b ≤ 1024
        · cases q
          all_goals
            go_enter Tryz.func53, Tryz.ntmps53
            go_wp2_with (go_at_call 61; refine (hc _).mono ?_; rintro e w' ⟨rfl, hw⟩; obtain rfl := hw.symm; clear hw)
            go_ret
            exact ⟨by simp [c1, c2, c3, c4], onlyA _ _⟩
        · go_enter Tryz.func53, Tryz.ntmps53
          go_wp2
          go_ret
          exact ⟨by simp; omega, onlyA _ _⟩
      · go_enter Tryz.func53, Tryz.ntmps53
        go_wp2
        go_ret
        exact ⟨by simp; omega, onlyA _ _⟩
    · go_enter Tryz.func53, Tryz.ntmps53
      go_wp2
      go_ret
      exact ⟨by simp; omega, onlyA _ _⟩
  · go_enter Tryz.func53, Tryz.ntmps53
    go_wp2
    go_ret
    exact ⟨by simp; omega, onlyA _ _⟩
end Go.Proofs.YtphofhicehncgaaGreat
