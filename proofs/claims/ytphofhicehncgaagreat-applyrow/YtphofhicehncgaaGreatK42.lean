/- The pages that a record touches, as plain data. -/
import Derived.Test.YtphofhicehncgaaGreatK10
import Derived.Test.YtphofhicehncgaaGreatK41
import Derived.Test.YtphofhicehncgaaGreatK16
import Derived.Test.YtphofhicehncgaaGreatK39
import Derived.Lib.SlicesCompact
namespace Go.Proofs.YtphofhicehncgaaGreat
open Go.ChangeShapes Go.WideShapes Go.ChangeAt Go.RowKit Go.Deep

/-- The numbers of a record that came in, and how long its lists are. -/
structure RkN (r : Rc) : Prop where
  xid : -9223372036854775808 ≤ r.xid ∧ r.xid ≤ 9223372036854775807
  new : -9223372036854775808 ≤ r.new ∧ r.new ≤ 9223372036854775807
  slot : -9223372036854775808 ≤ r.slot ∧ r.slot ≤ 9223372036854775807
  lsn : -9223372036854775808 ≤ r.lsn ∧ r.lsn ≤ 9223372036854775807
  old : -9223372036854775808 ≤ r.old ∧ r.old ≤ 9223372036854775807
  few : ∀ i ∈ r.images, i.body.items.length ≤ 8796093021952
  ims : r.images.length < 1759218604441
theorem Tryz.cellsPair : Tryz.prog.cellsOf 27 = 12 := by kernel_rfl
theorem slice_reachY {H : Type} {enc : TypeId × Value → H} {W : World} {t e : TypeId} {c : Value} {x : DataW H × List MemPlace} {n : Nat} (ht : Tryz.prog.underlying t = some (.slice e)) (h : DataW.trod enc Tryz.prog W 0 (fun _ => true) true n t [c] = some x) (hw : ∀ m ∈ x.1.weights Tryz.prog t, m ≤ reachBytes) (hb : 8 ≤ Tryz.prog.bytesOf e) :
    c = .slice none 0 0 ∨ ∃ (a : Addr) (len cap m : Nat) (D : Nat → DataW H) (Pl : Nat → List MemPlace), c = .slice (some a) len cap ∧ len ≤ cap ∧ cap ≤ maxLen ∧ cap ≤ 17592186043904 ∧ cap * Tryz.prog.bytesOf e ≤ 140737488351232 ∧
      (∀ i, i < cap → ∃ cs', W.cells? 0 (a.add (i * Tryz.prog.cellsOf e)) (Tryz.prog.cellsOf e) = some cs' ∧ DataW.trod enc Tryz.prog W 0 (fun _ => true) true m e cs' = some (D i, Pl i)) ∧
      (∀ i, i < len → ∀ k ∈ (D i).weights Tryz.prog e, k ≤ reachBytes) := by
  rcases open_slice ht h with ⟨hcs, hx⟩ | ⟨a', len', cap', m, n', D, Pl, hcs, hb', hl, hm, hmm, hx, hit⟩
  · simp at hcs
    exact .inl hcs
  · simp at hcs hmm
    subst hmm
    have hwr : reachBytes = 140737488351232 := by decide
    rw [hx] at hw
    simp only [DataW.weights, ht] at hw
    have hwb := hw ((((List.range len').map D).length + ((List.range (m - len')).map fun j => D (len' + j)).length) * Tryz.prog.bytesOf e) (by simp)
    simp only [List.length_map, List.length_range] at hwb
    have h8 : (len' + (m - len')) * 8 ≤ (len' + (m - len')) * Tryz.prog.bytesOf e := Nat.mul_le_mul_left _ hb
    refine .inr ⟨a', len', m, n', D, Pl, hcs, hl, hm, by omega, (by rw [show len' + (m - len') = m by omega, hwr] at hwb; exact hwb), hit, fun i hi k hk => ?_⟩
    refine hw k (List.mem_cons_of_mem _ (List.mem_append.2 (.inl (weightsAll_mem (d := D i) (List.mem_map.2 ⟨i, List.mem_range.2 hi, rfl⟩) hk))))
theorem page_of_trodY {H : Type} {enc : TypeId × Value → H} {W : World} {c0 c1 c2 c3 c4 c5 : Value} {x : DataW H × List MemPlace} {n : Nat} (h : DataW.trod enc Tryz.prog W 0 (fun _ => true) true n 25 [c0, c1, c2, c3, c4, c5] = some x) (hw : ∀ m ∈ x.1.weights Tryz.prog 25, m ≤ reachBytes) :
    ∃ (p : Pg) (B : Nat) (ao : Option Addr) (cp : Nat), c0 = .int .i64 p.lsn ∧ c1 = .int .i64 p.kind ∧ c2 = .int .i64 p.level ∧ c3 = .int .i64 p.right ∧ c4 = .string p.high ∧ c5 = .slice ao p.items.length cp ∧ Strs W B ao p.items ∧ Fit ao p.items.length cp ∧ p.high.size ≤ 140737488355328 ∧ p.lsn < 9223372036854775808 ∧ p.items.length ≤ 8796093021952 := by
  obtain ⟨xs, n', _, hx, _, hlen, hfs⟩ := DataW.trod_struct Tryz.underlying25 h
  match xs, hlen with
  | [y0, y1, y2, y3, y4, y5], _ =>
    have g0 := hfs 0 _ rfl
    have g1 := hfs 1 _ rfl
    have g2 := hfs 2 _ rfl
    have g3 := hfs 3 _ rfl
    have g4 := hfs 4 _ rfl
    have g5 := hfs 5 _ rfl
    simp [Tryz.cellsInt, Tryz.cellsStr, Tryz.cellsStrs] at g0 g1 g2 g3 g4 g5
    obtain ⟨a, e0, _, w0⟩ := DataW.trod_int Tryz.underlying3 g0
    obtain ⟨k, e1, _, w1⟩ := DataW.trod_int Tryz.underlying3 g1
    obtain ⟨u, e2, _, w2⟩ := DataW.trod_int Tryz.underlying3 g2
    obtain ⟨r, e3, _, w3⟩ := DataW.trod_int Tryz.underlying3 g3
    obtain ⟨h, e4, f4, _⟩ := DataW.trod_string Tryz.underlying9 g4
    simp at e0 e1 e2 e3 e4
    rw [hx] at hw
    simp only [DataW.weights, Tryz.underlying25] at hw
    have hw4 : ∀ m ∈ y4.1.weights Tryz.prog 9, m ≤ reachBytes := fun m hm => hw m (DataW.weights_mem_each (j := 4) (t := 9) (d := y4.1) rfl rfl m hm)
    have hw5 : ∀ m ∈ y5.1.weights Tryz.prog 23, m ≤ reachBytes := fun m hm => hw m (DataW.weights_mem_each (j := 5) (t := 23) (d := y5.1) rfl rfl m hm)
    obtain ⟨B, ao, cp, l, e5, hS, hF, hL⟩ := strs_of_trod g5 hw5
    have hwr : reachBytes = 140737488351232 := by decide
    have hh : h.size ≤ 140737488355328 := by
      rw [f4] at hw4
      have := hw4 h.data.toList.length (by simp [DataW.weights])
      rw [show h.data.toList.length = h.size from bl_len _] at this
      omega
    have b0 := bounds_i64 w0
    exact ⟨⟨a, k, u, r, h, l⟩, B, ao, cp, e0, e1, e2, e3, e4, e5, hS, hF, hh, by show a < _; omega, hL⟩
set_option maxRecDepth 100000 in
theorem im_of_trodY {H : Type} {enc : TypeId × Value → H} {W : World} {c0 c1 c2 c3 c4 c5 c6 : Value} {x : DataW H × List MemPlace} {n : Nat} (h : DataW.trod enc Tryz.prog W 0 (fun _ => true) true n 40 [c0, c1, c2, c3, c4, c5, c6] = some x) (hw : ∀ m ∈ x.1.weights Tryz.prog 40, m ≤ reachBytes) :
    ∃ (i : Im) (B : Nat) (ao : Option Addr) (cp : Nat), c0 = .int .i64 i.page ∧ c1 = .int .i64 i.body.lsn ∧ c2 = .int .i64 i.body.kind ∧ c3 = .int .i64 i.body.level ∧ c4 = .int .i64 i.body.right ∧ c5 = .string i.body.high ∧ c6 = .slice ao i.body.items.length cp ∧ Strs W B ao i.body.items ∧ Fit ao i.body.items.length cp ∧ i.body.high.size ≤ 140737488355328 ∧ i.body.lsn < 9223372036854775808 ∧ i.body.items.length ≤ 8796093021952 := by
  obtain ⟨xs, n', _, hx, _, hlen, hfs⟩ := DataW.trod_struct Tryz.underlying40 h
  match xs, hlen with
  | [y0, y1], _ =>
    have g0 := hfs 0 _ rfl
    have g1 := hfs 1 _ rfl
    simp [Tryz.cellsInt, Tryz.cellsPage] at g0 g1
    obtain ⟨a, e0, _, _⟩ := DataW.trod_int Tryz.underlying3 g0
    simp at e0
    rw [hx] at hw
    simp only [DataW.weights, Tryz.underlying40] at hw
    have hw1 : ∀ m ∈ y1.1.weights Tryz.prog 25, m ≤ reachBytes := fun m hm => hw m (DataW.weights_mem_each (j := 1) (t := 25) (d := y1.1) rfl rfl m hm)
    obtain ⟨p, B, ao, cp, k0, k1, k2, k3, k4, k5, hS, hF, hh, hl⟩ := page_of_trodY g1 hw1
    exact ⟨⟨a, p⟩, B, ao, cp, e0, k0, k1, k2, k3, k4, k5, hS, hF, hh, hl⟩
set_option maxRecDepth 100000 in
theorem ims_of_trodY {H : Type} {enc : TypeId × Value → H} {W : World} {c : Value} {x : DataW H × List MemPlace} {n : Nat} (h : DataW.trod enc Tryz.prog W 0 (fun _ => true) true n 30 [c] = some x) (hw : ∀ m ∈ x.1.weights Tryz.prog 30, m ≤ reachBytes) :
    ∃ (B : Nat) (ao : Option Addr) (cp : Nat) (l : List Im), c = .slice ao l.length cp ∧ Ims W (fun _ => True) B ao l ∧ (∀ i ∈ l, i.body.items.length ≤ 8796093021952) ∧ l.length < 1759218604441 := by
  rcases slice_reachY Tryz.underlying30 h hw (by rw [Tryz.bytesImage]; decide) with rfl | ⟨a, len, cap, m, D, Pl, rfl, hl, hm, hc, hby, hit, hwe⟩
  · exact ⟨0, none, 0, [], rfl, Ims.nil _ _ _ _, (fun i h => by cases h), by simp⟩
  · by_cases hl0 : len = 0
    · subst hl0
      exact ⟨0, some a, cap, [], rfl, Ims.nil _ _ _ _, (fun i h => by cases h), by simp⟩
    have ha : a = ⟨a.block, a.off, none⟩ := by
      obtain ⟨cs', h1, h2⟩ := hit 0 (by omega)
      rw [Tryz.cellsImage] at h1
      obtain ⟨_, hlen, hcell⟩ := World.cells?_some h1
      have c0 := hcell 0 (by omega)
      rw [add_add, Nat.zero_mul, add0] at c0
      match cs', hlen with
      | v0 :: _, _ => exact cell_spot (v := v0) (by simpa using c0)
    have inh : Inhabited (Im × Nat × Option Addr × Nat) := ⟨(⟨0, Pg.none⟩, 0, none, 0)⟩
    have one : ∀ i, i < len → ∃ z : Im × Nat × Option Addr × Nat, ∃ b o, a = ⟨b, o, none⟩ ∧ b < W.heap.size ∧ ImAt W b (o + i * 7) z.1 z.2.1 z.2.2.1 z.2.2.2 ∧ z.1.body.items.length ≤ 8796093021952 := fun i hi => by
      obtain ⟨cs', h1, h2⟩ := hit i (by omega)
      rw [Tryz.cellsImage] at h1
      obtain ⟨_, hlen, hcell⟩ := World.cells?_some h1
      match cs', hlen with
      | [v0, v1, v2, v3, v4, v5, v6], _ =>
        obtain ⟨j, B, ao, cp, e0, e1, e2, e3, e4, e5, e6, hS, hF, hh, hls, hfw⟩ := im_of_trodY h2 (hwe i hi)
        subst e0 e1 e2 e3 e4 e5 e6
        have c0 := hcell 0 (by omega)
        have c1 := hcell 1 (by omega)
        have c2 := hcell 2 (by omega)
        have c3 := hcell 3 (by omega)
        have c4 := hcell 4 (by omega)
        have c5 := hcell 5 (by omega)
        have c6 := hcell 6 (by omega)
        rw [add_add] at c0 c1 c2 c3 c4 c5 c6
        rw [ha, add_at] at c0 c1 c2 c3 c4 c5 c6
        have hb := World.block_lt_of_cell? W _ c0
        refine ⟨(j, B, ao, cp), a.block, a.off, ha, hb, ⟨by simpa using c0, by simpa [Nat.add_assoc] using c1, by simpa [Nat.add_assoc] using c2, by simpa [Nat.add_assoc] using c3, by simpa [Nat.add_assoc] using c4, by simpa [Nat.add_assoc] using c5, by simpa [Nat.add_assoc] using c6, hS, hF, hh, hls⟩, hfw⟩
    obtain ⟨q, hq⟩ := choose_lt (n := len) one
    have hlen : ((List.range len).map fun i => (q i).1).length = len := by simp
    refine ⟨a.block, some a, cap, (List.range len).map fun i => (q i).1, by rw [hlen], ⟨fun h0 => ?_, fun h0 => ?_, by rw [hlen]; omega⟩, ?_, ?_⟩
    · rw [hlen] at h0
      obtain ⟨b, o, ha, hb, _⟩ := hq 0 (by omega)
      subst ha
      refine ⟨o, rfl, fun j hj => ?_⟩
      rw [hlen] at hj
      obtain ⟨b', o', ha', hb', hI, _⟩ := hq j hj
      injection ha' with e1 e2
      subst e1 e2
      refine ⟨(q j).2.1, (q j).2.2.1, (q j).2.2.2, ?_, fun _ => trivial⟩
      simpa using hI
    · rw [hlen] at h0
      obtain ⟨b, o, ha, hb, _⟩ := hq 0 (by omega)
      subst ha
      exact hb
    · intro i hi
      obtain ⟨j, hj, rfl⟩ := List.mem_map.1 hi
      obtain ⟨b, o, ha, hb, _, hf⟩ := hq j (List.mem_range.1 hj)
      exact hf
    · rw [hlen]
      rw [Tryz.bytesImage] at hby
      omega
set_option maxRecDepth 100000 in
theorem open_recY {H : Type} {enc : TypeId × Value → H} {W : World} {base : Nat} {v : Value} {d : DataW H} {ps : List MemPlace} (hok : Value.okWide Tryz.prog W .any base 34 v) (h : DataW.Trod enc Tryz.prog W 0 (fun _ => true) true 34 v d ps)
    (hw : ∀ m ∈ d.weights Tryz.prog 34, m ≤ reachBytes) : ∃ (r : Rc) (L : Loc), v = .agg (r.cells L) ∧ RcAt W r L ∧ RkN r := by
  obtain ⟨cs, rfl, hs⟩ := okWide_struct Tryz.underlying34 hok
  obtain ⟨fuel, hf⟩ := h
  rw [Tryz.cellsRec] at hs
  obtain ⟨xs, n, _, hx, _, hlen, hfs⟩ := DataW.trod_struct Tryz.underlying34 hf
  obtain ⟨c0, c1, c2, c3, c4, c5, c6, c7, c8, c9, c10, c11, c12, c13, c14, c15, rfl⟩ : ∃ c0 c1 c2 c3 c4 c5 c6 c7 c8 c9 c10 c11 c12 c13 c14 c15, cs = #[c0, c1, c2, c3, c4, c5, c6, c7, c8, c9, c10, c11, c12, c13, c14, c15] := by
    obtain ⟨l⟩ := cs
    match l, hs with
    | [c0, c1, c2, c3, c4, c5, c6, c7, c8, c9, c10, c11, c12, c13, c14, c15], _ => exact ⟨c0, c1, c2, c3, c4, c5, c6, c7, c8, c9, c10, c11, c12, c13, c14, c15, rfl⟩
  match xs, hlen with
  | [y0, y1, y2, y3, y4, y5, y6, y7, y8, y9, y10, y11, y12, y13, y14, y15], _ =>
    simp only [Prod.mk.injEq] at hx
    have g0 := hfs 0 _ rfl
    have g1 := hfs 1 _ rfl
    have g2 := hfs 2 _ rfl
    have g3 := hfs 3 _ rfl
    have g4 := hfs 4 _ rfl
    have g5 := hfs 5 _ rfl
    have g6 := hfs 6 _ rfl
    have g7 := hfs 7 _ rfl
    have g8 := hfs 8 _ rfl
    have g9 := hfs 9 _ rfl
    have g10 := hfs 10 _ rfl
    have g11 := hfs 11 _ rfl
    have g12 := hfs 12 _ rfl
    have g13 := hfs 13 _ rfl
    have g14 := hfs 14 _ rfl
    have g15 := hfs 15 _ rfl
    simp [Value.cells, Tryz.cellsInt, Tryz.cellsStr, Tryz.cellsKind, Tryz.cellsInts, Tryz.cellsImages, Tryz.cellsOweds, Tryz.cellsBeguns] at g0 g1 g2 g3 g4 g5 g6 g7 g8 g9 g10 g11 g12 g13 g14 g15
    obtain ⟨z0, e0, _, w0⟩ := DataW.trod_int Tryz.underlying3 g0
    obtain ⟨z1, e1, _, w1⟩ := DataW.trod_int Tryz.underlying3 g1
    obtain ⟨z2, e2, _, w2⟩ := DataW.trod_int Tryz.underlying3 g2
    obtain ⟨z3, e3, _, w3⟩ := DataW.trod_int Tryz.underlying28 g3
    obtain ⟨z4, e4, _, w4⟩ := DataW.trod_int Tryz.underlying3 g4
    obtain ⟨z5, e5, _, w5⟩ := DataW.trod_int Tryz.underlying3 g5
    obtain ⟨z6, e6, _, w6⟩ := DataW.trod_int Tryz.underlying3 g6
    obtain ⟨z7, e7, _, w7⟩ := DataW.trod_int Tryz.underlying3 g7
    obtain ⟨z8, e8, _, w8⟩ := DataW.trod_int Tryz.underlying3 g8
    obtain ⟨z9, e9, _, w9⟩ := DataW.trod_int Tryz.underlying3 g9
    obtain ⟨s, e10, f10, _⟩ := DataW.trod_string Tryz.underlying9 g10
    simp at e0 e1 e2 e3 e4 e5 e6 e7 e8 e9 e10
    rw [hx.1] at hw
    simp only [DataW.weights, Tryz.underlying34] at hw
    have hw10 : ∀ m ∈ y10.1.weights Tryz.prog 9, m ≤ reachBytes := fun m hm => hw m (DataW.weights_mem_each (j := 10) (t := 9) (d := y10.1) rfl rfl m hm)
    have hw11 : ∀ m ∈ y11.1.weights Tryz.prog 29, m ≤ reachBytes := fun m hm => hw m (DataW.weights_mem_each (j := 11) (t := 29) (d := y11.1) rfl rfl m hm)
    have hw12 : ∀ m ∈ y12.1.weights Tryz.prog 29, m ≤ reachBytes := fun m hm => hw m (DataW.weights_mem_each (j := 12) (t := 29) (d := y12.1) rfl rfl m hm)
    have hw13 : ∀ m ∈ y13.1.weights Tryz.prog 30, m ≤ reachBytes := fun m hm => hw m (DataW.weights_mem_each (j := 13) (t := 30) (d := y13.1) rfl rfl m hm)
    have hw14 : ∀ m ∈ y14.1.weights Tryz.prog 31, m ≤ reachBytes := fun m hm => hw m (DataW.weights_mem_each (j := 14) (t := 31) (d := y14.1) rfl rfl m hm)
    have hw15 : ∀ m ∈ y15.1.weights Tryz.prog 32, m ≤ reachBytes := fun m hm => hw m (DataW.weights_mem_each (j := 15) (t := 32) (d := y15.1) rfl rfl m hm)
    obtain ⟨B1, a1, p1, l1, k1, hz1, hf1⟩ := zs_of_trod g11 hw11
    obtain ⟨B2, a2, p2, l2, k2, hz2, hf2⟩ := zs_of_trod g12 hw12
    obtain ⟨B3, a3, p3, l3, k3, hz3, hfw, hlw⟩ := ims_of_trodY g13 hw13
    obtain ⟨B4, a4, p4, l4, k4, hz4⟩ := prs_of_trod Tryz.underlying31 Tryz.cellsOwed Tryz.bytesOwed two_owed g14 hw14
    obtain ⟨B5, a5, p5, l5, k5, hz5⟩ := prs_of_trod Tryz.underlying32 Tryz.cellsBegun Tryz.bytesBegun two_begun g15 hw15
    have hwr : reachBytes = 140737488351232 := by decide
    have hh : s.size ≤ 140737488355328 := by
      rw [f10] at hw10
      have := hw10 s.data.toList.length (by simp [DataW.weights])
      rw [show s.data.toList.length = s.size from bl_len _] at this
      omega
    have b3 := bounds_u8 w3
    refine ⟨⟨z0, z1, z2, z3, z4, z5, z6, z7, z8, z9, s, l1, l2, l3, l4, l5⟩, ⟨a1, a2, a3, a4, a5, p1, p2, p3, p4, p5, B1, B2, B3, B4, B5⟩, ?_, ⟨hz1, hz2, ⟨_, hz3⟩, hz4, hz5, hf1, hf2, hh, ⟨by show 0 ≤ z3; omega, by show z3 ≤ 255; omega⟩⟩, ⟨bounds_i64 w4, bounds_i64 w8, bounds_i64 w6, bounds_i64 w0, bounds_i64 w7, hfw, hlw⟩⟩
    rw [e0, e1, e2, e3, e4, e5, e6, e7, e8, e9, e10, k1, k2, k3, k4, k5]
theorem sized_mem {H : Type} {ts : List TypeId} {ds : List (DataW H)} (h : (DataW.weightsEach Tryz.prog ts ds).all (· ≤ reachBytes) = true) {j : Nat} {t : TypeId} {d : DataW H} (ht : ts[j]? = some t) (hd : ds[j]? = some d) : ∀ n ∈ d.weights Tryz.prog t, n ≤ reachBytes := by
  intro n hn
  have := List.all_eq_true.1 h _ (DataW.weights_mem_each ht hd n hn)
  simpa using this
/-- A page that came in, as cells of something greater. -/
structure Pn (W : World) (p : Pg) (B : Nat) (ao : Option Addr) (cp : Nat) : Prop where
  strs : Strs W B ao p.items
  fit : Fit ao p.items.length cp
  high : p.high.size ≤ 140737488355328
  len : p.items.length ≤ 8796093021952
set_option maxRecDepth 100000 in
theorem open_pair {H : Type} {enc : TypeId × Value → H} {W : World} {base : Nat} {v : Value} {d : DataW H} {ps : List MemPlace} (hok : Value.okWide Tryz.prog W .any base 27 v) (h : DataW.Trod enc Tryz.prog W 0 (fun _ => true) true 27 v d ps)
    (hw : ∀ m ∈ d.weights Tryz.prog 27, m ≤ reachBytes) : ∃ (p q : Pg) (B Bq : Nat) (ao aq : Option Addr) (cp cq : Nat), v = .agg #[.int .i64 p.lsn, .int .i64 p.kind, .int .i64 p.level, .int .i64 p.right, .string p.high, .slice ao p.items.length cp, .int .i64 q.lsn, .int .i64 q.kind, .int .i64 q.level, .int .i64 q.right, .string q.high, .slice aq q.items.length cq] ∧ Pn W p B ao cp ∧ Pn W q Bq aq cq := by
  obtain ⟨cs, rfl, hs⟩ := okWide_struct Tryz.underlying27 hok
  obtain ⟨fuel, hf⟩ := h
  rw [Tryz.cellsPair] at hs
  obtain ⟨xs, n, _, hx, _, hlen, hfs⟩ := DataW.trod_struct Tryz.underlying27 hf
  obtain ⟨c0, c1, c2, c3, c4, c5, c6, c7, c8, c9, c10, c11, rfl⟩ : ∃ c0 c1 c2 c3 c4 c5 c6 c7 c8 c9 c10 c11, cs = #[c0, c1, c2, c3, c4, c5, c6, c7, c8, c9, c10, c11] := by
    obtain ⟨l⟩ := cs
    match l, hs with
    | [c0, c1, c2, c3, c4, c5, c6, c7, c8, c9, c10, c11], _ => exact ⟨c0, c1, c2, c3, c4, c5, c6, c7, c8, c9, c10, c11, rfl⟩
  match xs, hlen with
  | [y0, y1], _ =>
    simp only [Prod.mk.injEq] at hx
    have g0 := hfs 0 _ rfl
    have g1 := hfs 1 _ rfl
    simp [Value.cells, Tryz.cellsPage] at g0 g1
    rw [hx.1] at hw
    simp only [DataW.weights, Tryz.underlying27] at hw
    have hw0 : ∀ m ∈ y0.1.weights Tryz.prog 25, m ≤ reachBytes := fun m hm => hw m (DataW.weights_mem_each (j := 0) (t := 25) (d := y0.1) rfl rfl m hm)
    have hw1 : ∀ m ∈ y1.1.weights Tryz.prog 25, m ≤ reachBytes := fun m hm => hw m (DataW.weights_mem_each (j := 1) (t := 25) (d := y1.1) rfl rfl m hm)
    obtain ⟨p, B, ao, cp, k0, k1, k2, k3, k4, k5, hS, hF, hh, _, hl⟩ := page_of_trodY g0 hw0
    obtain ⟨q, Bq, aq, cq, j0, j1, j2, j3, j4, j5, hS2, hF2, hh2, _, hl2⟩ := page_of_trodY g1 hw1
    exact ⟨p, q, B, Bq, ao, aq, cp, cq, by rw [k0, k1, k2, k3, k4, k5, j0, j1, j2, j3, j4, j5], ⟨hS, hF, hh, hl⟩, ⟨hS2, hF2, hh2, hl2⟩⟩
end Go.Proofs.YtphofhicehncgaaGreat

namespace Go.Proofs.YtphofhicehncgaaGreat
open Go.RowKit

abbrev noL : Loc := ⟨none, none, none, none, none, 0, 0, 0, 0, 0, 0, 0, 0, 0, 0⟩
abbrev noR : Rc := ⟨0, 0, 0, 0, 0, 0, 0, 0, 0, 0, ⟨#[]⟩, [], [], [], [], []⟩
/-- Whether a kind can be undone. -/
def undK (k : Int) : Bool := decide (k = 1 ∨ k = 2)
/-- The record that undoes another one. -/
def bkR (R : Rc) : Rc := ⟨0, 0, R.prev, 6, R.xid, R.page, R.slot, if R.kind = 2 then R.new else 0, if R.kind = 2 then R.old else 0, 0, ⟨#[]⟩, [], [], [], [], []⟩
theorem run_build_rn (w : World) : (Instr.build 34 #[]).run Tryz.prog w = .ok (.agg (noR.cells noL)) w := run_build w 34 #[] _ (by kernel_rfl)
theorem run_build_ru (w : World) (x p s n : Int) : (Instr.build 34 #[(3, .int .u8 6), (4, .int .i64 x), (5, .int .i64 p), (6, .int .i64 s), (2, .int .i64 n)]).run Tryz.prog w = .ok (.agg (Rc.cells ⟨0, 0, n, 6, x, p, s, 0, 0, 0, ⟨#[]⟩, [], [], [], [], []⟩ noL)) w := run_build w 34 _ _ (by kernel_rfl)
section
variable {ops : Array Oper} {rest : List Oper} {o : Oper} {a : Act} {w : World} {Q : Exit → Act → World → Prop}
theorem wpList_build_rn (hg : o.guard = none) (hop : o.op = .build 34 #[]) (h : wpList Tryz.prog ops Q rest (a.put o.dst (.agg (noR.cells noL))) w) : wpList Tryz.prog ops Q (o :: rest) a w := by
  refine wpList_plain hg fun K hK => ?_
  unfold Oper.wp execOp
  simp only [hop, Array.map_empty, Sem.run_bind, Sem.run_pure, Result.andThen_ok, run_build_rn]
  exact hK _ _ h
theorem wpList_build_ru (hg : o.guard = none) (a4 a5 a6 a2 : Operand) (hop : o.op = .build 34 #[(3, .const (.int .u8 6)), (4, a4), (5, a5), (6, a6), (2, a2)]) (x p s n : Int) (h4 : a.eval a4 = .int .i64 x) (h5 : a.eval a5 = .int .i64 p) (h6 : a.eval a6 = .int .i64 s) (h2 : a.eval a2 = .int .i64 n)
    (h : wpList Tryz.prog ops Q rest (a.put o.dst (.agg (Rc.cells ⟨0, 0, n, 6, x, p, s, 0, 0, 0, ⟨#[]⟩, [], [], [], [], []⟩ noL))) w) : wpList Tryz.prog ops Q (o :: rest) a w := by
  refine wpList_plain hg fun K hK => ?_
  unfold Oper.wp execOp
  have e : (#[(3, Operand.const (.int .u8 6)), (4, a4), (5, a5), (6, a6), (2, a2)] : Array (Nat × Operand)).map (fun x => (x.1, a.eval x.2)) = #[(3, .int .u8 6), (4, .int .i64 x), (5, .int .i64 p), (6, .int .i64 s), (2, .int .i64 n)] := by
    simp only [List.map_toArray, List.map_cons, List.map_nil, h4, h5, h6, h2]
    rfl
  simp only [hop, e, Sem.run_bind, Sem.run_pure, Result.andThen_ok, run_build_ru]
  exact hK _ _ h
end
theorem results_rc {fn : Func} {p u : Tmp} (h : fn.results = #[.cell p 34, .tmp u]) {tmps : Array Value} {w : World} {b : Nat} {r : Rc} {L : Loc} (hp : tmps.getD p undef = .pointer (some ⟨b, 0, none⟩)) (hP : Rb w b r L) :
    (results fn tmps).run Tryz.prog w = .ok (.tuple #[.agg (r.cells L), tmps.getD u undef]) w := by
  have e : (asAddr (.pointer (some ⟨b, 0, none⟩))).run Tryz.prog w = .ok ⟨b, 0, none⟩ w := rfl
  have hl : (loadVar 34 ⟨b, 0, none⟩).run Tryz.prog w = .ok (.agg (r.cells L)) w := run_loadVar_mid (P := Tryz.prog) w b 0 34 (r.cl L) _ hP.range Tryz.underlying34 rfl Tryz.sizeRecY
  rw [results_cell_tmp h, hp, e]
  simp only [Result.andThen, hl]
set_option maxRecDepth 100000 in
set_option maxHeartbeats 1600000 in
theorem undoes_any (w : World) (R : Rc) (L : Loc) : Calls Tryz.prog 28 #[.agg (R.cells L)] w fun e w' => e = .returned (.bool (undK R.kind)) ∧ Only (fun _ => False) w w' := by
  have HO := hide (onlyA w (.cells (R.cells L) 34))
  have HB := hide (Bx.new w R L)
  obtain ⟨z, hz⟩ : ∃ z, undK R.kind = z := ⟨_, rfl⟩
  rw [hz]
  have HZ := hide hz
  clear hz
  go_enter Tryz.func28, Tryz.ntmps28
  go_upto_region 1 with fail
  obtain ⟨W0, hW0⟩ : ∃ x, w.alloc (.cells (R.cells L) 34) = x := ⟨_, rfl⟩
  rw [hW0] at HO HB ⊢
  clear hW0
  have r3 := HB.out.c3
  by_cases h1 : R.kind = 1
  · have e1 : z = true := by rw [← HZ.out, h1]; rfl
    subst e1
    rw [h1] at r3
    go_wp2_with fail
    go_ret
    exact ⟨rfl, HO.out⟩
  · have h1b : (R.kind == 1) = false := by simpa using h1
    have e1 : decide (R.kind = 2) = z := by rw [← HZ.out]; unfold undK; simp [h1]
    go_wp2_with fail
    go_ret
    rw [← e1]
    exact ⟨ret_bool rfl, HO.out⟩
/-- What Back answers. -/
def bkA (R : Rc) : Rc × Int := if undK R.kind then (bkR R, 0) else (noR, 160)
/-- The variables of Back. -/
theorem bk_new (w : World) (R : Rc) (L : Loc) : Rb ((w.alloc (.cells (R.cells L) 34)).alloc (.cells #[.int .i64 0, .int .i64 0, .int .i64 0, .int .u8 0, .int .i64 0, .int .i64 0, .int .i64 0, .int .i64 0, .int .i64 0, .int .i64 0, .string ⟨#[]⟩, .slice none 0 0, .slice none 0 0, .slice none 0 0, .slice none 0 0, .slice none 0 0] 34)) w.heap.size R L ∧ Rb ((w.alloc (.cells (R.cells L) 34)).alloc (.cells #[.int .i64 0, .int .i64 0, .int .i64 0, .int .u8 0, .int .i64 0, .int .i64 0, .int .i64 0, .int .i64 0, .int .i64 0, .int .i64 0, .string ⟨#[]⟩, .slice none 0 0, .slice none 0 0, .slice none 0 0, .slice none 0 0, .slice none 0 0] 34)) (w.heap.size + 1) noR noL ∧ Only (fun _ => False) w ((w.alloc (.cells (R.cells L) 34)).alloc (.cells #[.int .i64 0, .int .i64 0, .int .i64 0, .int .u8 0, .int .i64 0, .int .i64 0, .int .i64 0, .int .i64 0, .int .i64 0, .int .i64 0, .string ⟨#[]⟩, .slice none 0 0, .slice none 0 0, .slice none 0 0, .slice none 0 0, .slice none 0 0] 34)) := by
  have e := Rb.new (w.alloc (.cells (R.cells L) 34)) noR noL
  rw [World.size_alloc] at e
  exact ⟨(Rb.new w R L).more (onlyA _ _), e, o2 (onlyA _ _) (onlyA _ _)⟩
set_option maxRecDepth 100000 in
set_option maxHeartbeats 3200000 in
theorem back_any (w : World) (R : Rc) (L : Loc) : Calls Tryz.prog 11 #[.agg (R.cells L)] w fun e w' => e = .returned (.tuple #[.agg ((bkA R).1.cells noL), .int .i64 (bkA R).2]) ∧ Only (fun _ => False) w w' := by
  have HX := hide (bk_new w R L)
  have HU := hide (fun W => undoes_any W R L)
  unfold bkA
  cases hu : undK R.kind with
  | false =>
    rw [hu] at HU
    rw [if_neg (by decide)]
    clear hu
    go_enter Tryz.func11, Tryz.ntmps11
    go_upto_region 1 with fail
    obtain ⟨W0, hW0⟩ : ∃ x, (w.alloc (.cells (R.cells L) 34)).alloc (.cells #[.int .i64 0, .int .i64 0, .int .i64 0, .int .u8 0, .int .i64 0, .int .i64 0, .int .i64 0, .int .i64 0, .int .i64 0, .int .i64 0, .string ⟨#[]⟩, .slice none 0 0, .slice none 0 0, .slice none 0 0, .slice none 0 0, .slice none 0 0] 34) = x := ⟨_, rfl⟩
    rw [hW0] at HX ⊢
    clear hW0
    go_wp2_with (refine wpList_load_rc rfl (.tmp 1) rfl w.heap.size rfl R L HX.out.1.range ?_; go_frame)
    refine (HU.out _).mono ?_
    rintro e w1 ⟨rfl, ho⟩
    have HR1 := hide (HX.out.2.1.more ho)
    have HO1 := hide (o2 HX.out.2.2 ho)
    clear ho HX HU
    go_wp2_with (first
      | (refine wpList_build_rn rfl rfl ?_; go_frame)
      | (refine wpList_put_rc rfl (.tmp 2) (.tmp 8) rfl (w.heap.size + 1) rfl noR noR noL noL rfl HR1.out (fun W HS => ?_); go_frame))
    refine bodyPost_ret (results_rc rfl rfl HS.out.1) rfl ?_
    exact ⟨rfl, HO1.out.trans HS.out.2 (fun i hi e => by omega)⟩
  | true =>
    rw [hu] at HU
    rw [if_pos rfl]
    obtain ⟨BR, hBR⟩ : ∃ x, bkR R = x := ⟨_, rfl⟩
    rw [hBR]
    have HBR := hide hBR
    clear hu hBR
    go_enter Tryz.func11, Tryz.ntmps11
    go_upto_region 1 with fail
    obtain ⟨W0, hW0⟩ : ∃ x, (w.alloc (.cells (R.cells L) 34)).alloc (.cells #[.int .i64 0, .int .i64 0, .int .i64 0, .int .u8 0, .int .i64 0, .int .i64 0, .int .i64 0, .int .i64 0, .int .i64 0, .int .i64 0, .string ⟨#[]⟩, .slice none 0 0, .slice none 0 0, .slice none 0 0, .slice none 0 0, .slice none 0 0] 34) = x := ⟨_, rfl⟩
    rw [hW0] at HX ⊢
    clear hW0
    go_wp2_with (refine wpList_load_rc rfl (.tmp 1) rfl w.heap.size rfl R L HX.out.1.range ?_; go_frame)
    refine (HU.out _).mono ?_
    rintro e w1 ⟨rfl, ho⟩
    have HA1 := hide (HX.out.1.more ho)
    have HR1 := hide (HX.out.2.1.more ho)
    have HO1 := hide (o2 HX.out.2.2 ho)
    clear ho HX HU
    have HN : Hid (Rb (w1.alloc (.cells #[.int .i64 0, .int .i64 0, .int .i64 0, .int .u8 0, .int .i64 0, .int .i64 0, .int .i64 0, .int .i64 0, .int .i64 0, .int .i64 0, .string ⟨#[]⟩, .slice none 0 0, .slice none 0 0, .slice none 0 0, .slice none 0 0, .slice none 0 0] 34)) w1.heap.size noR noL) := Rb.new w1 noR noL
    have HAN := hide (onlyA w1 (.cells #[.int .i64 0, .int .i64 0, .int .i64 0, .int .u8 0, .int .i64 0, .int .i64 0, .int .i64 0, .int .i64 0, .int .i64 0, .int .i64 0, .string ⟨#[]⟩, .slice none 0 0, .slice none 0 0, .slice none 0 0, .slice none 0 0, .slice none 0 0] 34))
    have r4 := HA1.out.bx.c4
    have r5 := HA1.out.bx.c5
    have r6 := HA1.out.bx.c6
    have r1 := HA1.out.bx.c1
    go_upto_region 4 with (first
      | (refine wpList_build_ru rfl (.tmp 10) (.tmp 12) (.tmp 14) (.tmp 16) rfl R.xid R.page R.slot R.prev rfl rfl rfl rfl ?_; go_frame)
      | (refine wpList_put_rc rfl (.tmp 4) (.tmp 17) rfl w1.heap.size rfl noR ⟨0, 0, R.prev, 6, R.xid, R.page, R.slot, 0, 0, 0, ⟨#[]⟩, [], [], [], [], []⟩ noL noL rfl HN.out (fun W HS => ?_); go_frame))
    have hz := HO1.out.size
    have hz1 := HA1.out.lt
    have hz2 := HR1.out.lt
    have HA2 := hide ((HA1.out.more HAN.out).kept HS.out.2 (by omega))
    have HR2 := hide ((HR1.out.more HAN.out).kept HS.out.2 (by omega))
    have HO2 := hide ((o2 HO1.out HAN.out).trans HS.out.2 (fun i hi e => by omega))
    have HS2 := hide HS.out.1
    have HB4 : Hid (w.heap.size + 1 < w1.heap.size) := hz2
    obtain ⟨bb, hbb⟩ : ∃ b, w1.heap.size = b := ⟨_, rfl⟩
    rw [hbb] at HS2 HB4 ⊢
    clear HS HAN HN HA1 HR1 HO1 r4 r5 r6 r1 hz hz1 hz2 hbb
    have r3 := HA2.out.bx.c3
    have r7 := HA2.out.bx.c7
    have r8 := HA2.out.bx.c8
    by_cases hk : R.kind = 2
    · have e1 : bkR R = ⟨0, 0, R.prev, 6, R.xid, R.page, R.slot, R.new, R.old, 0, ⟨#[]⟩, [], [], [], [], []⟩ := by unfold bkR; rw [if_pos hk, if_pos hk]
      have HE1 := hide (HBR.out.symm.trans e1)
      rw [hk] at r3
      clear e1 hk HBR
      have HT := hide ((HS2.out.one (q := ⟨0, 0, R.prev, 6, R.xid, R.page, R.slot, R.new, 0, 0, ⟨#[]⟩, [], [], [], [], []⟩) (M := noL) 7 (.int .i64 R.new) (by omega) rfl).one (q := ⟨0, 0, R.prev, 6, R.xid, R.page, R.slot, R.new, R.old, 0, ⟨#[]⟩, [], [], [], [], []⟩) (M := noL) 8 (.int .i64 R.old) (by omega) rfl)
      have ho7 := Only.setCell (S := fun k => k = bb) W ⟨bb, 7, none⟩ (.int .i64 R.new) rfl
      have ho8 := Only.setCell (S := fun k => k = bb) (W.setCell ⟨bb, 7, none⟩ (.int .i64 R.new)) ⟨bb, 8, none⟩ (.int .i64 R.old) rfl
      have HOT := hide (ho7.trans ho8 (fun _ _ h => h))
      have t7 := HS2.out.bx.c7
      have t8 := HS2.out.bx.c8
      have f7 := HS2.out.frozen 7 (by omega)
      have f8 := HS2.out.frozen 8 (by omega)
      clear ho7 ho8
      have hne : ¬ bb = w.heap.size := by have := HB4.out; omega
      have hne2 : ¬ w.heap.size = bb := by have := HB4.out; omega
      go_upto_region 5 with fail
      go_region
      all_goals (
        clear t7 t8 f7 f8 r7 r8 r3 HA2
        obtain ⟨W5, hW5⟩ : ∃ x, (W.setCell ⟨bb, 7, none⟩ (.int .i64 R.new)).setCell ⟨bb, 8, none⟩ (.int .i64 R.old) = x := ⟨_, rfl⟩
        rw [hW5] at HT HOT ⊢
        have HT2 := hide (HT.out.more (Only.drew _ W5))
        have HR3 := hide ((HR2.out.kept HOT.out (by have := HB4.out; omega)).more (Only.drew _ W5))
        have HO3 := hide (o2 (HO2.out.trans HOT.out (fun i hi e => by have := HB4.out; omega)) (Only.drew _ W5))
        clear hW5 HT HOT HR2 HO2 HS2
        go_wp2_with (first
          | (refine wpList_load_rc rfl (.tmp 4) rfl bb rfl _ noL HT2.out.range ?_; go_frame)
          | (refine wpList_put_rc rfl (.tmp 2) (.tmp 27) rfl (w.heap.size + 1) rfl noR _ noL noL rfl HR3.out (fun W HS => ?_); go_frame))
        refine bodyPost_ret (results_rc rfl rfl HS.out.1) rfl ?_
        rw [HE1.out]
        exact ⟨rfl, HO3.out.trans HS.out.2 (fun i hi e => by omega)⟩)
    · have hkb : (R.kind == 2) = false := by simpa using hk
      have e1 : bkR R = ⟨0, 0, R.prev, 6, R.xid, R.page, R.slot, 0, 0, 0, ⟨#[]⟩, [], [], [], [], []⟩ := by unfold bkR; rw [if_neg hk, if_neg hk]
      have HE1 := hide (HBR.out.symm.trans e1)
      clear e1 hk HBR
      go_wp2_with (first
        | (refine wpList_load_rc rfl (.tmp 4) rfl bb rfl _ noL HS2.out.range ?_; go_frame)
        | (refine wpList_put_rc rfl (.tmp 2) (.tmp 27) rfl (w.heap.size + 1) rfl noR _ noL noL rfl HR2.out (fun W HS => ?_); go_frame))
      refine bodyPost_ret (results_rc rfl rfl HS.out.1) rfl ?_
      rw [HE1.out]
      exact ⟨rfl, HO2.out.trans HS.out.2 (fun i hi e => by omega)⟩
end Go.Proofs.YtphofhicehncgaaGreat

namespace Go.Proofs.YtphofhicehncgaaGreat
open Go.RowKit Go.Lib

/-- All pages that a record names, one behind the other. -/
def touL (R : Rc) : List Int := R.images.map Im.page ++ (if ownK R.kind = true then [R.page] else [])
/-- What Touches answers: rising, each once. -/
def touS (R : Rc) : List Int := compact ((touL R).mergeSort fun x y => decide (x ≤ y))
theorem comp_upto (s : List Int) (hs : s.Pairwise (· ≤ ·)) (m : Nat) (hm : m ≤ s.length) : (compactUpTo s.toArray m).Pairwise (· < ·) ∧ ∀ x, x ∈ compactUpTo s.toArray m ↔ x ∈ s.take m := by
  induction m with
  | zero => exact ⟨by simp [compactUpTo], fun x => by simp [compactUpTo]⟩
  | succ m ih =>
    obtain ⟨h1, h2⟩ := ih (by omega)
    have hm' : m < s.length := by omega
    have e1 : s.toArray[m]! = s[m] := by simp [hm']
    have e3 : ∀ x, x ∈ s.take (m + 1) ↔ x ∈ s.take m ∨ x = s[m] := by
      intro x
      rw [List.take_succ_eq_append_getElem hm', List.mem_append, List.mem_singleton]
    rw [compactUpTo_succ]
    by_cases hk : keeps s.toArray m = true
    · rw [if_pos hk, e1]
      refine ⟨?_, fun x => by rw [e3, List.mem_append, h2]; simp⟩
      rw [List.pairwise_append]
      refine ⟨h1, List.pairwise_singleton _ _, fun x hx y hy => ?_⟩
      simp only [List.mem_singleton] at hy
      subst hy
      obtain ⟨i, hi, hx2⟩ := List.mem_take_iff_getElem.1 ((h2 x).1 hx)
      have hi' : i < m := by omega
      have hm0 : 0 < m := by omega
      have e2 : s.toArray[m - 1]! = s[m - 1] := by simp [show m - 1 < s.length by omega]
      have hne : s[m] ≠ s[m - 1] := by
        have := hk
        unfold keeps at this
        rw [e1, e2, decide_eq_true_iff] at this
        rcases this with h | h
        · omega
        · exact h
      have hle : ∀ i j (hi : i < s.length) (hj : j < s.length), i ≤ j → s[i] ≤ s[j] := by
        intro i j hi hj hij
        by_cases e : i = j
        · subst e; exact Int.le_refl _
        · exact List.pairwise_iff_getElem.1 hs i j hi hj (by omega)
      have l1 := hle i (m - 1) (by omega) (by omega) (by omega)
      have l2 := hle (m - 1) m (by omega) hm' (by omega)
      rw [← hx2]
      omega
    · rw [if_neg hk, List.append_nil]
      refine ⟨h1, fun x => ?_⟩
      rw [e3, h2]
      refine ⟨.inl, fun h => h.elim id (fun e => ?_)⟩
      have hm0 : ¬ m = 0 := fun e0 => hk (by rw [e0]; simp [keeps])
      have e2 : s.toArray[m - 1]! = s[m - 1] := by simp [show m - 1 < s.length by omega]
      have he : s[m] = s[m - 1] := by
        refine Classical.byContradiction fun h => hk ?_
        unfold keeps
        rw [e1, e2, decide_eq_true_iff]
        exact .inr h
      rw [e, he]
      exact List.mem_take_iff_getElem.2 ⟨m - 1, by omega, rfl⟩
theorem touS_rise (R : Rc) : (touS R).Pairwise (· < ·) ∧ ∀ x, x ∈ touS R ↔ x ∈ touL R := by
  have hs : ((touL R).mergeSort fun x y => decide (x ≤ y)).Pairwise (· ≤ ·) := by
    have := List.pairwise_mergeSort (le := fun x y : Int => decide (x ≤ y)) (fun a b c h1 h2 => by simp at *; omega) (fun a b => by simp; omega) (touL R)
    exact this.imp (fun h => by simpa using h)
  obtain ⟨h1, h2⟩ := comp_upto _ hs _ (Nat.le_refl _)
  refine ⟨h1, fun x => ?_⟩
  show x ∈ compactUpTo _ _ ↔ _
  rw [h2, List.take_length, List.mem_mergeSort]
theorem touS_len (R : Rc) : (touS R).length ≤ (touL R).length := by
  unfold touS compact compactUpTo
  rw [List.length_map]
  refine Nat.le_trans (List.length_filter_le _ _) ?_
  rw [List.length_range, List.length_mergeSort]
  exact Nat.le_refl _
end Go.Proofs.YtphofhicehncgaaGreat
