/- Who runs and some snapshots, as they came in; what the bound on the bulk of the arguments gives. -/
import Derived.Test.YtolfmodgkkjnbaaGreatSOpen
import Derived.Test.YtolfmodgkkjnbaaGreatSLawF
import Derived.JoinedCond
namespace Go.Proofs.YtolfmodgkkjnbaaGreat
open Go.ChangeShapes Go.WideShapes Go.ChangeAt Go.RowKit Go.Deep

theorem Tryz.cellsSnapshots : Tryz.prog.cellsOf 44 = 1 := by kernel_rfl
theorem Tryz.cellsRuns : Tryz.prog.cellsOf 46 = 2 := by kernel_rfl
theorem bulk_pos {H : Type} (d : DataW H) : 1 ≤ Rows.uptoBulk d := by
  cases d with
  | lit l => cases l <;> simp [Rows.uptoBulk]
  | nil => simp [Rows.uptoBulk]
  | ptr _ => simp [Rows.uptoBulk]
  | slice _ _ => simp [Rows.uptoBulk]
  | agg _ => simp [Rows.uptoBulk]
  | iface _ _ => simp [Rows.uptoBulk]
  | map _ => simp [Rows.uptoBulk]
  | held _ => simp [Rows.uptoBulk]
theorem bulk_sum {H : Type} (l : List Nat) (D : Nat → DataW H) (f : Nat → Nat) (h : ∀ i ∈ l, f i ≤ Rows.uptoBulk (D i)) : (l.map f).sum ≤ Rows.uptoBulkAll (l.map D) := by
  induction l with
  | nil => simp
  | cons a t ih =>
    simp only [List.map_cons, List.sum_cons, Rows.uptoBulkAll]
    have h1 := h a (by simp)
    have h2 := ih (fun i hi => h i (List.mem_cons_of_mem _ hi))
    omega
set_option maxRecDepth 100000 in
theorem ns_of_trodB {H : Type} {enc : TypeId × Value → H} {W : World} {c : Value} {x : DataW H × List MemPlace} {n : Nat} (h : DataW.trod enc Tryz.prog W 0 (fun _ => true) true n 25 [c] = some x) :
    ∃ (B : Nat) (ao : Option Addr) (cp : Nat) (l : List Int), c = .slice ao l.length cp ∧ Ns W B ao l ∧ (ao = none → cp = 0) ∧ l.length ≤ Rows.uptoBulk x.1 := by
  rcases open_slice Tryz.underlying25 h with ⟨hcs, hx⟩ | ⟨a', len, cap, m, n, D, Pl, hcs, hb, hl, hm, hmm, hx, hit⟩
  · simp at hcs
    subst hcs
    exact ⟨0, none, 0, [], rfl, Ns.nil _ _ _, fun _ => rfl, by simp⟩
  · simp at hcs
    subst hcs
    have hlm : len ≤ m := by rw [hmm]; split <;> omega
    have one : ∀ i, i < len → ∃ z : Int, W.cell? (a'.add i) = some (.int .i64 z) ∧ I64 z := fun i hi => by
      obtain ⟨cs', h1, h2⟩ := hit i (by omega)
      rw [Tryz.cellsInt] at h1
      obtain ⟨_, hlen, hcell⟩ := World.cells?_some h1
      match cs', hlen with
      | [v0], _ =>
        obtain ⟨z, e0, _, wz⟩ := DataW.trod_int Tryz.underlying3 h2
        simp at e0
        subst e0
        have c0 := hcell 0 (by omega)
        rw [sadd_nought, Nat.mul_one] at c0
        have b0 := bounds_i64 wz
        exact ⟨z, by simpa using c0, b0.1, by omega⟩
    obtain ⟨q, hq⟩ := choose_lt (n := len) one
    have hlen : ((List.range len).map q).length = len := by simp
    have hmx : maxLen = 9223372036854775807 := rfl
    refine ⟨a'.block, some a', cap, (List.range len).map q, by rw [hlen], ⟨fun h0 => ?_, fun x hx => ?_, fun h0 => ?_, by rw [hlen]; omega⟩, (fun h => by cases h), ?_⟩
    · rw [hlen] at h0
      have c0 := (hq 0 (by omega)).1
      rw [sadd_nought] at c0
      have ha := cell_spot c0
      refine ⟨a'.off, by rw [← ha], fun j hj => ?_⟩
      rw [hlen] at hj
      have cj := (hq j (by omega)).1
      rw [ha, sadd_at] at cj
      rw [cj]
      simp
    · obtain ⟨i, hi, rfl⟩ := List.mem_map.1 hx
      exact (hq i (by simpa using hi)).2
    · rw [hlen] at h0
      have c0 := (hq 0 (by omega)).1
      rw [sadd_nought] at c0
      exact World.block_lt_of_cell? W _ c0
    · rw [hlen, hx]
      have := bulk_sum (H := H) (List.range len) D (fun _ => 1) (fun i _ => bulk_pos _)
      simp only [Rows.uptoBulk]
      simp only [List.map_const', List.length_range, List.sum_replicate_nat, Nat.mul_one] at this
      omega
set_option maxRecDepth 100000 in
theorem snap_of_trod {H : Type} {enc : TypeId × Value → H} {W : World} {cs : List Value} {x : DataW H × List MemPlace} {n : Nat} (h : DataW.trod enc Tryz.prog W 0 (fun _ => true) true n 27 cs = some x) (hl : cs.length = 2) :
    ∃ s : Int × List Int, (∃ B ao cp, cs = [.int .i64 s.1, .slice ao s.2.length cp] ∧ Ns W B ao s.2 ∧ (ao = none → cp = 0)) ∧ I64 s.1 ∧ 1 + s.2.length ≤ Rows.uptoBulk x.1 := by
  obtain ⟨xs, n', _, hx, _, hlen, hfs⟩ := DataW.trod_struct Tryz.underlying27 h
  match cs, hl with
  | [v0, v1], _ =>
    match xs, hlen with
    | [y0, y1], _ =>
      have g0 := hfs 0 _ rfl
      have g1 := hfs 1 _ rfl
      simp [Tryz.cellsInt, Tryz.cellsInts] at g0 g1
      obtain ⟨z, e1, _, wz⟩ := DataW.trod_int Tryz.underlying3 g0
      obtain ⟨B, ao, cp, l, e2, hN, hf, hb⟩ := ns_of_trodB g1
      simp at e1
      subst e1 e2
      have b1 := bounds_i64 wz
      have b0 := bulk_pos y0.1
      refine ⟨(z, l), ⟨B, ao, cp, rfl, hN, hf⟩, ⟨b1.1, by show z < _; omega⟩, ?_⟩
      rw [hx]
      simp only [Rows.uptoBulk, List.map_cons, List.map_nil, Rows.uptoBulkAll]
      show 1 + l.length ≤ _
      omega
set_option maxRecDepth 100000 in
theorem snaps_of_trod {H : Type} {enc : TypeId × Value → H} {W : World} {c : Value} {x : DataW H × List MemPlace} {fuel : Nat} (h : DataW.trod enc Tryz.prog W 0 (fun _ => true) true fuel 44 [c] = some x) :
    ∃ (B : Nat) (ao : Option Addr) (cp : Nat) (L : List (Int × List Int)), c = .slice ao L.length cp ∧ Sps W B ao L ∧ (∀ s ∈ L, ∀ y ∈ s.2, I64 y) ∧ (L.map (fun s => 1 + s.2.length)).sum ≤ Rows.uptoBulk x.1 := by
  rcases open_slice Tryz.underlying44 h with ⟨hcs, hx⟩ | ⟨a', len, cap, m, n, D, Pl, hcs, hb, hl, hm, hmm, hx, hit⟩
  · simp at hcs
    subst hcs
    exact ⟨0, none, 0, [], rfl, ⟨fun h => absurd h (by simp), fun _ h => by (cases h), fun h => absurd h (by simp), by simp⟩, fun _ h => by (cases h), by simp⟩
  · simp at hcs
    subst hcs
    have hlm : len ≤ m := by rw [hmm]; split <;> omega
    have each : ∀ i, i < len → ∃ s : Int × List Int, W.cell? (a'.add (i * 2)) = some (.int .i64 s.1) ∧ (∃ B ao cp, W.cell? (a'.add (i * 2 + 1)) = some (.slice ao s.2.length cp) ∧ Ns W B ao s.2 ∧ (ao = none → cp = 0)) ∧ I64 s.1 ∧ 1 + s.2.length ≤ Rows.uptoBulk (D i) := by
      intro i hi
      obtain ⟨cs', h1, h2⟩ := hit i (by omega)
      rw [Tryz.cellsSnapshot] at h1
      obtain ⟨_, hlen, hcell⟩ := World.cells?_some h1
      obtain ⟨s, ⟨B, ao, cp, e, hN, hf⟩, k1, k2⟩ := snap_of_trod h2 hlen
      subst e
      have c0 := hcell 0 (by omega)
      have c1 := hcell 1 (by omega)
      rw [add_add] at c0 c1
      exact ⟨s, by simpa using c0, ⟨B, ao, cp, by simpa using c1, hN, hf⟩, k1, k2⟩
    obtain ⟨q, hq⟩ := choose_lt (n := len) each
    have hlen : ((List.range len).map q).length = len := by simp
    have hmx : maxLen = 9223372036854775807 := rfl
    have hwf : ∀ s ∈ (List.range len).map q, I64 s.1 ∧ ∀ y ∈ s.2, I64 y := fun s hs => by
      obtain ⟨i, hi, rfl⟩ := List.mem_map.1 hs
      obtain ⟨_, ⟨B, ao, cp, _, hN, _⟩, k, _⟩ := hq i (by simpa using hi)
      exact ⟨k, hN.wf⟩
    refine ⟨a'.block, some a', cap, (List.range len).map q, by rw [hlen], ⟨fun h0 => ?_, fun s hs => (hwf s hs).1, fun h0 => ?_, by rw [hlen]; omega⟩, fun s hs => (hwf s hs).2, ?_⟩
    · rw [hlen] at h0
      have c0 := (hq 0 (by omega)).1
      rw [Nat.zero_mul, sadd_nought] at c0
      have ha := cell_spot c0
      refine ⟨a'.off, by rw [← ha], fun j hj => ?_⟩
      rw [hlen] at hj
      obtain ⟨k1, ⟨B, ao, cp, k2, k3, k4⟩, _, _⟩ := hq j (by omega)
      rw [ha, sadd_at] at k1 k2
      have e : ((List.range len).map q)[j]'(by rw [hlen]; exact hj) = q j := by simp
      rw [e]
      exact ⟨k1, B, ao, cp, k2, k3, k4⟩
    · rw [hlen] at h0
      have c0 := (hq 0 (by omega)).1
      rw [Nat.zero_mul, sadd_nought] at c0
      exact World.block_lt_of_cell? W _ c0
    · rw [hx, List.map_map]
      have := bulk_sum (H := H) (List.range len) D (fun i => 1 + (q i).2.length) (fun i hi => (hq i (by simpa using hi)).2.2.2)
      simp only [Rows.uptoBulk]
      have e : ((fun s : Int × List Int => 1 + s.2.length) ∘ q) = fun i => 1 + (q i).2.length := rfl
      rw [e]
      omega
set_option maxRecDepth 100000 in
theorem open_runs {H : Type} {enc : TypeId × Value → H} {W : World} {base : Nat} {v : Value} {d : DataW H} {ps : List MemPlace} (hok : Value.okWide Tryz.prog W .any base 46 v) (h : DataW.Trod enc Tryz.prog W 0 (fun _ => true) true 46 v d ps) :
    ∃ (B : Nat) (ao : Option Addr) (cp : Nat) (run : List Int) (B2 : Nat) (ao2 : Option Addr) (cp2 : Nat) (L : List (Int × List Int)), v = .agg #[.slice ao run.length cp, .slice ao2 L.length cp2] ∧ Ns W B ao run ∧ (ao = none → cp = 0) ∧ Sps W B2 ao2 L ∧ (∀ s ∈ L, ∀ y ∈ s.2, I64 y) ∧ run.length + (L.map (fun s => 1 + s.2.length)).sum ≤ Rows.uptoBulk d := by
  obtain ⟨cs, rfl, hs⟩ := okWide_struct Tryz.underlying46 hok
  obtain ⟨fuel, hf⟩ := h
  rw [Tryz.cellsRuns] at hs
  obtain ⟨xs, n, _, hx, _, hlen, hfs⟩ := DataW.trod_struct Tryz.underlying46 hf
  obtain ⟨c0, c1, rfl⟩ : ∃ c0 c1, cs = #[c0, c1] := by
    obtain ⟨l⟩ := cs
    match l, hs with
    | [a, b], _ => exact ⟨a, b, rfl⟩
  match xs, hlen with
  | [y0, y1], _ =>
    simp only [Prod.mk.injEq] at hx
    have g0 := hfs 0 _ rfl
    have g1 := hfs 1 _ rfl
    simp [Value.cells, Tryz.cellsInts, Tryz.cellsSnapshots] at g0 g1
    obtain ⟨B, ao, cp, run, e0, hN, hf0, hb0⟩ := ns_of_trodB g0
    obtain ⟨B2, ao2, cp2, L, e1, hS, hw, hb1⟩ := snaps_of_trod g1
    subst e0 e1
    refine ⟨B, ao, cp, run, B2, ao2, cp2, L, rfl, hN, hf0, hS, hw, ?_⟩
    rw [hx.1]
    simp only [Rows.uptoBulk, List.map_cons, List.map_nil, Rows.uptoBulkAll]
    omega
theorem hto_len (next : Int) (run : List Int) (L : List (Int × List Int)) : ∀ k, k ≤ L.length → (hto next run L k).length = 1 + run.length + ((L.take k).map (fun s => 1 + s.2.length)).sum
  | 0, _ => by simp [hto]; omega
  | k + 1, h => by
    have hk : k < L.length := h
    rw [hto_next hk, List.length_append, List.length_append, hto_len next run L k (by omega), List.take_succ_eq_append_getElem hk, List.map_append, List.sum_append]
    simp
    omega
theorem small {H : Type} {l : List (DataW H)} (hk : Rows.uptoSmall H l = true) : Rows.uptoBulkAll l ≤ 1048576 := of_decide_eq_true hk
end Go.Proofs.YtolfmodgkkjnbaaGreat
