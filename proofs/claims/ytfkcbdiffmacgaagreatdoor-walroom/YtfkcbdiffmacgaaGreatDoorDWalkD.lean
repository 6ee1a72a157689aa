/- What New and Write do. -/
import Derived.Test.YtfkcbdiffmacgaaGreatDoorDWalkC
import Derived.Lib.LazyBuf
namespace Go.Proofs.YtfkcbdiffmacgaaGreatDoor
open Go.RowKit

theorem Tryz.infoSecs : (Tryz.prog.info? 87).map (fun i => (i.zero, i.size, i.bytes)) = some (some (sec (List.replicate 64 0)), 64, 64) := by kernel_rfl
theorem made_rep (n K : Nat) (v : Value) (hK : 0 < K) : (madeCells (List.replicate K v).toArray (n * K)).toList = List.replicate (n * K) v := by
  unfold madeCells
  refine List.ext_getElem? (fun i => ?_)
  by_cases hi : i < n * K
  · have : i % K < K := Nat.mod_lt _ hK
    simp [hi, this]
  · simp [hi]
theorem flat_rep (n K : Nat) (v : UInt8) : (List.replicate n (List.replicate K v)).flatten = List.replicate (n * K) v := by simp
theorem made_secs (n : Nat) : (madeCells (sec (List.replicate 64 0)).cells (n * 64)).toList = cells (List.replicate n (List.replicate 64 (0 : UInt8))).flatten := by
  have e1 : (sec (List.replicate 64 0)).cells = (List.replicate 64 (Value.int .u8 0)).toArray := by
    simp [sec, Value.cells, cells]
  rw [e1, flat_rep, made_rep n 64 _ (by omega)]
  unfold cells
  rw [List.map_replicate]
  rfl
theorem new_bad (w : World) (n : Int) (h : n < 1 ∨ 65536 < n) : Calls Tryz.prog 6 #[.int .i64 n] w fun e w' => e = .returned (.tuple #[.pointer none, .int .i64 1]) ∧ w' = w := by
  rcases h with h | h
  · go_enter Tryz.func6, Tryz.ntmps6
    go_wp2
    go_ret2
    exact ⟨rfl, rfl⟩
  · go_enter Tryz.func6, Tryz.ntmps6
    go_wp2
    go_ret2
    exact ⟨rfl, rfl⟩
theorem dsk_new (w : World) (n : Nat) (C : Array Value) (hC : C.toList = cells (List.replicate n (List.replicate 64 (0 : UInt8))).flatten) (h1 : 1 ≤ n) (h2 : n ≤ 65536) :
    Dsk (((w.alloc (.cells C 87)).alloc (.map #[] 0)).alloc (.cells #[.slice (some ⟨w.heap.size, 0, none⟩) n n, .map (some (w.heap.size + 1)), .int .i64 0, .int .i64 0, .bool false] 55)) (w.heap.size + 2) w.heap.size (w.heap.size + 1) (Dk.new n)
    ∧ Only (fun _ => False) w (((w.alloc (.cells C 87)).alloc (.map #[] 0)).alloc (.cells #[.slice (some ⟨w.heap.size, 0, none⟩) n n, .map (some (w.heap.size + 1)), .int .i64 0, .int .i64 0, .bool false] 55)) := by
  have hl : (Dk.new n).old.length = n := by simp [Dk.new]
  have s1 : (w.alloc (.cells C 87)).heap.size = w.heap.size + 1 := by simp
  have s2 : ((w.alloc (.cells C 87)).alloc (.map #[] 0)).heap.size = w.heap.size + 2 := by simp
  obtain ⟨W, hW⟩ : ∃ W, W = (w.alloc (.cells C 87)).alloc (.map #[] 0) := ⟨_, rfl⟩
  have a1 : Only (fun _ => False) w W := by rw [hW]; exact (Only.alloc _ _ _).trans (Only.alloc _ _ _) (fun _ _ h => h)
  have hold : OldAt W w.heap.size (Dk.new n).old := by
    refine ⟨⟨C, ?_, hC⟩, (Dk.new_ok h1 h2).o64⟩
    rw [hW, Below.heap_alloc _ _ _ (by simp)]
    exact heap_alloc_new w _
  have hmap : Frs W (w.heap.size + 1) (Dk.new n).old.length (Dk.new n).fresh := by
    refine ⟨0, .map [], ?_, FrsD.empty _⟩
    have := World.ownsMap_made (w.alloc (.cells C 87)) Tryz.prog 3 secElem
    rw [s1, ← hW] at this
    exact this
  rw [← hW] at s2 ⊢
  have a2 : Only (fun _ => False) W (W.alloc (.cells #[.slice (some ⟨w.heap.size, 0, none⟩) n n, .map (some (w.heap.size + 1)), .int .i64 0, .int .i64 0, .bool false] 55)) := Only.alloc _ _ _
  rw [← s2]
  refine ⟨⟨?_, ?_, ?_, ?_, ?_, ?_, by simp, hold.kept a2 id, hmap.kept a2 id, Dk.new_ok h1 h2, by omega, by omega, by omega⟩, a1.trans a2 (fun _ _ h => h)⟩
  · simp [hl]
  · simp
  · simp [Dk.new]
  · simp [Dk.new]
  · simp [Dk.new]
  · intro j
    simp
set_option maxRecDepth 100000 in
set_option maxHeartbeats 800000 in
theorem new_ok (w : World) (n : Nat) (h1 : 1 ≤ n) (h2 : n ≤ 65536) : Calls Tryz.prog 6 #[.int .i64 (n : Int)] w fun e w' =>
    e = .returned (.tuple #[.pointer (some ⟨w.heap.size + 2, 0, none⟩), .int .i64 0]) ∧ Dsk w' (w.heap.size + 2) w.heap.size (w.heap.size + 1) (Dk.new n) ∧ Only (fun _ => False) w w' := by
  obtain ⟨i0, hi, hz0, hz1, hz2⟩ := info_parts Tryz.infoSecs
  have hmk := run_make (P := Tryz.prog) w 52 87 i0 _ Tryz.underlying52 hi hz0 .i64 .i64 n n (by omega) (Int.le_refl _) (by rw [hz2]; omega) (by omega)
  rw [hz1] at hmk
  simp only [Int.toNat_natCast] at hmk
  have hms := made_secs n
  obtain ⟨C, hC⟩ : ∃ C, madeCells (sec (List.replicate 64 0)).cells (n * 64) = C := ⟨_, rfl⟩
  rw [hC] at hmk hms
  have HMS := hide hms
  clear hC hms hi hz0 hz1 hz2
  have hmm := @run_makeMap Tryz.prog
  go_enter Tryz.func6, Tryz.ntmps6
  go_wp2
  go_ret2
  exact ⟨rfl, dsk_new w n C HMS.out h1 h2⟩

theorem Frs.put {w : World} {m n : Nat} {f : Nat → Option (List UInt8)} (h : Frs w m n f) (hn : n ≤ 65536) {k : Nat} (hk : k < n) {b : List UInt8} (hb : b.length = 64) :
    ∃ w', (Instr.mapUpdate 53 (.map (some m)) (.int .i64 (k : Int)) (sec b)).run Tryz.prog w = .ok () w' ∧ Frs w' m n (fun j => if j = k then some b else f j) ∧ Only (fun i => i = m) w w' := by
  obtain ⟨N, D, hown, hD⟩ := h
  have hs := FrsD.size_le hown hD
  obtain ⟨w', h1, h2, h3⟩ := (tight hown).update keyed Tryz.underlying53 (by unfold maxLen; omega) (key_ok (k := k) (by omega)) (secElem_mk hb)
  exact ⟨w', h1, ⟨_, _, h2, hD.put hown.isMap hk b⟩, Only.grown h3 (fun i hi => by cases hi; rfl)⟩
theorem Dsk.put {w w' : World} {d g m : Nat} {D : Dk} (h : Dsk w d g m D) {k : Nat} {b : List UInt8} (hk : k < D.old.length) (hb : b.length = 64) (hf : Frs w' m D.old.length (fun j => if j = k then some b else D.fresh j)) (ho : Only (fun i => i = m) w w') : Dsk w' d g m (D.put k b) := by
  obtain ⟨c0, c1, c2, c3, c4, fz, lt, old, map, ok, n1, n2, n3⟩ := h
  exact ⟨(ho.cell (p := ⟨d, 0, none⟩) lt n2).trans c0, (ho.cell (p := ⟨d, 1, none⟩) lt n2).trans c1, (ho.cell (p := ⟨d, 2, none⟩) lt n2).trans c2, (ho.cell (p := ⟨d, 3, none⟩) lt n2).trans c3,
    (ho.cell (p := ⟨d, 4, none⟩) lt n2).trans c4, fun j => (ho.frozen (p := ⟨d, j, none⟩) lt n2).trans (fz j), Nat.lt_of_lt_of_le lt ho.size, old.kept ho n3, hf, ok.put hk hb, n1, n2, n3⟩
theorem copy_text (w : World) (b : Nat) (s : ByteArray) (hs : 64 ≤ s.size) (ht : w.there b 0 64) :
    (Builtin.copy_ #[60, 9] 3 #[.slice (some ⟨b, 0, none⟩) 64 64, .string s]).run Tryz.prog w = .ok (.int .i64 64) (w.setCells b 0 (cells (s.data.toList.take 64))) := by
  have hmin : Nat.min s.size 64 = 64 := Nat.min_eq_right hs
  have hl : (cells (s.data.toList.take 64)).length = 64 := by rw [cells_length, List.length_take, ← Lib.size_eq]; omega
  have hz : ∀ w, (Go.sizeOf 5).run Tryz.prog w = .ok 1 w := Tryz.sizeOf5
  have hst := run_storeCells_cells (P := Tryz.prog) b 0 (cells (s.data.toList.take 64)) 0 w (by rw [hl]; intro j hj; simpa using (ht j hj).1) (by rw [hl]; intro j hj; simpa using (ht j hj).2) (cells_one _)
  have e : (s.data.toList.map fun x => Value.int .u8 (x.toNat : Int)).take 64 = cells (s.data.toList.take 64) := by unfold cells; rw [List.map_take]
  simp [Builtin.copy_, run_underlying Tryz.underlying60, Builtin.lenOf, Builtin.firstCells, hz, hmin]
  rw [e, hst]
  rfl
theorem write_nil (w : World) (u v : Value) : Calls Tryz.prog 22 #[.pointer none, u, v] w fun e w' => e = .returned (.int .i64 2) ∧ w' = w := by
  go_enter Tryz.func22, Tryz.ntmps22
  go_wp2_with (first | (go_at_call 37; refine (usable_nil _).mono ?_; rintro e w' ⟨rfl, rfl⟩))
  go_ret
  exact ⟨rfl, rfl⟩
theorem write_dead (w : World) (d g m : Nat) (D : Dk) (h : Dsk w d g m D) (hd : D.dead = true) (u v : Value) : Calls Tryz.prog 22 #[.pointer (some ⟨d, 0, none⟩), u, v] w fun e w' => e = .returned (.int .i64 5) ∧ w' = w := by
  have hu := usable_any w d g m D h
  rw [hd] at hu
  clear hd h
  go_enter Tryz.func22, Tryz.ntmps22
  go_wp2_with (first | (go_at_call 37; refine hu.mono ?_; rintro e w' ⟨rfl, rfl⟩))
  go_ret
  exact ⟨rfl, rfl⟩
theorem write_bad (w : World) (d g m : Nat) (D : Dk) (h : Dsk w d g m D) (hd : D.dead = false) (a : Int) (s : ByteArray) (ha : -9223372036854775808 ≤ a ∧ a < 9223372036854775808) (hs : s.size < 9223372036854775808) (hb : s.size % 64 ≠ 0 ∨ hasB D.old.length a ((s.size / 64 : Nat) : Int) = false) :
    Calls Tryz.prog 22 #[.pointer (some ⟨d, 0, none⟩), .int .i64 a, .string s] w fun e w' => e = .returned (.int .i64 20) ∧ w' = w := by
  have hu := usable_any w d g m D h
  have hh := has_any w d g m D h a ((s.size / 64 : Nat) : Int) ha
  rw [hd] at hu
  by_cases h1 : s.size % 64 = 0
  · have e : hasB D.old.length a ((s.size / 64 : Nat) : Int) = false := by rcases hb with h | h; exact absurd h1 h; exact h
    rw [e] at hh
    have h1' : (s.size : Int) % 64 = 0 := by omega
    clear hd h hb e ha
    go_enter Tryz.func22, Tryz.ntmps22
    go_wp2_with (first | (go_at_call 37; refine hu.mono ?_; rintro e w' ⟨rfl, rfl⟩) | (go_at_call 38; refine hh.mono ?_; rintro e w' ⟨rfl, rfl⟩))
    go_ret
    exact ⟨rfl, rfl⟩
  · have h1' : ¬ (s.size : Int) % 64 = 0 := by omega
    clear hd h hb ha h1
    go_enter Tryz.func22, Tryz.ntmps22
    go_wp2_with (first | (go_at_call 37; refine hu.mono ?_; rintro e w' ⟨rfl, rfl⟩))
    go_ret
    exact ⟨rfl, rfl⟩
end Go.Proofs.YtfkcbdiffmacgaaGreatDoor
