/- The code's Held. -/
import Derived.Test.YtebijheonkagfaaGreatDoorKVi
namespace Go.Proofs.YtebijheonkagfaaGreatDoor
open Go.RowKit
theorem Tryz.infoXframe : (Tryz.prog.info? 101).map (fun i => (i.zero, i.size, i.bytes)) = some (some (.agg #[.int .i64 0, .int .i64 0, .int .i64 0, .int .i64 0, .int .i64 0, .string ⟨#[]⟩, .slice none 0 0, .bool false]), 8, 88) := by kernel_rfl
def noX : List Value := [.int .i64 (-1), .int .i64 0, .int .i64 0, .int .i64 0, .int .i64 0, .string ⟨#[]⟩, .slice none 0 0, .bool false]
def noXs (k : Nat) : List Value := (List.replicate k noX).flatten
theorem noXs_len (k : Nat) : (noXs k).length = k * 8 := by
  unfold noXs; rw [List.length_flatten, List.map_replicate, List.sum_replicate_nat]
  rfl
theorem noXs_succ (k : Nat) : noXs (k + 1) = noXs k ++ noX := by
  unfold noXs; rw [List.replicate_succ', List.flatten_append]
  simp
theorem noXs_get (k i j : Nat) (v : Value) (hi : i < k) (hj : noX[j]? = some v) : (noXs k)[i * 8 + j]? = some v := by
  have hj8 : j < 8 := (List.getElem?_eq_some_iff.1 hj).1
  induction k with
  | zero => omega
  | succ k ih =>
    rw [noXs_succ]
    by_cases e : i < k
    · rw [List.getElem?_append_left (by rw [noXs_len]; omega)]
      exact ih e
    · rw [List.getElem?_append_right (by rw [noXs_len]; omega), noXs_len, show i * 8 + j - k * 8 = j by omega]
      exact hj
theorem append_xframe (w : World) (ty : TypeId) (base : Nat) (v : Value) (k : Nat) (h : w.ownsRow base 101 8 v k (noXs k)) (hroom : k ≤ 100000) (hbase : base ≤ w.heap.size) :
    ∃ v' w', (Builtin.append_ #[97, 97] ty #[v, .slice (some ⟨w.heap.size, 0, none⟩) 1 1]).run Tryz.prog (w.alloc (.cells #[.int .i64 (-1), .int .i64 0, .int .i64 0, .int .i64 0, .int .i64 0, .string ⟨#[]⟩, .slice none 0 0, .bool false] 101)) = .ok v' w' ∧ w'.ownsRow base 101 8 v' (k + 1) (noXs (k + 1)) ∧ Only (fun q => base ≤ q) w w' := by
  obtain ⟨i0, hi, hz0, hz1, hz2⟩ := info_parts Tryz.infoXframe; have h' := own_kept h (onlyA w (.cells #[.int .i64 (-1), .int .i64 0, .int .i64 0, .int .i64 0, .int .i64 0, .string ⟨#[]⟩, .slice none 0 0, .bool false] 101)) (fun _ _ h => h)
  obtain ⟨v', w', hr, h2, h3, _, _⟩ := run_append_own_at (P := Tryz.prog) _ base 97 ty 101 i0 (.agg #[.int .i64 0, .int .i64 0, .int .i64 0, .int .i64 0, .int .i64 0, .string ⟨#[]⟩, .slice none 0 0, .bool false]) 8 88 Tryz.underlying97 hi hz0 hz1 hz2 rfl (by decide) v k _ h' ⟨w.heap.size, 0, none⟩ 1 1 noX rfl
    (fun j u hu => by
      rw [add_at]
      match j, hu with
      | 0, hu => simp [noX] at hu; rw [← hu]; simp
      | 1, hu => simp [noX] at hu; rw [← hu]; simp
      | 2, hu => simp [noX] at hu; rw [← hu]; simp
      | 3, hu => simp [noX] at hu; rw [← hu]; simp
      | 4, hu => simp [noX] at hu; rw [← hu]; simp
      | 5, hu => simp [noX] at hu; rw [← hu]; simp
      | 6, hu => simp [noX] at hu; rw [← hu]; simp
      | 7, hu => simp [noX] at hu; rw [← hu]; simp
      | j + 8, hu => simp [noX] at hu) (by intro u hu; simp [noX] at hu; rcases hu with rfl | rfl | rfl | rfl | rfl <;> rfl) (by unfold maxLen; omega) (by omega) (by simp; omega)
  refine ⟨v', w', hr, ?_, (Only.alloc (fun q => base ≤ q) w _).trans (Only.grown (S := fun q => base ≤ q) h3 (fun q hq => (World.ownsRow.lt h' q hq).1)) (fun _ _ h => h)⟩; rw [noXs_succ]
  exact h2
theorem own_slice8 {w : World} {base n : Nat} {e : TypeId} {v : Value} {xs : List Value} (h : w.ownsRow base e 8 v n xs) : ∃ ao ln cp, v = .slice ao ln cp := by
  rcases h.2 with ⟨rfl, _⟩ | ⟨g, cap, cur, rfl, _⟩
  · exact ⟨_, _, _, rfl⟩
  · exact ⟨_, _, _, rfl⟩
structure Nx (w W : World) (xd x pages k : Nat) (v : Value) : Prop where
  c0 : W.cell? ⟨w.heap.size, 0, none⟩ = some (.pointer (some ⟨xd, 0, none⟩))
  c1 : W.cell? ⟨w.heap.size, 1, none⟩ = some (.pointer (some ⟨x, 0, none⟩))
  c2 : W.cell? ⟨w.heap.size, 2, none⟩ = some (.int .i64 30)
  c3 : W.cell? ⟨w.heap.size, 3, none⟩ = some (.int .i64 (pages : Int))
  c4 : W.cell? ⟨w.heap.size, 4, none⟩ = some v
  c5 : W.cell? ⟨w.heap.size, 5, none⟩ = some (.slice none 0 0)
  fz : ∀ j, W.frozen? ⟨w.heap.size, j, none⟩ = false
  lt : w.heap.size < W.heap.size
  row : W.ownsRow (w.heap.size + 1) 101 8 v k (noXs k)
  only : Only (fun _ => False) w W
theorem Nx.start (w : World) (xd x pages : Nat) : Nx w (w.alloc (.cells #[.pointer (some ⟨xd, 0, none⟩), .pointer (some ⟨x, 0, none⟩), .int .i64 30, .int .i64 (pages : Int), .slice none 0 0, .slice none 0 0] 99)) xd x pages 0 (.slice none 0 0) :=
  ⟨by simp, by simp, by simp, by simp, by simp, by simp, fun j => by simp, by simp, ⟨rfl, .inl ⟨rfl, rfl⟩⟩, Only.alloc _ _ _⟩
theorem own_kept8 {S : Nat → Prop} {w w' : World} {base n : Nat} {e : TypeId} {v : Value} {xs : List Value} (h : w.ownsRow base e 8 v n xs) (ho : Only S w w') (hS : ∀ k, v.ownBlock = some k → ¬ S k) : w'.ownsRow base e 8 v n xs := own_kept h ho hS
theorem Nx.step {w W W2 : World} {xd x pages k : Nat} {v v' : Value} (h : Nx w W xd x pages k v) (ho : Only (fun q => w.heap.size + 1 ≤ q) W W2) (hr : W2.ownsRow (w.heap.size + 1) 101 8 v' (k + 1) (noXs (k + 1))) : Nx w (W2.setCell ⟨w.heap.size, 4, none⟩ v') xd x pages (k + 1) v' := by
  have hn : ¬ (w.heap.size + 1 ≤ w.heap.size) := by omega
  have k1 : ∀ (j : Nat) (u : Value), W.cell? ⟨w.heap.size, j, none⟩ = some u → W2.cell? ⟨w.heap.size, j, none⟩ = some u := fun j u hj => (ho.cell (p := ⟨w.heap.size, j, none⟩) h.lt hn).trans hj
  have k2 : ∀ (j : Nat) (u : Value), j ≠ 4 → W.cell? ⟨w.heap.size, j, none⟩ = some u → (W2.setCell ⟨w.heap.size, 4, none⟩ v').cell? ⟨w.heap.size, j, none⟩ = some u := fun j u hj hc => (World.cell?_setCell_other _ _ _ _ (by intro e; injection e with _ e; exact hj e.symm)).trans (k1 j u hc)
  have o3 : Only (fun q => q = w.heap.size) W2 (W2.setCell ⟨w.heap.size, 4, none⟩ v') := Only.setCell (S := fun q => q = w.heap.size) _ _ _ rfl; refine ⟨k2 _ _ (by decide) h.c0, k2 _ _ (by decide) h.c1, k2 _ _ (by decide) h.c2, k2 _ _ (by decide) h.c3, World.cell?_setCell_same _ _ _ (k1 4 _ h.c4), k2 _ _ (by decide) h.c5, fun j => ?_, Nat.lt_of_lt_of_le h.lt (Nat.le_trans ho.size o3.size), own_kept8 hr o3 (fun q hq e => ?_), (h.only.trans ho (fun i hi e => by omega)).trans o3 (fun i hi e => by omega)⟩
  · rw [World.frozen?_setCell]
    exact (ho.frozen (p := ⟨w.heap.size, j, none⟩) h.lt hn).trans (h.fz j)
  · have := (World.ownsRow.lt hr q hq).1
    omega
def NewX (w W : World) (xd x pages n : Nat) : Prop := ∃ fb cf, w.heap.size < fb ∧ fb < W.heap.size ∧ Xp W w.heap.size xd x fb cf 0 none 0 (Pl.new 30 pages n) [] (fun q => q ≠ w.heap.size ∧ q ≠ fb ∧ W.heap.size ≤ q)
theorem Nx.pool {w W : World} {xd x pages n : Nat} {v : Value} (h : Nx w W xd x pages n v) (hn1 : 1 ≤ n) (hn : n ≤ 1024) (hp1 : 1 ≤ pages) (hp : pages ≤ 8192) : NewX w W xd x pages n := by
  have hr := h.row
  rcases h.row.2 with ⟨rfl, h0⟩ | ⟨g, cap, cur, rfl, hb, hh, h1, h2, _⟩
  · omega
  · have hlt : g < W.heap.size := (Array.getElem?_eq_some_iff.1 hh).1
    have hl : (Pl.new 30 pages n).fs.length = n := by simp [Pl.new]
    have hce : ∀ i j u, i < n → noX[j]? = some u → W.cell? ⟨g, i * 8 + j, none⟩ = some u := fun i j u hi hj => by
      have := World.ownsRow.cells hr (g := g) rfl _ _ (noXs_get n i j u hi hj); rw [add_at] at this
      simpa using this
    refine ⟨g, cap, by omega, hlt, ⟨h.c0, h.c1, h.c2, h.c3, by rw [hl]; exact h.c4, h.c5, h.fz, h.lt, fun i hi => ?_, fun j => ?_, hlt, Prs.nil _ _ _, ⟨fun _ => rfl, by simp, by simp⟩, fun e => absurd e (by simp), by omega, fun e => e.1 rfl, fun e => e.2.1 rfl, by rw [hl]; exact ⟨hn1, hn⟩, ⟨hp1, hp⟩, by show (30 : Nat) ≤ 65536; omega, fun f hf => ?_, ⟨List.Pairwise.nil, (fun q z => ⟨(fun e => by cases e), (fun ⟨k, _, e⟩ => by cases e)⟩), (fun k e => by cases e)⟩, by simp, fun q hq => ⟨by have := h.lt; omega, by omega, hq⟩⟩⟩
    · have e : (Pl.new 30 pages n).fs[i] = Fm.none := by simp [Pl.new]
      rw [e]; rw [hl] at hi; refine ⟨⟨0, none, 0, fun j u hu => hce i j u hi hu, Strs.nil _ _ _, ⟨fun _ => rfl, by simp [Fm.none, Pg.none], by simp⟩, fun e => absurd e (by simp [Fm.none, Pg.none])⟩, by simp [Fm.none, Pg.none, ByteArray.size], by simp [Fm.none, Pg.none]⟩
    · unfold World.frozen?
      rw [hh]
      simp
    · have : f = Fm.none := by
        have hf' : f ∈ List.replicate n Fm.none := hf
        exact List.eq_of_mem_replicate hf'
      rw [this]
      exact .inl ⟨rfl, rfl⟩
set_option maxRecDepth 100000 in
set_option maxHeartbeats 3200000 in
theorem gpnew_ok (w : World) (xd a b c ka kb kc x : Nat) (D : Dk) (h : Xd w xd a b c ka kb kc D) (hD : D.old.length = 2000) (pages n : Nat) (hn1 : 1 ≤ n) (hn : n ≤ 1024) (hp1 : 1 ≤ pages) (hp : 30 + 8 * pages ≤ 2000) :
    Calls Tryz.prog 9 #[.pointer (some ⟨xd, 0, none⟩), .pointer (some ⟨x, 0, none⟩), .int .i64 30, .int .i64 (pages : Int), .int .i64 (n : Int)] w fun e w' =>
      e = .returned (.tuple #[.pointer (some ⟨w.heap.size, 0, none⟩), .int .i64 0]) ∧ NewX w w' xd x pages n ∧ Only (fun _ => False) w w' := by
  have HSZ := hide (xsize_any w xd a b c ka kb kc D h); rw [hD] at HSZ
  have i1 : ¬ (n : Int) < 1 := by omega
  have i2 : ¬ 1024 < (n : Int) := by omega
  have i3 : ¬ (pages : Int) < 1 := by omega
  have i4 : ¬ 8192 < (pages : Int) := by omega
  have i5 : ¬ 2000 < 30 + 8 * (pages : Int) := by omega
  have HN0 := hide (Nx.start w xd x pages); clear h hD
  go_enter Tryz.func9, Tryz.ntmps9
  go_wp2_with (go_at_call 48; refine HSZ.out.mono ?_; rintro e w' ⟨rfl, hw⟩; obtain rfl := hw.symm; clear hw)
  go_loopw [13] (fun i wr => ∃ (k : Nat) (v : Value), k ≤ n ∧ i = .int .i64 (k : Int) ∧ Hid (Nx w wr xd x pages k v)) (fun i _ => n - (intOf i).toNat)
  case atStart => exact ⟨0, _, Nat.zero_le _, rfl, HN0⟩
  case round =>
    obtain ⟨k, v, hk, rfl, HN⟩ := hrel
    by_cases hlt : k < n
    · have hkl : (k : Int) < (n : Int) := by omega
      obtain ⟨v', w2, hap, ow2, on2⟩ := append_xframe wr 97 (w.heap.size + 1) v k HN.out.row (by omega) (by have := HN.out.lt; omega); have HN2 := hide (HN.out.step on2 ow2); have c4 := HN.out.c4; have e4 : w2.cell? ⟨w.heap.size, 4, none⟩ = some v := (on2.cell (p := ⟨w.heap.size, 4, none⟩) HN.out.lt (fun e : w.heap.size + 1 ≤ w.heap.size => by omega)).trans HN.out.c4; have g4 : w2.frozen? ⟨w.heap.size, 4, none⟩ = false := (on2.frozen (p := ⟨w.heap.size, 4, none⟩) HN.out.lt (fun e : w.heap.size + 1 ≤ w.heap.size => by omega)).trans (HN.out.fz 4); obtain ⟨a1, n1, k1, rfl⟩ := own_slice8 HN.out.row; obtain ⟨a2, n2, k2, rfl⟩ := own_slice8 ow2; have R := hide hap; clear hap ow2 on2
      go_wp2_with (at_builtin; refine Lib.wpList_append_run _ rfl (.tmp 70) (.tmp 72) _ _ rfl _ _ rfl rfl _ _ R.out ?_)
      go_roundw
      case rel => exact ⟨k + 1, _, by omega, by go_num, HN2⟩
      case measure => simp [intOf]; omega
    · have hkl : ¬ (k : Int) < (n : Int) := by omega
      have ek : k = n := by omega
      subst ek; have HP := hide (HN.out.pool hn1 hn hp1 (by omega))
      go_wp2_with fail
      go_ret2
      exact ⟨rfl, HP.out, HN.out.only⟩
set_option maxRecDepth 100000 in
set_option maxHeartbeats 3200000 in
theorem gpnew_bad (w : World) (xd a b c ka kb kc x : Nat) (D : Dk) (h : Xd w xd a b c ka kb kc D) (hD : D.old.length = 2000) (pages n : Int) (hb : ¬ ((1 ≤ n ∧ n ≤ 1024) ∧ (1 ≤ pages ∧ pages ≤ 8192) ∧ 30 + 8 * pages ≤ 2000)) :
    Calls Tryz.prog 9 #[.pointer (some ⟨xd, 0, none⟩), .pointer (some ⟨x, 0, none⟩), .int .i64 30, .int .i64 pages, .int .i64 n] w fun e w' => e = .returned (.tuple #[.pointer none, .int .i64 1]) ∧ w' = w := by
  have HSZ := hide (xsize_any w xd a b c ka kb kc D h); rw [hD] at HSZ; clear h hD
  by_cases i1 : n < 1
  · clear hb
    go_enter Tryz.func9, Tryz.ntmps9
    go_wp2_with fail
    go_ret2
    exact ⟨rfl, rfl⟩
  · by_cases i2 : 1024 < n
    · clear hb
      go_enter Tryz.func9, Tryz.ntmps9
      go_wp2_with fail
      go_ret2
      exact ⟨rfl, rfl⟩
    · by_cases i3 : pages < 1
      · clear hb
        go_enter Tryz.func9, Tryz.ntmps9
        go_wp2_with fail
        go_ret2
        exact ⟨rfl, rfl⟩
      · by_cases i4 : 8192 < pages
        · clear hb
          go_enter Tryz.func9, Tryz.ntmps9
          go_wp2_with fail
          go_ret2
          exact ⟨rfl, rfl⟩
        · have i5 : 2000 < 30 + 8 * pages := by omega
          clear hb
          go_enter Tryz.func9, Tryz.ntmps9
          go_wp2_with (go_at_call 48; refine HSZ.out.mono ?_; rintro e w' ⟨rfl, hw⟩; obtain rfl := hw.symm; clear hw)
          go_ret2
          exact ⟨rfl, rfl⟩
set_option maxRecDepth 100000 in
set_option maxHeartbeats 3200000 in
theorem ofits_no (w : World) (d g m : Nat) (D : Dk) (h : Dsk w d g m D) (hD : D.old.length = 2000) (pages : Int) (hp1 : 1 ≤ pages) (hp : pages ≤ 8192) (hf : 2000 < 30 + 8 * pages) :
    Calls Tryz.prog 46 #[.pointer (some ⟨d, 0, none⟩), .int .i64 30, .int .i64 pages] w fun e w' => e = .returned (.bool false) ∧ Only (fun _ => False) w w' := by
  have HZ := hide (fun W (ho : Only (fun _ => False) w W) => size_any W d g m D (h.same ho)); rw [hD] at HZ
  have i1 : ¬ pages * 8 ≤ 1970 := by omega
  clear h hD
  go_enter Tryz.func46, Tryz.ntmps46
  go_wp2_with fail
  refine (HZ.out _ (Only.refl _ _)).mono ?_; rintro e w1 ⟨rfl, hw⟩; obtain rfl := hw.symm; clear hw
  go_wp2_with fail
  go_ret
  exact ⟨by simp; omega, Only.refl _ _⟩
set_option maxRecDepth 100000 in
set_option maxHeartbeats 3200000 in
theorem onew_bad (w : World) (d l g m : Nat) (D : Dk) (h : Dsk w d g m D) (hD : D.old.length = 2000) (pages n : Int) (hb : ¬ ((1 ≤ n ∧ n ≤ 1024) ∧ (1 ≤ pages ∧ pages ≤ 8192) ∧ 30 + 8 * pages ≤ 2000)) :
    Calls Tryz.prog 8 #[.pointer (some ⟨d, 0, none⟩), .pointer (some ⟨l, 0, none⟩), .int .i64 30, .int .i64 pages, .int .i64 n] w fun e w' => e = .returned (.tuple #[.pointer none, .int .i64 1]) ∧ Only (fun _ => False) w w' := by
  have HU1 := hide (upTo_any w 1024 n); have HU2 := hide (upTo_any w 8192 pages)
  by_cases i1 : 1 ≤ n ∧ n ≤ 1024
  · rw [decide_eq_true i1] at HU1
    by_cases i2 : 1 ≤ pages ∧ pages ≤ 8192
    · rw [decide_eq_true i2] at HU2
      have HF := hide (ofits_no w d g m D h hD pages i2.1 i2.2 (by omega)); clear hb h hD i1 i2
      go_enter Tryz.func8, Tryz.ntmps8
      go_wp2_with fail
      refine HU1.out.mono ?_; rintro e w1 ⟨rfl, hw⟩; obtain rfl := hw.symm; clear hw
      go_wp2_with fail
      refine HU2.out.mono ?_; rintro e w1 ⟨rfl, hw⟩; obtain rfl := hw.symm; clear hw
      go_wp2_with fail
      refine HF.out.mono ?_; rintro e w1 ⟨rfl, ho⟩; have HO := hide ho; clear ho
      go_wp2_with fail
      go_ret2
      exact ⟨rfl, HO.out⟩
    · rw [decide_eq_false i2] at HU2
      clear hb h hD i1 i2
      go_enter Tryz.func8, Tryz.ntmps8
      go_wp2_with fail
      refine HU1.out.mono ?_; rintro e w1 ⟨rfl, hw⟩; obtain rfl := hw.symm; clear hw
      go_wp2_with fail
      refine HU2.out.mono ?_; rintro e w1 ⟨rfl, hw⟩; obtain rfl := hw.symm; clear hw
      go_wp2_with fail
      go_ret2
      exact ⟨rfl, Only.refl _ _⟩
  · rw [decide_eq_false i1] at HU1
    clear hb h hD i1
    go_enter Tryz.func8, Tryz.ntmps8
    go_wp2_with fail
    refine HU1.out.mono ?_; rintro e w1 ⟨rfl, hw⟩; obtain rfl := hw.symm; clear hw
    go_wp2_with fail
    go_ret2
    exact ⟨rfl, Only.refl _ _⟩
theorem frow_of_own {w : World} {base g n cp : Nat} {e : TypeId} {xs : List Value} (h : w.ownsRow base e 1 (.slice (some ⟨g, 0, none⟩) n cp) n xs) (f : Nat → Value) (hf : ∀ k, k < n → xs[k]? = some (f k)) : FRow w g e n f := by
  have h' := h
  rcases h.2 with ⟨hv, _⟩ | ⟨g', cap, cur, hv, hb, hh, _⟩
  · cases hv
  · injection hv with e1 e2 e3
    injection e1 with e1
    injection e1 with e1 e4
    subst e1; refine ⟨cur, hh, fun k hk => ?_⟩; have hc := World.ownsRow.cells h' (g := g) rfl k (f k) (hf k hk); rw [add_at, cell_of_row w g _ cur _ _ hh] at hc
    simpa using hc
set_option maxRecDepth 100000 in
set_option maxHeartbeats 1600000 in
theorem oheld_any (w : World) (p d l fb mb : Nat) (P : Pl) (T : Nat → Prop) (h : PoolAt w p d l fb mb P T) :
    Calls Tryz.prog 34 #[.pointer (some ⟨p, 0, none⟩)] w fun e w' => e = .returned (.slice (some ⟨w.heap.size, 0, none⟩) P.fs.length P.fs.length) ∧ FRow w' w.heap.size 3 P.fs.length (fun k => .int .i64 ((P.fs.getD k Fm.none).num)) ∧ Only (fun _ => False) w w' := by
  have hnf := h.nf.2; obtain ⟨i0, hi, hz0, hz1, hz2⟩ := info_parts Tryz.infoInt; obtain ⟨w1, hmk, hown, hgr⟩ := run_make_full (P := Tryz.prog) w w.heap.size 54 3 i0 (.int .i64 0) 1 Tryz.underlying54 hi hz0 hz1 .i64 .i64 P.fs.length (by rw [hz2]; omega) (by unfold maxLen; omega) (Nat.le_refl _); have hon : Only (fun _ => False) w w1 := Only.grown hgr (fun k hk => by cases hk)
  have HR0 : Hid (FRow w1 w.heap.size 3 P.fs.length (fun _ => .int .i64 0)) := frow_of_own hown _ (fun k hk => by
    have e1 : (Value.int IntKind.i64 0).cells = #[.int .i64 0] := rfl; rw [e1, toList_madeCells_one]
    simp [hk])
  have HX := hide h; have HON := hide hon; have c4 := h.c4; have d4 := (h.more hon).c4; clear h hown hgr hon
  go_enter Tryz.func34, Tryz.ntmps34
  go_wp2_with fail
  go_loopw [18] (fun i wr => ∃ (k : Nat), k ≤ P.fs.length ∧ i = .int .i64 (k : Int) ∧ Hid (FRow wr w.heap.size 3 P.fs.length (fun j => if j < k then .int .i64 ((P.fs.getD j Fm.none).num) else .int .i64 0)) ∧ Hid (Only (fun _ => False) w wr)) (fun i _ => P.fs.length - (intOf i).toNat)
  case atStart => exact ⟨0, Nat.zero_le _, rfl, hide (HR0.out.congr (fun j _ => by simp)), HON⟩
  case round =>
    obtain ⟨k, hk, rfl, HR, HO⟩ := hrel; clear c4 d4; have HXr := hide (HX.out.more HO.out); have c4 := HXr.out.c4
    by_cases hlt : k < P.fs.length
    · have hkl : (k : Int) < (P.fs.length : Int) := by omega
      have e6 := (HXr.out.fr k hlt).cells.2.1
      have hg : P.fs.getD k Fm.none = P.fs[k] := by simp [hlt]
      obtain ⟨z, hz⟩ : ∃ z, P.fs[k].num = z := ⟨_, rfl⟩; rw [hz] at e6; have ck := HR.out.cell hlt; simp only [Nat.lt_irrefl, if_false] at ck; have fk := HR.out.frozen k
      have HR2 : Hid (FRow (wr.setCell ⟨w.heap.size, k, none⟩ (.int .i64 z)) w.heap.size 3 P.fs.length (fun j => if j < k + 1 then .int .i64 ((P.fs.getD j Fm.none).num) else .int .i64 0)) := by
        refine HR.out.set hlt _ ?_ (fun j hj => ?_)
        · simp only [Nat.lt_succ_self, if_true]
          rw [hg, hz]
        · by_cases e : j < k
          · rw [if_pos (by omega), if_pos e]
          · rw [if_neg (by omega), if_neg e]
      have HO2 : Hid (Only (fun _ => False) w (wr.setCell ⟨w.heap.size, k, none⟩ (.int .i64 z))) := HO.out.trans (Only.setCell (S := fun q => q = w.heap.size) _ _ _ rfl) (fun i hi e => by omega); clear hg hz
      go_wp2_with fail
      go_roundw
      case rel => exact ⟨k + 1, by omega, by go_num, HR2, HO2⟩
      case measure => simp [intOf]; omega
    · have hkl : ¬ (k : Int) < (P.fs.length : Int) := by omega
      have HR2 := hide (HR.out.congr (f' := fun k => .int .i64 ((P.fs.getD k Fm.none).num)) (fun j hj => by rw [if_pos (by omega)]))
      go_wp2_with fail
      go_ret
      exact ⟨rfl, HR2.out, HO.out⟩
end Go.Proofs.YtebijheonkagfaaGreatDoor
