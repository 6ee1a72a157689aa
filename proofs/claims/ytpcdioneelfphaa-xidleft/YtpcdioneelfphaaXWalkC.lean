/- What the document's Gap and Before do; a counter in memory; Next, Frozen, inUse, Left. -/
import Derived.Test.YtpcdioneelfphaaXWalkB
namespace Go.Proofs.Ytpcdioneelfphaa
open Go.RowKit

set_option maxHeartbeats 400000 in
theorem xgap_any (m a b : Int) (w : World) (hm : I64 m) (ha : I64 a) (hb : I64 b) :
    Calls Try.prog 12 #[.int .i64 m, .int .i64 a, .int .i64 b] w fun e w' => e = .returned (.int .i64 (xgap m a b)) ∧ w' = w := by
  have hc := right_any m w hm
  have hd := id_any m a w hm ha
  have he := id_any m b w hm hb
  by_cases hM : Md m
  · rw [decide_eq_true hM] at hc
    by_cases hI : 1 ≤ a ∧ a ≤ m
    · rw [decide_eq_true hI] at hd
      by_cases hJ : 1 ≤ b ∧ b ≤ m
      · rw [decide_eq_true hJ] at he
        have hlt := xgap_lt (m := m) (a := a) (b := b) ⟨hM, hI⟩ ⟨hM, hJ⟩
        have hg := fun n => gap_first (m := m) (a := a) (b := b) (n := n) ⟨hM, hI⟩ ⟨hM, hJ⟩
        have hA : Hid (∀ n : Int, 0 ≤ n → n < 2000 → ∀ w, Calls Try.prog 10 #[.int .i64 m, .int .i64 a, .int .i64 n] w fun e w' => e = .returned (.int .i64 (xadd m a n)) ∧ w' = w) := fun n h0 h1 w => xadd_any m a n w hm ha (I64.of (by omega) (by omega))
        have hm1 := hM.2.1
        clear hM hI hJ hm ha hb
        obtain ⟨g, hgg⟩ : ∃ g, xgap m a b = g := ⟨_, rfl⟩
        rw [hgg] at hlt
        rw [hgg]
        simp only [hgg] at hg
        clear hgg
        have HG := hide hg
        clear hg
        go_enter Try.func12, Try.ntmps12
        go_wp2_with fail
        go_at_call 28
        refine hc.mono ?_
        rintro e w' ⟨rfl, hw⟩; obtain rfl := hw.symm; clear hw
        go_wp2_with fail
        go_at_call 29
        refine hd.mono ?_
        rintro e w' ⟨rfl, hw⟩; obtain rfl := hw.symm; clear hw
        go_wp2_with fail
        go_at_call 29
        refine he.mono ?_
        rintro e w' ⟨rfl, hw⟩; obtain rfl := hw.symm; clear hw
        go_wp2_with fail
        clear hc hd he
        go_loop [7] (fun i => ∃ n : Int, i = .int .i64 n ∧ 0 ≤ n ∧ n ≤ g) (fun i => (g - intOf i).toNat)
        case atStart => exact ⟨0, rfl, by omega, by omega⟩
        case round =>
          obtain ⟨n, rfl, hn0, hn1⟩ := hrel
          have hiff := HG.out n hn0 hn1
          have hcall := fun w => hA.out n hn0 (by omega) w
          obtain ⟨v, hv⟩ : ∃ v, xadd m a n = v := ⟨_, rfl⟩
          simp only [hv] at hcall
          rw [hv] at hiff
          clear hv
          by_cases hlast : n = g
          · have hvb : (v == b) = true := by simpa using hiff.2 hlast
            have hgn := hide hlast.symm
            clear hiff hlast
            go_wp2_with (first
              | (go_at_call 10; refine (hcall _).mono ?_; rintro e w' ⟨rfl, hw⟩; obtain rfl := hw.symm; clear hw))
            go_ret
            refine ⟨?_, rfl⟩
            rw [hgn.out]
            rfl
          · have hvb : (v == b) = false := by
              have : ¬ v = b := fun e => hlast (hiff.1 e)
              simpa using this
            have hlt2 : n < g := by omega
            clear hiff hlast
            go_wp2_with (first
              | (go_at_call 10; refine (hcall _).mono ?_; rintro e w' ⟨rfl, hw⟩; obtain rfl := hw.symm; clear hw))
            go_round
            case rel => exact ⟨n + 1, by go_num, by omega, by omega⟩
            case measure => simp [intOf]; omega
      · rw [decide_eq_false hJ] at he
        have hq : xgap m a b = 0 := by unfold xgap; rw [if_neg (fun h => hJ h.2.2)]
        rw [hq]
        clear hI hJ hM hq hm ha hb
        go_enter Try.func12, Try.ntmps12
        go_wp2_with fail
        go_at_call 28
        refine hc.mono ?_
        rintro e w' ⟨rfl, hw⟩; obtain rfl := hw.symm; clear hw
        go_wp2_with fail
        go_at_call 29
        refine hd.mono ?_
        rintro e w' ⟨rfl, hw⟩; obtain rfl := hw.symm; clear hw
        go_wp2_with fail
        go_at_call 29
        refine he.mono ?_
        rintro e w' ⟨rfl, hw⟩; obtain rfl := hw.symm; clear hw
        go_wp2_with fail
        go_ret
        exact ⟨rfl, rfl⟩
    · rw [decide_eq_false hI] at hd
      have hq : xgap m a b = 0 := by unfold xgap; rw [if_neg (fun h => hI h.1.2)]
      rw [hq]
      clear hI hM hq hm ha hb he
      go_enter Try.func12, Try.ntmps12
      go_wp2_with fail
      go_at_call 28
      refine hc.mono ?_
      rintro e w' ⟨rfl, hw⟩; obtain rfl := hw.symm; clear hw
      go_wp2_with fail
      go_at_call 29
      refine hd.mono ?_
      rintro e w' ⟨rfl, hw⟩; obtain rfl := hw.symm; clear hw
      go_wp2_with fail
      go_ret
      exact ⟨rfl, rfl⟩
  · rw [decide_eq_false hM] at hc
    have hq : xgap m a b = 0 := by unfold xgap; rw [if_neg (fun h => hM h.1.1)]
    rw [hq]
    clear hM hq hm ha hb he hd
    go_enter Try.func12, Try.ntmps12
    go_wp2_with fail
    go_at_call 28
    refine hc.mono ?_
    rintro e w' ⟨rfl, hw⟩; obtain rfl := hw.symm; clear hw
    go_wp2_with fail
    go_ret
    exact ⟨rfl, rfl⟩
theorem xbefore_any (m a b : Int) (w : World) (hm : I64 m) (ha : I64 a) (hb : I64 b) :
    Calls Try.prog 14 #[.int .i64 m, .int .i64 a, .int .i64 b] w fun e w' => e = .returned (.bool (xbef m a b)) ∧ w' = w := by
  have hc := xgap_any m a b w hm ha hb
  have hbd := xgap_bd (m := m) (a := a) (b := b)
  have hid := xgap_id (m := m) (a := a) (b := b)
  obtain ⟨k, hk⟩ : ∃ k, xgap m a b = k := ⟨_, rfl⟩
  have hX : xbef m a b = decide (1 ≤ k ∧ k ≤ m / 2 - 1) := by unfold xbef; rw [hk]
  rw [hX]
  rw [hk] at hc hbd hid
  clear hX hk hm ha hb
  by_cases h1 : 1 ≤ k
  · obtain ⟨h16, h1024⟩ := hid h1
    clear hid
    by_cases h2 : k ≤ m / 2 - 1
    · rw [show decide (1 ≤ k ∧ k ≤ m / 2 - 1) = true from by simp [h1, h2]]
      go_enter Try.func14, Try.ntmps14
      go_wp2_with (first
        | (go_at_call 12; refine hc.mono ?_; rintro e w' ⟨rfl, hw⟩; obtain rfl := hw.symm; clear hw))
      go_ret
      exact ⟨rfl, rfl⟩
    · rw [show decide (1 ≤ k ∧ k ≤ m / 2 - 1) = false from by simp [h2]]
      have hd : decide (k ≤ m / 2 - 1) = false := decide_eq_false h2
      go_enter Try.func14, Try.ntmps14
      go_wp2_with (first
        | (go_at_call 12; refine hc.mono ?_; rintro e w' ⟨rfl, hw⟩; obtain rfl := hw.symm; clear hw))
      go_ret
      exact ⟨rfl, rfl⟩
  · rw [show decide (1 ≤ k ∧ k ≤ m / 2 - 1) = false from by simp [h1]]
    clear hid
    go_enter Try.func14, Try.ntmps14
    go_wp2_with (first
      | (go_at_call 12; refine hc.mono ?_; rintro e w' ⟨rfl, hw⟩; obtain rfl := hw.symm; clear hw))
    go_ret
    exact ⟨rfl, rfl⟩
/-- A counter in block c. -/
structure Cnt (w : World) (c : Nat) (m n f : Int) : Prop where
  c0 : w.cell? ⟨c, 0, none⟩ = some (.int .i64 m)
  c1 : w.cell? ⟨c, 1, none⟩ = some (.int .i64 n)
  c2 : w.cell? ⟨c, 2, none⟩ = some (.int .i64 f)
  fz : ∀ k, w.frozen? ⟨c, k, none⟩ = false
  lt : c < w.heap.size
  idn : Idd m n
  idf : Idd m f
  gap : xgap m f n ≤ m / 2 - 2
theorem Cnt.kept {S : Nat → Prop} {w w' : World} {c : Nat} {m n f : Int} (h : Cnt w c m n f) (ho : Only S w w') (hS : ¬ S c) : Cnt w' c m n f :=
  ⟨(ho.cell h.lt hS).trans h.c0, (ho.cell h.lt hS).trans h.c1, (ho.cell h.lt hS).trans h.c2, fun k => (ho.frozen (p := ⟨c, k, none⟩) h.lt hS).trans (h.fz k), Nat.lt_of_lt_of_le h.lt ho.size, h.idn, h.idf, h.gap⟩
theorem onlyN (S : Nat → Prop) (w : World) (n : Nat) : Only S w (w.drewN n) := ⟨rfl, rfl, rfl, Nat.le_refl _, fun _ _ _ => rfl⟩
theorem Cnt.drew {w : World} {c : Nat} {m n f : Int} (h : Cnt w c m n f) (k : Nat) : Cnt (w.drewN k) c m n f := h.kept (onlyN (fun _ => False) w k) (fun h => h)
theorem Cnt.new {w : World} {t : TypeId} {m n f : Int} (h1 : Idd m n) (h2 : Idd m f) (h3 : xgap m f n ≤ m / 2 - 2) : Cnt (w.alloc (.cells #[.int .i64 m, .int .i64 n, .int .i64 f] t)) w.heap.size m n f := by
  have hh := heap_alloc_new w (.cells #[.int .i64 m, .int .i64 n, .int .i64 f] t)
  refine ⟨?_, ?_, ?_, ?_, by simp, h1, h2, h3⟩
  · unfold World.cell?; simp only [hh]; rfl
  · unfold World.cell?; simp only [hh]; rfl
  · unfold World.cell?; simp only [hh]; rfl
  · intro k; unfold World.frozen?; simp only [hh]; simp
theorem Cnt.set1 {w : World} {c : Nat} {m n f : Int} (h : Cnt w c m n f) (v : Int) (hi : Idd m v) (hg : xgap m f v ≤ m / 2 - 2) : Cnt (w.setCell ⟨c, 1, none⟩ (.int .i64 v)) c m v f ∧ Only (fun k => k = c) w (w.setCell ⟨c, 1, none⟩ (.int .i64 v)) := by
  refine ⟨⟨?_, ?_, ?_, ?_, ?_, hi, h.idf, hg⟩, Only.setCell (S := fun k => k = c) w ⟨c, 1, none⟩ _ rfl⟩
  · rw [World.cell?_setCell_other _ _ _ _ (by simp)]; exact h.c0
  · exact World.cell?_setCell_same _ _ _ h.c1
  · rw [World.cell?_setCell_other _ _ _ _ (by simp)]; exact h.c2
  · intro k; rw [World.frozen?_setCell]; exact h.fz k
  · have := (Only.setCell (S := fun k => k = c) w ⟨c, 1, none⟩ (.int .i64 v) rfl).size; have := h.lt; omega
theorem Cnt.set2 {w : World} {c : Nat} {m n f : Int} (h : Cnt w c m n f) (v : Int) (hi : Idd m v) (hg : xgap m v n ≤ m / 2 - 2) : Cnt (w.setCell ⟨c, 2, none⟩ (.int .i64 v)) c m n v ∧ Only (fun k => k = c) w (w.setCell ⟨c, 2, none⟩ (.int .i64 v)) := by
  refine ⟨⟨?_, ?_, ?_, ?_, ?_, h.idn, hi, hg⟩, Only.setCell (S := fun k => k = c) w ⟨c, 2, none⟩ _ rfl⟩
  · rw [World.cell?_setCell_other _ _ _ _ (by simp)]; exact h.c0
  · rw [World.cell?_setCell_other _ _ _ _ (by simp)]; exact h.c1
  · exact World.cell?_setCell_same _ _ _ h.c2
  · intro k; rw [World.frozen?_setCell]; exact h.fz k
  · have := (Only.setCell (S := fun k => k = c) w ⟨c, 2, none⟩ (.int .i64 v) rfl).size; have := h.lt; omega
theorem next_any (w : World) (c : Nat) (m n f : Int) (h : Cnt w c m n f) : Calls Try.prog 22 #[.pointer (some ⟨c, 0, none⟩)] w fun e w' => e = .returned (.int .i64 n) ∧ w' = w := by
  have h1 := h.c1
  go_enter Try.func22, Try.ntmps22
  go_wp2
  go_ret
  exact ⟨rfl, rfl⟩
theorem next_nil (w : World) : Calls Try.prog 22 #[.pointer none] w fun e w' => e = .returned (.int .i64 0) ∧ w' = w := by
  go_enter Try.func22, Try.ntmps22
  go_wp2
  go_ret
  exact ⟨rfl, rfl⟩
theorem frozen_any (w : World) (c : Nat) (m n f : Int) (h : Cnt w c m n f) : Calls Try.prog 23 #[.pointer (some ⟨c, 0, none⟩)] w fun e w' => e = .returned (.int .i64 f) ∧ w' = w := by
  have h1 := h.c2
  go_enter Try.func23, Try.ntmps23
  go_wp2
  go_ret
  exact ⟨rfl, rfl⟩
theorem frozen_nil (w : World) : Calls Try.prog 23 #[.pointer none] w fun e w' => e = .returned (.int .i64 0) ∧ w' = w := by
  go_enter Try.func23, Try.ntmps23
  go_wp2
  go_ret
  exact ⟨rfl, rfl⟩
theorem Idd.i64 {m x : Int} (h : Idd m x) : I64 m ∧ I64 x := by
  have h1 := h.1.1
  have h2 := h.1.2.1
  have h3 := h.2
  exact ⟨⟨by omega, by omega⟩, ⟨by omega, by omega⟩⟩
theorem inUse_any (w : World) (c : Nat) (m n f : Int) (h : Cnt w c m n f) : Calls Try.prog 31 #[.pointer (some ⟨c, 0, none⟩)] w fun e w' => e = .returned (.int .i64 (xgap m f n)) ∧ ∃ k, w' = w.drewN k := by
  have h0 := h.c0
  have h1 := h.c1
  have h2 := h.c2
  have hc : Hid (∀ w, Calls Try.prog 11 #[.int .i64 m, .int .i64 f, .int .i64 n] w fun e w' => e = .returned (.int .i64 (xgap m f n)) ∧ w' = w) := fun w => gap_any m f n w h.idn.i64.1 h.idf.i64.2 h.idn.i64.2
  clear h
  go_enter Try.func31, Try.ntmps31
  go_wp2_with fail
  go_quiet ((go_at_call 11; exact Calls.quiet_of_same (hc.out _)))
  go_wp2
  go_ret
  exact ⟨rfl, _, rfl⟩
end Go.Proofs.Ytpcdioneelfphaa
