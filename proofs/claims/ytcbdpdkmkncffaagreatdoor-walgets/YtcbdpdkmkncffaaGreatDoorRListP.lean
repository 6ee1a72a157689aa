/- What takeList does with pairs. -/
import Derived.Test.YtcbdpdkmkncffaaGreatDoorRList
namespace Go.Proofs.YtcbdpdkmkncffaaGreatDoor
open Go.RowKit

theorem Tryz.infoOwed : (Tryz.prog.info? 82).map (fun i => (i.zero, i.size, i.bytes)) = some (some (.agg #[.int .i64 0, .int .i64 0]), 2, 16) := by kernel_rfl
theorem append_owed (w : World) (ty : TypeId) (base : Nat) (v : Value) (l : List (Int × Int)) (h : w.ownsRow base 82 2 v l.length (l.flatMap prc)) (z : Int × Int) (hroom : l.length ≤ 100000) (hbase : base ≤ w.heap.size) :
    ∃ v' w', (Builtin.append_ #[34, 34] ty #[v, .slice (some ⟨w.heap.size, 0, none⟩) 1 1]).run Tryz.prog (w.alloc (.cells #[.int .i64 z.1, .int .i64 z.2] 82)) = .ok v' w' ∧ w'.ownsRow base 82 2 v' (l ++ [z]).length ((l ++ [z]).flatMap prc) ∧ Only (fun k => base ≤ k) w w' := by
  obtain ⟨i0, hi, hz0, hz1, hz2⟩ := info_parts Tryz.infoOwed
  have h' := own_kept h (onlyA w (.cells #[.int .i64 z.1, .int .i64 z.2] 82)) (fun _ _ h => h)
  obtain ⟨v', w', hr, h2, h3, _, _⟩ := run_append_own_at (P := Tryz.prog) _ base 34 ty 82 i0 (.agg #[.int .i64 0, .int .i64 0]) 2 16 Tryz.underlying34 hi hz0 hz1 hz2 rfl (by decide) v l.length _ h' ⟨w.heap.size, 0, none⟩ 1 1 (prc z) rfl
    (fun j u hu => by
      match j, hu with
      | 0, hu => simp [prc] at hu; rw [← hu, add_at]; simp
      | 1, hu => simp [prc] at hu; rw [← hu, add_at]; simp) (by intro u hu; simp [prc] at hu; rcases hu with rfl | rfl <;> rfl) (by unfold maxLen; omega) (by omega) (by simp; omega)
  refine ⟨v', w', hr, ?_, (Only.alloc (fun k => base ≤ k) w _).trans (Only.grown (S := fun k => base ≤ k) h3 (fun k hk => (World.ownsRow.lt h' k hk).1)) (fun _ _ h => h)⟩
  have e : l.length + 1 = (l ++ [z]).length := by simp
  have e2 : (l ++ [z]).flatMap prc = l.flatMap prc ++ prc z := by simp
  rw [e2, ← e]
  exact h2
set_option maxRecDepth 100000 in
set_option maxHeartbeats 1600000 in
theorem tlowed_any (w : World) (r : Nat) (s : St) (most : Int) (h : Rs w r s) (hm : 0 ≤ most) (hm2 : most ≤ 8192) :
    Calls Tryz.prog 81 #[.pointer (some ⟨r, 0, none⟩), .int .i64 most, .func (.func 82) #[] #[]] w fun e w' => TlQ w w' e r (fun W v => W.ownsRow w.heap.size 82 2 v (rL rPr most s).1.length ((rL rPr most s).1.flatMap prc) ∧ (rL rPr most s).1.length ≤ 8192) (rL rPr most s).2 := by
  have HS := hide h
  have hlt := h.lt
  obtain ⟨⟨n0, s1⟩, h1⟩ : ∃ a, rN most s = a := ⟨_, rfl⟩
  have hb := rN_bd most s
  have hle := rN_le most s hm
  rw [h1] at hb hle
  simp only at hb hle
  obtain ⟨n, rfl⟩ := Int.eq_ofNat_of_zero_le hb.1
  obtain ⟨⟨R, sR⟩, hT⟩ : ∃ a, rL rPr most s = a := ⟨_, rfl⟩
  have HT : Hid (takeL rPr n [] s1 = (R, sR)) := by
    unfold Hid
    rw [← hT]
    unfold rL
    rw [h1]
    simp only [Int.toNat_natCast]
  rw [hT]
  have H1 := hide h1
  have hn : n ≤ 8192 := by omega
  clear h h1 hT hb hle
  go_enter Tryz.func81, Tryz.ntmps81
  go_wp2_with fail
  have q1 := rn_any w r s most HS.out
  rw [H1.out] at q1
  refine Calls.mono q1 ?_
  clear q1
  rintro e w1 ⟨rfl, hr1, ho1⟩
  have HR1 := hide hr1
  have HO1 := hide ho1
  clear hr1 ho1
  simp only
  go_wp2_with fail
  go_loopw [7, 12] (fun x y wr => ∃ (j : Nat) (acc : List (Int × Int)) (s' : St), j ≤ n ∧ y = .int .i64 (j : Int) ∧ Hid (acc.length = j) ∧ Hid (wr.ownsRow w.heap.size 82 2 x acc.length (acc.flatMap prc)) ∧ Hid (Rs wr r s') ∧ Hid (Only (fun k => k = r) w wr) ∧ Hid (takeL rPr (n - j) acc s' = (R, sR))) (fun _ y _ => n - (intOf y).toNat)
  case atStart => exact ⟨0, [], s1, by omega, rfl, rfl, World.ownsRow_nil _ _ _ _, HR1, HO1, HT⟩
  case round =>
    obtain ⟨j, acc, s', hj, rfl, HA, HW, HR, HO, HM⟩ := hrel
    by_cases hlt2 : j < n
    · obtain ⟨m, hm⟩ : ∃ m, n - j = m + 1 := ⟨n - j - 1, by omega⟩
      rw [hm] at HM
      have hj1 : (j : Int) < (n : Int) := by omega
      obtain ⟨⟨z, s2⟩, h2⟩ : ∃ a, rPr s' = a := ⟨_, rfl⟩
      have H2 := hide h2
      have HMM := hide hm
      clear h2 hm
      go_wp2_with fail
      have q2 := to_any wr r s' HR.out
      rw [H2.out] at q2
      refine Calls.mono q2 ?_
      clear q2
      rintro e w2 ⟨rfl, hr2, ho2⟩
      have hOA := onlyA w2 (.cells #[.int .i64 z.1, .int .i64 z.2] 82)
      have hd0 : (w2.alloc (.cells #[.int .i64 z.1, .int .i64 z.2] 82)).cell? ⟨w2.heap.size, 0, none⟩ = some (.int .i64 z.1) := by simp
      have hd1 : (w2.alloc (.cells #[.int .i64 z.1, .int .i64 z.2] 82)).cell? ⟨w2.heap.size, 1, none⟩ = some (.int .i64 z.2) := by simp
      obtain ⟨W2, hW2⟩ : ∃ W2, w2.alloc (.cells #[.int .i64 z.1, .int .i64 z.2] 82) = W2 := ⟨_, rfl⟩
      rw [hW2] at hOA hd0 hd1
      have HR2 := hide (hr2.kept hOA (fun h => h))
      have HO2 : Hid (Only (fun k => k = r) w W2) := (HO.out.trans ho2 (fun _ _ h => h)).trans hOA (fun _ _ h => h.elim)
      have HW2 := hide (own_kept (own_kept HW.out ho2 (fun b hb e => by have := (World.ownsRow.lt HW.out b hb).1; omega)) hOA (fun _ _ h => h))
      have c1 := HR2.out.c1
      have HWE := hide hW2
      clear hr2 ho2 hOA hW2
      simp only at c1 ⊢
      go_wp2_with fail
      rw [HWE.out]
      refine (rerr_any W2 r s2.2 c1).mono ?_
      rintro e w3 ⟨rfl, hw3⟩
      obtain rfl := hw3.symm
      by_cases hx : s2.2 = 0
      · have hx' : (s2.2 != 0) = false := by simp [hx]
        have HM2 : Hid (takeL rPr (n - (j + 1)) (acc ++ [z]) s2 = (R, sR)) := by
          unfold Hid
          rw [← HM.out, takeL_next (by rw [H2.out]; exact hx), H2.out]
          have : n - (j + 1) = m := by have := HMM.out; omega
          rw [this]
        have HAL := HA.out
        obtain ⟨v4, w4, r4, l4, o4⟩ := append_owed W2 34 w.heap.size _ acc HW2.out z (by omega) HO2.out.size
        have R4 := hide r4
        have L4 := hide l4
        have O4 : Hid (Only (fun k => k = r) w w4) := HO2.out.trans o4 (fun k hk e => by omega)
        have HR4 := hide (HR2.out.kept o4 (by omega))
        clear r4 l4 o4 hx HAL
        go_wp2_with (at_builtin; go_must (refine Lib.wpList_append_run _ rfl (.tmp 20) (.tmp 22) _ _ rfl _ _ rfl rfl _ _ R4.out ?_))
        go_roundw
        case rel => exact ⟨j + 1, acc ++ [z], s2, by omega, by go_num, by unfold Hid; rw [List.length_append, HA.out]; rfl, L4, HR4, O4, HM2⟩
        case measure => simp [intOf]; omega
      · have hx' : (s2.2 != 0) = true := by simpa using hx
        have HM2 : Hid (([], s2) = (R, sR)) := by
          unfold Hid
          rw [← HM.out, takeL_stop (by rw [H2.out]; exact hx), H2.out]
        clear hx
        go_wp2_with fail
        go_ret
        have hm2 := HM2.out
        simp only [Prod.mk.injEq] at hm2
        obtain ⟨rfl, rfl⟩ := hm2
        exact ⟨⟨_, rfl, World.ownsRow_nil _ _ _ _, by simp⟩, HR2.out, HO2.out⟩
    · have e0 : n - j = 0 := by omega
      have HF : Hid ((acc, s') = (R, sR)) := by unfold Hid; rw [← HM.out, e0]; rfl
      go_wp2_with fail
      go_ret
      have hf := HF.out
      simp only [Prod.mk.injEq] at hf
      obtain ⟨rfl, rfl⟩ := hf
      have := HA.out
      exact ⟨⟨_, rfl, HW.out, by omega⟩, HR.out, HO.out⟩
theorem Tryz.infoBegun : (Tryz.prog.info? 84).map (fun i => (i.zero, i.size, i.bytes)) = some (some (.agg #[.int .i64 0, .int .i64 0]), 2, 16) := by kernel_rfl
theorem append_begun (w : World) (ty : TypeId) (base : Nat) (v : Value) (l : List (Int × Int)) (h : w.ownsRow base 84 2 v l.length (l.flatMap prc)) (z : Int × Int) (hroom : l.length ≤ 100000) (hbase : base ≤ w.heap.size) :
    ∃ v' w', (Builtin.append_ #[35, 35] ty #[v, .slice (some ⟨w.heap.size, 0, none⟩) 1 1]).run Tryz.prog (w.alloc (.cells #[.int .i64 z.1, .int .i64 z.2] 84)) = .ok v' w' ∧ w'.ownsRow base 84 2 v' (l ++ [z]).length ((l ++ [z]).flatMap prc) ∧ Only (fun k => base ≤ k) w w' := by
  obtain ⟨i0, hi, hz0, hz1, hz2⟩ := info_parts Tryz.infoBegun
  have h' := own_kept h (onlyA w (.cells #[.int .i64 z.1, .int .i64 z.2] 84)) (fun _ _ h => h)
  obtain ⟨v', w', hr, h2, h3, _, _⟩ := run_append_own_at (P := Tryz.prog) _ base 35 ty 84 i0 (.agg #[.int .i64 0, .int .i64 0]) 2 16 Tryz.underlying35 hi hz0 hz1 hz2 rfl (by decide) v l.length _ h' ⟨w.heap.size, 0, none⟩ 1 1 (prc z) rfl
    (fun j u hu => by
      match j, hu with
      | 0, hu => simp [prc] at hu; rw [← hu, add_at]; simp
      | 1, hu => simp [prc] at hu; rw [← hu, add_at]; simp) (by intro u hu; simp [prc] at hu; rcases hu with rfl | rfl <;> rfl) (by unfold maxLen; omega) (by omega) (by simp; omega)
  refine ⟨v', w', hr, ?_, (Only.alloc (fun k => base ≤ k) w _).trans (Only.grown (S := fun k => base ≤ k) h3 (fun k hk => (World.ownsRow.lt h' k hk).1)) (fun _ _ h => h)⟩
  have e : l.length + 1 = (l ++ [z]).length := by simp
  have e2 : (l ++ [z]).flatMap prc = l.flatMap prc ++ prc z := by simp
  rw [e2, ← e]
  exact h2
set_option maxRecDepth 100000 in
set_option maxHeartbeats 1600000 in
theorem tlbegun_any (w : World) (r : Nat) (s : St) (most : Int) (h : Rs w r s) (hm : 0 ≤ most) (hm2 : most ≤ 1024) :
    Calls Tryz.prog 83 #[.pointer (some ⟨r, 0, none⟩), .int .i64 most, .func (.func 84) #[] #[]] w fun e w' => TlQ w w' e r (fun W v => W.ownsRow w.heap.size 84 2 v (rL rPr most s).1.length ((rL rPr most s).1.flatMap prc) ∧ (rL rPr most s).1.length ≤ 1024) (rL rPr most s).2 := by
  have HS := hide h
  have hlt := h.lt
  obtain ⟨⟨n0, s1⟩, h1⟩ : ∃ a, rN most s = a := ⟨_, rfl⟩
  have hb := rN_bd most s
  have hle := rN_le most s hm
  rw [h1] at hb hle
  simp only at hb hle
  obtain ⟨n, rfl⟩ := Int.eq_ofNat_of_zero_le hb.1
  obtain ⟨⟨R, sR⟩, hT⟩ : ∃ a, rL rPr most s = a := ⟨_, rfl⟩
  have HT : Hid (takeL rPr n [] s1 = (R, sR)) := by
    unfold Hid
    rw [← hT]
    unfold rL
    rw [h1]
    simp only [Int.toNat_natCast]
  rw [hT]
  have H1 := hide h1
  have hn : n ≤ 1024 := by omega
  clear h h1 hT hb hle
  go_enter Tryz.func83, Tryz.ntmps83
  go_wp2_with fail
  have q1 := rn_any w r s most HS.out
  rw [H1.out] at q1
  refine Calls.mono q1 ?_
  clear q1
  rintro e w1 ⟨rfl, hr1, ho1⟩
  have HR1 := hide hr1
  have HO1 := hide ho1
  clear hr1 ho1
  simp only
  go_wp2_with fail
  go_loopw [7, 12] (fun x y wr => ∃ (j : Nat) (acc : List (Int × Int)) (s' : St), j ≤ n ∧ y = .int .i64 (j : Int) ∧ Hid (acc.length = j) ∧ Hid (wr.ownsRow w.heap.size 84 2 x acc.length (acc.flatMap prc)) ∧ Hid (Rs wr r s') ∧ Hid (Only (fun k => k = r) w wr) ∧ Hid (takeL rPr (n - j) acc s' = (R, sR))) (fun _ y _ => n - (intOf y).toNat)
  case atStart => exact ⟨0, [], s1, by omega, rfl, rfl, World.ownsRow_nil _ _ _ _, HR1, HO1, HT⟩
  case round =>
    obtain ⟨j, acc, s', hj, rfl, HA, HW, HR, HO, HM⟩ := hrel
    by_cases hlt2 : j < n
    · obtain ⟨m, hm⟩ : ∃ m, n - j = m + 1 := ⟨n - j - 1, by omega⟩
      rw [hm] at HM
      have hj1 : (j : Int) < (n : Int) := by omega
      obtain ⟨⟨z, s2⟩, h2⟩ : ∃ a, rPr s' = a := ⟨_, rfl⟩
      have H2 := hide h2
      have HMM := hide hm
      clear h2 hm
      go_wp2_with fail
      have q2 := tb_any wr r s' HR.out
      rw [H2.out] at q2
      refine Calls.mono q2 ?_
      clear q2
      rintro e w2 ⟨rfl, hr2, ho2⟩
      have hOA := onlyA w2 (.cells #[.int .i64 z.1, .int .i64 z.2] 84)
      have hd0 : (w2.alloc (.cells #[.int .i64 z.1, .int .i64 z.2] 84)).cell? ⟨w2.heap.size, 0, none⟩ = some (.int .i64 z.1) := by simp
      have hd1 : (w2.alloc (.cells #[.int .i64 z.1, .int .i64 z.2] 84)).cell? ⟨w2.heap.size, 1, none⟩ = some (.int .i64 z.2) := by simp
      obtain ⟨W2, hW2⟩ : ∃ W2, w2.alloc (.cells #[.int .i64 z.1, .int .i64 z.2] 84) = W2 := ⟨_, rfl⟩
      rw [hW2] at hOA hd0 hd1
      have HR2 := hide (hr2.kept hOA (fun h => h))
      have HO2 : Hid (Only (fun k => k = r) w W2) := (HO.out.trans ho2 (fun _ _ h => h)).trans hOA (fun _ _ h => h.elim)
      have HW2 := hide (own_kept (own_kept HW.out ho2 (fun b hb e => by have := (World.ownsRow.lt HW.out b hb).1; omega)) hOA (fun _ _ h => h))
      have c1 := HR2.out.c1
      have HWE := hide hW2
      clear hr2 ho2 hOA hW2
      simp only at c1 ⊢
      go_wp2_with fail
      rw [HWE.out]
      refine (rerr_any W2 r s2.2 c1).mono ?_
      rintro e w3 ⟨rfl, hw3⟩
      obtain rfl := hw3.symm
      by_cases hx : s2.2 = 0
      · have hx' : (s2.2 != 0) = false := by simp [hx]
        have HM2 : Hid (takeL rPr (n - (j + 1)) (acc ++ [z]) s2 = (R, sR)) := by
          unfold Hid
          rw [← HM.out, takeL_next (by rw [H2.out]; exact hx), H2.out]
          have : n - (j + 1) = m := by have := HMM.out; omega
          rw [this]
        have HAL := HA.out
        obtain ⟨v4, w4, r4, l4, o4⟩ := append_begun W2 35 w.heap.size _ acc HW2.out z (by omega) HO2.out.size
        have R4 := hide r4
        have L4 := hide l4
        have O4 : Hid (Only (fun k => k = r) w w4) := HO2.out.trans o4 (fun k hk e => by omega)
        have HR4 := hide (HR2.out.kept o4 (by omega))
        clear r4 l4 o4 hx HAL
        go_wp2_with (at_builtin; go_must (refine Lib.wpList_append_run _ rfl (.tmp 20) (.tmp 22) _ _ rfl _ _ rfl rfl _ _ R4.out ?_))
        go_roundw
        case rel => exact ⟨j + 1, acc ++ [z], s2, by omega, by go_num, by unfold Hid; rw [List.length_append, HA.out]; rfl, L4, HR4, O4, HM2⟩
        case measure => simp [intOf]; omega
      · have hx' : (s2.2 != 0) = true := by simpa using hx
        have HM2 : Hid (([], s2) = (R, sR)) := by
          unfold Hid
          rw [← HM.out, takeL_stop (by rw [H2.out]; exact hx), H2.out]
        clear hx
        go_wp2_with fail
        go_ret
        have hm2 := HM2.out
        simp only [Prod.mk.injEq] at hm2
        obtain ⟨rfl, rfl⟩ := hm2
        exact ⟨⟨_, rfl, World.ownsRow_nil _ _ _ _, by simp⟩, HR2.out, HO2.out⟩
    · have e0 : n - j = 0 := by omega
      have HF : Hid ((acc, s') = (R, sR)) := by unfold Hid; rw [← HM.out, e0]; rfl
      go_wp2_with fail
      go_ret
      have hf := HF.out
      simp only [Prod.mk.injEq] at hf
      obtain ⟨rfl, rfl⟩ := hf
      have := HA.out
      exact ⟨⟨_, rfl, HW.out, by omega⟩, HR.out, HO.out⟩
end Go.Proofs.YtcbdpdkmkncffaaGreatDoor
