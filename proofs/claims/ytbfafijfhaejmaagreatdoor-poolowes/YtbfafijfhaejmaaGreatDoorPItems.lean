/- What items does. -/
import Derived.Test.YtbfafijfhaejmaaGreatDoorPPut
namespace Go.Proofs.YtbfafijfhaejmaaGreatDoor
open Go.RowKit

theorem ext_bl (s : ByteArray) (i j : Nat) : bl (s.extract i j) = ((bl s).take j).drop i := by
  simp [bl, ByteArray.data_extract, List.extract_eq_take_drop, List.drop_take]
/-- What items answers. -/
structure ItP (w w' : World) (e : Ending) (o : Option (List ByteArray × List UInt8)) : Prop where
  only : Only (fun _ => False) w w'
  bad : o = none → e = .returned (.tuple #[.slice none 0 0, .string ⟨#[]⟩, .bool false])
  good : ∀ l r, o = some (l, r) → ∃ v, e = .returned (.tuple #[v, .string (str r), .bool true]) ∧ Ls w' w.heap.size v l

set_option maxRecDepth 100000 in
set_option maxHeartbeats 1600000 in
theorem items_any (w : World) (D : List UInt8) (n : Nat) (hn : n ≤ 255) (hD : D.length ≤ 512) :
    Calls Tryz.prog 114 #[.string (str D), .int .i64 (n : Int)] w fun e w' => ItP w w' e (takeI n D) := by
  obtain ⟨i0, hi, hz0, hz1, hz2⟩ := info_parts Tryz.infoStr
  obtain ⟨T, hT⟩ : ∃ T, takeI n D = T := ⟨_, rfl⟩
  rw [hT]
  have HT : Hid (more [] (takeI (n - 0) D) = T) := by unfold Hid; rw [more_nil]; exact hT
  clear hT
  go_enter Tryz.func114, Tryz.ntmps114
  go_wp2_with (
    at_make
    go_must (refine wpList_make_own _ rfl _ _ 43 rfl w.heap.size 9 i0 (.string ⟨#[]⟩) 1 Tryz.underlying43 hi hz0 hz1 .i64 .i64 _ n rfl rfl (by omega) (by rw [hz2]; omega) (by unfold maxLen; omega) (Nat.le_refl _) ?_)
    intro w1 hw1 hg1
    have HL1 : Hid (Ls w1 w.heap.size (.slice (some ⟨w.heap.size, 0, none⟩) 0 n) []) := hw1
    have HO1 : Hid (Only (fun _ => False) w w1) := Only.grown hg1 (fun k hk => by cases hk)
    clear hw1 hg1)
  go_loopw [0, 4, 7, 11] (fun x y _ z wr => ∃ (j : Nat) (acc : List ByteArray) (d : List UInt8), j ≤ n ∧ z = .int .i64 (j : Int) ∧ x = .string (str d) ∧ d.length ≤ 512 ∧ acc.length = j ∧ Hid (∀ s ∈ acc, s.size ≤ 512) ∧ Hid (Ls wr w.heap.size y acc) ∧ Hid (Only (fun _ => False) w wr) ∧ Hid (more acc (takeI (n - j) d) = T)) (fun _ _ _ z _ => n - (intOf z).toNat)
  case atStart => exact ⟨0, [], D, by omega, rfl, rfl, hD, rfl, (fun s h => by cases h), HL1, HO1, HT⟩
  case round =>
    obtain ⟨j, acc, d, hj, rfl, rfl, hd, hacc, HA, HL, HO, HM⟩ := hrel
    have hsz : (str d).size = d.length := rfl
    by_cases hlt : j < n
    · obtain ⟨m, hm⟩ : ∃ m, n - j = m + 1 := ⟨n - j - 1, by omega⟩
      rw [hm] at HM
      have hj1 : (j : Int) < (n : Int) := by omega
      obtain ⟨s, hs⟩ : ∃ s, str d = s := ⟨_, rfl⟩
      rw [hs] at hsz ⊢
      have hs512 : s.size ≤ 512 := by omega
      have HSD : Hid (bl s = d) := by unfold Hid; rw [← hs]; rfl
      have HSZ := hide hsz
      have HMM := hide hm
      clear hs hsz hm
      by_cases h2 : s.size < 2
      · have HN : Hid (T = none) := by unfold Hid; rw [← HM.out]; exact takeI_short acc (by have := HSZ.out; omega)
        have h2' : (s.size : Int) < 2 := by omega
        go_wp2_with fail
        go_ret3
        exact ⟨HO.out, fun _ => rfl, fun l r h => by rw [HN.out] at h; cases h⟩
      · have h2' : ¬ (s.size : Int) < 2 := by omega
        have h2'' : (2 : Int) ≤ (s.size : Int) := by omega
        obtain ⟨q, hq⟩ : ∃ q, (ofTo (d.take 2)).toNat = q := ⟨_, rfl⟩
        have hd2 : (d.take 2).length = 2 := by have := HSZ.out; simp; omega
        have hqb := ofTo_small (d.take 2) (by omega)
        rw [hd2] at hqb
        have hq0 : ofTo (d.take 2) = (q : Int) := by omega
        have hq5 : q < 65536 := by have h3 : (256 : Int) ^ 2 = 65536 := by decide
                                   omega
        obtain ⟨E0, hE0⟩ : ∃ E0, s.extract 0 2 = E0 := ⟨_, rfl⟩
        obtain ⟨E1, hE1⟩ : ∃ E1, s.extract 2 s.size = E1 := ⟨_, rfl⟩
        have hE0b : bl E0 = d.take 2 := by rw [← hE0, ext_bl, HSD.out, List.drop_zero]
        have hE1b : bl E1 = d.drop 2 := by rw [← hE1, ext_bl, HSD.out, List.take_of_length_le (by rw [HSZ.out]; exact Nat.le_refl _)]
        have hE0s : E0.size = 2 := by rw [← bl_len, hE0b, hd2]
        have hE1s : E1.size = s.size - 2 := by rw [← bl_len, hE1b, List.length_drop, HSZ.out]
        have HOF := hide (of_any E0 wr (by unfold maxLen; omega))
        rw [show E0.data.toList = d.take 2 from hE0b, hq0, show (q : Int) % 9223372036854775808 = (q : Int) by omega] at HOF
        have HE1B := hide hE1b
        have HE1S := hide hE1s
        clear hE0b hE1b hE0s hE1s hqb hd2 hq0
        have HQ := hide hq
        clear hq
        have he1 : E1.size ≤ 510 := by have := HE1S.out; omega
        go_wp2_with fail
        refine HOF.out.mono ?_
        rintro e w2 ⟨rfl, rfl⟩
        by_cases h3 : E1.size < q
        · have h3' : (E1.size : Int) < (q : Int) := by omega
          have HN : Hid (T = none) := by
            unfold Hid; rw [← HM.out]
            refine takeI_long acc (by have := HSZ.out; omega) ?_
            rw [HQ.out, ← HE1B.out, bl_len]; exact h3
          clear hE0
          go_wp2_with fail
          go_ret3
          exact ⟨HO.out, fun _ => rfl, fun l r h => by rw [HN.out] at h; cases h⟩
        · have h3' : ¬ (E1.size : Int) < (q : Int) := by omega
          have h3q : (q : Int) ≤ (E1.size : Int) := by omega
          obtain ⟨E2, hE2⟩ : ∃ E2, E1.extract 0 q = E2 := ⟨_, rfl⟩
          obtain ⟨E3, hE3⟩ : ∃ E3, E1.extract q E1.size = E3 := ⟨_, rfl⟩
          have HE2 : Hid (E2 = str ((d.drop 2).take q)) := by unfold Hid; rw [← str_bl E2, ← hE2, ext_bl, HE1B.out, List.drop_zero]
          have HE3 : Hid (E3 = str ((d.drop 2).drop q)) := by unfold Hid; rw [← str_bl E3, ← hE3, ext_bl, List.take_of_length_le (by rw [bl_len]; exact Nat.le_refl _), HE1B.out]
          have he2 : E2.size ≤ 512 := by rw [HE2.out, str_size, List.length_take, ← HE1B.out, bl_len]; omega
          obtain ⟨v4, w4, r4, l4, o4⟩ := append_strs (w2.alloc (.cells #[.string E2] 9)) 43 w.heap.size _ acc (HL.out.more (onlyA _ _)) w2.heap.size 1 (some ⟨w2.heap.size, 0, none⟩) [E2] (Strs.one w2 E2 (by omega)) ⟨fun h => (by cases h), by simp, (by unfold maxLen; omega)⟩ (by simp; omega) (by have := HO.out.size; simp; omega)
          have R4 := hide r4
          have L4 := hide l4
          have O4 : Hid (Only (fun _ => False) w w4) := (o2 HO.out (onlyA _ _)).trans o4 (fun k hk e => by omega)
          have HM2 : Hid (more (acc ++ [E2]) (takeI (n - (j + 1)) ((d.drop 2).drop q)) = T) := by
            unfold Hid
            rw [← HM.out, takeI_next acc (by have := HSZ.out; omega) (by rw [HQ.out, ← HE1B.out, bl_len]; exact h3), HQ.out, HE2.out]
            have : n - (j + 1) = m := by have := HMM.out; omega
            rw [this]
          have HA2 : Hid (∀ s ∈ acc ++ [E2], s.size ≤ 512) := by
            intro s hs
            rcases List.mem_append.1 hs with hs | hs
            · exact HA.out s hs
            · simp at hs; rw [hs]; exact he2
          have hdl : ((d.drop 2).drop q).length ≤ 512 := by simp; omega
          clear r4 l4 o4 hE0
          go_wp2_with (at_builtin; go_must (refine Lib.wpList_append_run _ rfl (.tmp 25) (.tmp 29) _ _ rfl _ _ rfl rfl _ _ R4.out ?_))
          go_roundw
          case rel => exact ⟨j + 1, acc ++ [E2], (d.drop 2).drop q, by omega, by go_num, by rw [HE3.out], hdl, by simp [hacc], HA2, L4, O4, HM2⟩
          case measure => simp [intOf]; omega
    · have e0 : n - j = 0 := by omega
      have HF : Hid (T = some (acc, d)) := by unfold Hid; rw [← HM.out, e0]; simp [takeI, more]
      go_wp2_with fail
      go_ret3
      refine ⟨HO.out, (fun h => by rw [HF.out] at h; cases h), fun l r h => ?_⟩
      rw [HF.out] at h
      cases h
      exact ⟨_, rfl, HL.out⟩
end Go.Proofs.YtbfafijfhaejmaaGreatDoor
