/- What Running does. -/
import Derived.Test.YtmcghpeamnmbpaaOBgn
namespace Go.Proofs.Ytmcghpeamnmbpaa
open Go.RowKit Go.Maps

/-- A list of numbers was returned: the ids of those that have begun. -/
structure RI (e : Ending) (w w' : World) (n : Nat) (f : Tt) : Prop where
  ex : ∃ ao cp B, e = .returned (.slice ao B.length cp) ∧ IRow w' w.heap.size (.slice ao B.length cp) (B.map (·.1)) ∧ BgIs f B ∧ B.length ≤ n
theorem running_nil (w : World) : Calls Try.prog 25 #[.pointer none] w fun e w' => e = .returned (.slice none 0 0) ∧ w' = w := by
  go_enter Try.func25, Try.ntmps25
  go_wp2_with fail
  refine (begunN_nil _).mono ?_
  rintro e w1 ⟨rfl, rfl⟩
  go_wp2_with fail
  refine wp_loop_rounds 1 ?_
  rw [rounds_succ]
  go_wp2_with fail
  go_ret
  exact ⟨rfl, rfl⟩
set_option maxRecDepth 100000 in
set_option maxHeartbeats 1600000 in
theorem running_any (w : World) (Z : Nat → Prop) (t m n : Nat) (f : Tt) (H : Tab w Z t m n f) (hn : n ≤ 5864062014700) : Calls Try.prog 25 #[.pointer (some ⟨t, 0, none⟩)] w fun e w' => RI e w w' n f ∧ Only (fun _ => False) w w' := by
  have HC := hide (begunN_any w Z t m n f H hn)
  clear H
  go_enter Try.func25, Try.ntmps25
  go_wp2_with fail
  refine HC.out.mono ?_
  rintro e w1 ⟨⟨aB, cB, B, rfl, hB, hI, hln⟩, hO1⟩
  have HB := hide hB
  have HI := hide hI
  have HO1 := hide hO1
  clear hB hI hO1 HC
  go_wp2_with fail
  go_loopw [3, 9] (fun v y wr => ∃ (j : Nat), j ≤ B.length ∧ y = .int .i64 (j : Int) ∧ Hid (IRow wr w1.heap.size v ((B.take j).map (·.1))) ∧ Hid (Only (fun _ => False) w1 wr)) (fun _ y _ => B.length - (intOf y).toNat)
  case atStart => exact ⟨0, by omega, rfl, GRow.nil _ _, Only.refl _ _⟩
  case round =>
    obtain ⟨j, hj, rfl, HV, HO⟩ := hrel
    have HBr := hide (HB.out.more HO.out)
    by_cases hlt : j < B.length
    · obtain ⟨gB, rfl, _, _, _, kk⟩ := HBr.out.at_ hlt
      have k1 : wr.cell? ⟨gB, j * 2 + 0, none⟩ = some (.int .i64 B[j].1) := kk 0 (iv B[j].1) (by decide) rfl
      have k2 : wr.cell? ⟨gB, j * 2 + 1, none⟩ = some (.int .i64 B[j].2) := kk 1 (iv B[j].2) (by decide) rfl
      rw [Nat.add_zero] at k1
      have htk : (B.take (j + 1)).map (·.1) = (B.take j).map (·.1) ++ [B[j].1] := by rw [List.take_succ_eq_append_getElem hlt, List.map_append]; rfl
      obtain ⟨x, hx⟩ : ∃ x, B[j].1 = x := ⟨_, rfl⟩
      obtain ⟨y, hy⟩ : ∃ y, B[j].2 = y := ⟨_, rfl⟩
      rw [hx] at k1 htk
      rw [hy] at k2
      have HTK := hide htk
      have hwl := HO.out.size
      have hfl : ((B.take j).map (·.1)).length ≤ n := by rw [List.length_map, List.length_take]; omega
      clear hx hy htk kk
      obtain ⟨v', X3, hr, hrow, ho3, _⟩ := irow_one (HV.out.more (onlyA wr #[.int .i64 x, .int .i64 y] 59)) x (by omega) (by rw [World.size_alloc]; omega) 27 1
      rw [World.size_alloc] at hr
      have HR := hide hr
      have HV2 : Hid (IRow X3 w1.heap.size v' ((B.take (j + 1)).map (·.1))) := by
        rw [HTK.out]
        exact hrow
      have hlow := HV.out.low
      have HO2 : Hid (Only (fun _ => False) w1 X3) := (o2 HO.out (onlyA wr _ 59)).trans ho3 (fun i hi e => by have := (hlow i e.symm).1; omega)
      clear hr hrow ho3 hlow
      go_wp2_with (at_builtin; go_must (refine Lib.wpList_append_run _ rfl _ _ _ _ rfl _ _ rfl rfl _ _ HR.out ?_); go_frame)
      exact ⟨⟨j + 1, by omega, by go_num, HV2, HO2⟩, by simp [intOf]; omega⟩
    · have ej : B.take j = B := List.take_of_length_le (by omega)
      rw [ej] at HV
      obtain ⟨ao, cp, hv⟩ : ∃ ao cp, u3 = .slice ao (B.map (·.1)).length cp := HV.out.form
      rw [List.length_map] at hv
      subst hv
      clear ej
      go_wp2_with fail
      go_ret
      exact ⟨⟨ao, cp, B, rfl, HV.out.base HO1.out.size, HI.out, hln⟩, o2 HO1.out HO.out⟩
end Go.Proofs.Ytmcghpeamnmbpaa
