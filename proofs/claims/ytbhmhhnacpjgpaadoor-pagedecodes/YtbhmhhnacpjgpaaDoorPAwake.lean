/- The chapter's examples: awake answers true, and changes nothing that was there. -/
import Derived.Test.YtbhmhhnacpjgpaaDoorPPutN
import Derived.Test.YtbhmhhnacpjgpaaDoorPAwakeA
namespace Go.Proofs.YtbhmhhnacpjgpaaDoor
open Go.RowKit

theorem aw_w : wrap64 (20 + (⟨#[]⟩ : ByteArray).size + isz [⟨#[97, 98]⟩]) = 24 := w64_id 24 (by decide)
theorem aw_room : roomZ ([⟨#[97, 98]⟩] : List ByteArray).length 24 = 486 := by
  unfold roomZ
  rw [w64_id (510 - 24) (by decide)]
  decide
set_option maxRecDepth 100000 in
set_option maxHeartbeats 1600000 in
theorem awake_any (w : World) : Calls Tryd.prog 9 #[] w fun e w' => e = .returned (.bool true) ∧ Only (fun _ => False) w w' := by
  obtain ⟨i0, hi, hz0, hz1, hz2⟩ := info_parts Tryd.infoByte
  go_enter Tryd.func9, Tryd.ntmps9
  go_wp2_with fail
  refine (put_none w 5 2 0 0 ⟨#[]⟩ ⟨#[97, 98]⟩ (by decide) (by decide)).mono ?_
  intro e w1 h1
  obtain ⟨B, ao, cp, rfl, hS, hF, ho1, hB⟩ := h1.2 (by decide)
  have HS := hide hS
  have HO1 := hide ho1
  simp only [List.length_cons, List.length_nil, Nat.zero_add]
  clear h1 hS hF ho1 hB
  obtain ⟨W1, hW1⟩ : ∃ W1, w1.alloc (.cells #[.int .i64 5, .int .i64 2, .int .i64 0, .int .i64 0, .string ⟨#[]⟩, .slice ao 1 cp] 24) = W1 := ⟨_, rfl⟩
  have HP := hide (Pag.new w1 (.int .i64 5) (.int .i64 2) (.int .i64 0) (.int .i64 0) (.string ⟨#[]⟩) (.slice ao 1 cp))
  have HOA := hide (onlyA w1 (.cells #[.int .i64 5, .int .i64 2, .int .i64 0, .int .i64 0, .string ⟨#[]⟩, .slice ao 1 cp] 24))
  rw [hW1] at HP HOA
  have HW1 := hide hW1
  clear hW1
  go_wp2_with fail
  rw [HW1.out]
  have he := pencode_any W1 5 2 0 0 ⟨#[]⟩ B cp ao [⟨#[97, 98]⟩] (HS.out.more HOA.out) (by decide) (by decide)
  rw [show (⟨5, 2, 0, 0, ⟨#[]⟩, [⟨#[97, 98]⟩]⟩ : Pg) = awp from rfl, aw_out] at he
  refine Calls.mono he ?_
  clear he
  rintro e w2 ⟨rfl, ho2⟩
  obtain ⟨E, hE⟩ : ∃ E, str awp.enc = E := ⟨_, rfl⟩
  have HDE : Hid (dec (bl E) = (awp, 0)) := by unfold Hid; rw [← hE, bl_str]; exact aw_dec
  have hx : E.extract 11 13 = ⟨#[5, 2]⟩ := by rw [← hE]; exact aw_ext
  have hEs : E.size = 512 := by rw [← hE, str_size]; exact enc_len _ aw_valid.fit.2.2
  simp only [hE]
  clear hE
  have HX := hide hx
  have HES := hide hEs
  have HO2 := hide ho2
  clear hx hEs ho2
  go_wp2_with fail
  refine (pdecode_any w2 E).mono ?_
  rw [HDE.out]
  rintro e w3 ⟨B3, ao3, cp3, rfl, hS3, hF3, ho3, hB3⟩
  simp only [awp, List.length_cons, List.length_nil, Nat.zero_add] at hS3 ⊢
  have HP3 := hide (HP.out.more (o2 HO2.out ho3))
  have HS3 := hide hS3
  have HO3 := hide (o2 (o2 HO1.out HOA.out) (o2 HO2.out ho3))
  have HSP3 := hide (HS.out.more (o2 HOA.out (o2 HO2.out ho3)))
  clear hS3 hF3 ho3 hB3 HP HO2 HS HOA HO1 HW1 HDE
  go_upto_region 4 with fail
  obtain ⟨W3, hW3⟩ : ∃ W3, w3.alloc (.cells #[.int .i64 5, .int .i64 2, .int .i64 0, .int .i64 0, .string ⟨#[]⟩, .slice ao3 1 cp3] 24) = W3 := ⟨_, rfl⟩
  have HQ3 := hide (Pag.new w3 (.int .i64 5) (.int .i64 2) (.int .i64 0) (.int .i64 0) (.string ⟨#[]⟩) (.slice ao3 1 cp3))
  have HO4 := hide (onlyA w3 (.cells #[.int .i64 5, .int .i64 2, .int .i64 0, .int .i64 0, .string ⟨#[]⟩, .slice ao3 1 cp3] 24))
  rw [hW3] at HQ3 HO4 ⊢
  clear hW3
  obtain ⟨w4, hmk, hown, hgr⟩ := run_make_full (P := Tryd.prog) W3 W3.heap.size 46 5 i0 (.int .u8 0) 1 Tryd.underlying46 hi hz0 hz1 .i64 .i64 512 (by rw [hz2]; omega) (by unfold maxLen; omega) (Nat.le_refl _)
  rw [show ((512 : Nat) : Int) = 512 from rfl] at hmk
  have hrow : Row w4 W3.heap.size (.slice (some ⟨W3.heap.size, 0, none⟩) 512 512) (some W3.heap.size) (List.replicate 512 0) := by
    refine ⟨?_, rfl⟩
    have e : (madeCells (Value.int .u8 0).cells (512 * 1)).toList = cells (List.replicate 512 0) := by
      have : (Value.int IntKind.u8 0).cells = #[.int .u8 0] := rfl
      rw [this, toList_madeCells_one]; simp [cells]
    rw [e] at hown
    rw [List.length_replicate]
    exact hown
  have hcv := bytes_back w4 _ _ _ _ hrow
  have HO5 := hide (o2 HO4.out (Only.grown hgr (fun k hk => by cases hk)))
  have HDZ := hide (pdecode_any w4 ⟨(List.replicate 512 0).toArray⟩)
  rw [show bl ⟨(List.replicate 512 (0 : UInt8)).toArray⟩ = List.replicate 512 0 from rfl, aw_none] at HDZ
  obtain ⟨Z, hZ⟩ : ∃ Z : ByteArray, ⟨(List.replicate 512 (0 : UInt8)).toArray⟩ = Z := ⟨_, rfl⟩
  rw [hZ] at hcv HDZ
  clear hZ hrow hown
  go_wp2_with fail
  refine HDZ.out.mono ?_
  rintro e w5 ⟨B5, ao5, cp5, rfl, _, _, ho5, _⟩
  simp only [Pg.none, List.length_nil]
  go_upto_region 5 with fail
  obtain ⟨W5, hW5⟩ : ∃ W5, w5.alloc (.cells #[.int .i64 0, .int .i64 0, .int .i64 0, .int .i64 0, .string ⟨#[]⟩, .slice ao5 0 cp5] 24) = W5 := ⟨_, rfl⟩
  have HO6 := hide (o2 HO5.out (o2 ho5 (onlyA w5 (.cells #[.int .i64 0, .int .i64 0, .int .i64 0, .int .i64 0, .string ⟨#[]⟩, .slice ao5 0 cp5] 24))))
  have HQ6 := hide (HQ3.out.more (o2 (Only.grown hgr (fun k hk => by cases hk)) (o2 ho5 (onlyA w5 (.cells #[.int .i64 0, .int .i64 0, .int .i64 0, .int .i64 0, .string ⟨#[]⟩, .slice ao5 0 cp5] 24)))))
  rw [hW5] at HO6 HQ6 ⊢
  have HP6 := hide (HP3.out.more HO6.out)
  have HSP6 := hide (HSP3.out.more HO6.out)
  have HS6 := hide (HS3.out.more HO6.out)
  clear hW5 ho5 hmk hcv hgr HDZ
  obtain ⟨p0, p1, p2, p3, p4, p5, _⟩ := HP6.out
  obtain ⟨q0, q1, q2, q3, q4, q5, _⟩ := HQ6.out
  go_wp2_with fail
  have hsm := psame_any W5 5 2 0 0 5 2 0 0 ⟨#[]⟩ ⟨#[]⟩ B B3 cp cp3 ao ao3 [⟨#[97, 98]⟩] [⟨#[97, 98]⟩] HSP6.out HS6.out
  rw [show decide ((5 : Int) = 5 ∧ (2 : Int) = 2 ∧ (0 : Int) = 0 ∧ (0 : Int) = 0 ∧ (⟨#[]⟩ : ByteArray) = ⟨#[]⟩ ∧ ([⟨#[97, 98]⟩] : List ByteArray) = [⟨#[97, 98]⟩]) = true by simp] at hsm
  refine Calls.mono hsm ?_
  clear hsm
  rintro e w7 ⟨rfl, ho7⟩
  have HO7 := hide (o2 HO6.out ho7)
  have HP7 := hide (HP6.out.more ho7)
  have HSP7 := hide (HSP6.out.more ho7)
  clear ho7 p0 p1 p2 p3 p4 p5 q0 q1 q2 q3 q4 q5
  obtain ⟨p0, p1, p2, p3, p4, p5, _⟩ := HP7.out
  have h512 : ((E.size : Int) == 512) = true := by rw [HES.out]; rfl
  have hE1 : (13 : Int) ≤ (E.size : Int) := by rw [HES.out]; decide
  have hx := HX.out
  go_wp2_with fail
  have hsz := psize_any w7 5 2 0 0 ⟨#[]⟩ B cp ao [⟨#[97, 98]⟩] HSP7.out (by decide)
  rw [aw_w] at hsz
  refine Calls.mono hsz ?_
  clear hsz
  rintro e w8 ⟨rfl, ho8⟩
  have HO8 := hide (o2 HO7.out ho8)
  have HP8 := hide (HP7.out.more ho8)
  have HSP8 := hide (HSP7.out.more ho8)
  clear ho8 p0 p1 p2 p3 p4 p5
  obtain ⟨p0, p1, p2, p3, p4, p5, _⟩ := HP8.out
  go_wp2_with fail
  have hrm := proom_any w8 5 2 0 0 ⟨#[]⟩ B cp ao [⟨#[97, 98]⟩] HSP8.out (by decide)
  rw [aw_w, aw_room] at hrm
  refine Calls.mono hrm ?_
  clear hrm
  rintro e w9 ⟨rfl, ho9⟩
  have HO9 := hide (o2 HO8.out ho9)
  clear ho9 p0 p1 p2 p3 p4 p5
  go_wp2_with fail
  go_ret
  exact ⟨rfl, o2 HO3.out HO9.out⟩
end Go.Proofs.YtbhmhhnacpjgpaaDoor
