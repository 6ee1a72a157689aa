/- Places that are refused; Put into no items, of the document. -/
import Derived.Test.YtbhmhhnacpjgpaaDoorPRefC
import Derived.Test.YtbhmhhnacpjgpaaDoorPWith
import Derived.Test.YtbhmhhnacpjgpaaDoorPPutE
import Derived.Test.YtbhmhhnacpjgpaaDoorPOut
namespace Go.Proofs.YtbhmhhnacpjgpaaDoor
open Go.RowKit

set_option maxRecDepth 100000 in
set_option maxHeartbeats 800000 in
theorem with_bad (w : World) (a k v r : Int) (h : ByteArray) (cp n : Nat) (ao : Option Addr) (i : Int) (it : ByteArray) (hi : ¬ (0 ≤ i ∧ i < (n : Int))) :
    Calls Tryd.prog 15 #[.agg #[.int .i64 a, .int .i64 k, .int .i64 v, .int .i64 r, .string h, .slice ao n cp], .int .i64 i, .string it] w fun e w' => Res w w' e .none 1 := by
  have HB0 := hide (boxes_only w a k v r h (.slice ao n cp))
  have HB1 := hide (boxes_one w a k v r h (.slice ao n cp))
  have HB2 := hide (boxes_two w a k v r h (.slice ao n cp))
  obtain ⟨W0, hW0⟩ : ∃ W0, boxes w a k v r h (.slice ao n cp) = W0 := ⟨_, rfl⟩
  rw [hW0] at HB0 HB1 HB2
  have HW0 := hide hW0
  clear hW0
  obtain ⟨p0, p1, p2, p3, p4, p5, g0, g1, g2, g3, g4, g5, gl⟩ := HB1.out
  have hd : decide (0 ≤ i ∧ i < (n : Int)) = false := decide_eq_false hi
  have HD := hide hd
  clear hd hi
  go_enter Tryd.func15, Tryd.ntmps15
  go_upto_region 1 with fail
  rw [show (w.alloc (.cells #[.int .i64 a, .int .i64 k, .int .i64 v, .int .i64 r, .string h, .slice ao n cp] 24)).alloc (.cells #[.int .i64 0, .int .i64 0, .int .i64 0, .int .i64 0, .string ⟨#[]⟩, .slice none 0 0] 24) = W0 from HW0.out]
  go_wp2_with fail
  refine (hasItem_any _ a k v r i h cp n ao).mono ?_
  rw [HD.out]
  rintro e w1 ⟨rfl, ho1⟩
  have HO1 := hide ho1
  clear p0 p1 p2 p3 p4 p5 g0 g1 g2 g3 g4 g5 gl ho1
  obtain ⟨q0, q1, q2, q3, q4, q5, t0, t1, t2, t3, t4, t5, tl⟩ := HB2.out.more HO1.out
  go_wp2_with fail
  refine bodyPost_ret (results_page rfl rfl (Pag.six (HB2.out.more HO1.out) _ _ _ _ _ _)) rfl ?_
  exact Res.none 1 ((o2 HB0.out HO1.out).trans (Only.six _ (w.heap.size + 1) _ _ _ _ _ _) (fun i hi e => by omega))
set_option maxRecDepth 100000 in
set_option maxHeartbeats 800000 in
theorem put_bad (w : World) (a k v r : Int) (h : ByteArray) (cp n : Nat) (ao : Option Addr) (i : Int) (it : ByteArray) (hi : ¬ (0 ≤ i ∧ i ≤ (n : Int))) :
    Calls Tryd.prog 16 #[.agg #[.int .i64 a, .int .i64 k, .int .i64 v, .int .i64 r, .string h, .slice ao n cp], .int .i64 i, .string it] w fun e w' => Res w w' e .none 1 := by
  have HB0 := hide (boxes_only w a k v r h (.slice ao n cp))
  have HB1 := hide (boxes_one w a k v r h (.slice ao n cp))
  have HB2 := hide (boxes_two w a k v r h (.slice ao n cp))
  obtain ⟨W0, hW0⟩ : ∃ W0, boxes w a k v r h (.slice ao n cp) = W0 := ⟨_, rfl⟩
  rw [hW0] at HB0 HB1 HB2
  have HW0 := hide hW0
  clear hW0
  obtain ⟨p0, p1, p2, p3, p4, p5, g0, g1, g2, g3, g4, g5, gl⟩ := HB1.out
  obtain ⟨q0, q1, q2, q3, q4, q5, t0, t1, t2, t3, t4, t5, tl⟩ := HB2.out
  by_cases h0 : i < 0
  · clear hi
    go_enter Tryd.func16, Tryd.ntmps16
    go_upto_region 1 with fail
    rw [show (w.alloc (.cells #[.int .i64 a, .int .i64 k, .int .i64 v, .int .i64 r, .string h, .slice ao n cp] 24)).alloc (.cells #[.int .i64 0, .int .i64 0, .int .i64 0, .int .i64 0, .string ⟨#[]⟩, .slice none 0 0] 24) = W0 from HW0.out]
    go_wp2_with fail
    refine bodyPost_ret (results_page rfl rfl (Pag.six (HB2.out) _ _ _ _ _ _)) rfl ?_
    exact Res.none 1 (HB0.out.trans (Only.six _ (w.heap.size + 1) _ _ _ _ _ _) (fun i hi e => by omega))
  · have h1 : (n : Int) < i := by omega
    have h00 : 0 ≤ i := by omega
    clear hi h0
    go_enter Tryd.func16, Tryd.ntmps16
    go_upto_region 1 with fail
    rw [show (w.alloc (.cells #[.int .i64 a, .int .i64 k, .int .i64 v, .int .i64 r, .string h, .slice ao n cp] 24)).alloc (.cells #[.int .i64 0, .int .i64 0, .int .i64 0, .int .i64 0, .string ⟨#[]⟩, .slice none 0 0] 24) = W0 from HW0.out]
    go_wp2_with fail
    refine bodyPost_ret (results_page rfl rfl (Pag.six (HB2.out) _ _ _ _ _ _)) rfl ?_
    exact Res.none 1 (HB0.out.trans (Only.six _ (w.heap.size + 1) _ _ _ _ _ _) (fun i hi e => by omega))
set_option maxRecDepth 100000 in
set_option maxHeartbeats 800000 in
theorem pout_bad (w : World) (a k v r : Int) (h : ByteArray) (cp n : Nat) (ao : Option Addr) (i : Int) (hi : ¬ (0 ≤ i ∧ i < (n : Int))) :
    Calls Tryd.prog 17 #[.agg #[.int .i64 a, .int .i64 k, .int .i64 v, .int .i64 r, .string h, .slice ao n cp], .int .i64 i] w fun e w' => Res w w' e .none 1 := by
  have HB0 := hide (boxes_only w a k v r h (.slice ao n cp))
  have HB1 := hide (boxes_one w a k v r h (.slice ao n cp))
  have HB2 := hide (boxes_two w a k v r h (.slice ao n cp))
  obtain ⟨W0, hW0⟩ : ∃ W0, boxes w a k v r h (.slice ao n cp) = W0 := ⟨_, rfl⟩
  rw [hW0] at HB0 HB1 HB2
  have HW0 := hide hW0
  clear hW0
  obtain ⟨p0, p1, p2, p3, p4, p5, g0, g1, g2, g3, g4, g5, gl⟩ := HB1.out
  have hd : decide (0 ≤ i ∧ i < (n : Int)) = false := decide_eq_false hi
  have HD := hide hd
  clear hd hi
  go_enter Tryd.func17, Tryd.ntmps17
  go_upto_region 1 with fail
  rw [show (w.alloc (.cells #[.int .i64 a, .int .i64 k, .int .i64 v, .int .i64 r, .string h, .slice ao n cp] 24)).alloc (.cells #[.int .i64 0, .int .i64 0, .int .i64 0, .int .i64 0, .string ⟨#[]⟩, .slice none 0 0] 24) = W0 from HW0.out]
  go_wp2_with fail
  refine (hasItem_any _ a k v r i h cp n ao).mono ?_
  rw [HD.out]
  rintro e w1 ⟨rfl, ho1⟩
  have HO1 := hide ho1
  clear p0 p1 p2 p3 p4 p5 g0 g1 g2 g3 g4 g5 gl ho1
  obtain ⟨q0, q1, q2, q3, q4, q5, t0, t1, t2, t3, t4, t5, tl⟩ := HB2.out.more HO1.out
  go_wp2_with fail
  refine bodyPost_ret (results_page rfl rfl (Pag.six (HB2.out.more HO1.out) _ _ _ _ _ _)) rfl ?_
  exact Res.none 1 ((o2 HB0.out HO1.out).trans (Only.six _ (w.heap.size + 1) _ _ _ _ _ _) (fun i hi e => by omega))
set_option maxRecDepth 100000 in
set_option maxHeartbeats 800000 in
theorem ywith_bad (w : World) (a k v r : Int) (h : ByteArray) (cp n : Nat) (ao : Option Addr) (i : Int) (it : ByteArray) (hi : ¬ (0 ≤ i ∧ i < (n : Int))) :
    Calls Tryd.prog 18 #[.agg #[.int .i64 a, .int .i64 k, .int .i64 v, .int .i64 r, .string h, .slice ao n cp], .int .i64 i, .string it] w fun e w' => Res w w' e .none 1 := by
  have HB0 := hide (boxes_only w a k v r h (.slice ao n cp))
  have HB1 := hide (boxes_one w a k v r h (.slice ao n cp))
  have HB2 := hide (boxes_two w a k v r h (.slice ao n cp))
  obtain ⟨W0, hW0⟩ : ∃ W0, boxes w a k v r h (.slice ao n cp) = W0 := ⟨_, rfl⟩
  rw [hW0] at HB0 HB1 HB2
  have HW0 := hide hW0
  clear hW0
  obtain ⟨p0, p1, p2, p3, p4, p5, g0, g1, g2, g3, g4, g5, gl⟩ := HB1.out
  obtain ⟨q0, q1, q2, q3, q4, q5, t0, t1, t2, t3, t4, t5, tl⟩ := HB2.out
  by_cases h0 : i < 0
  · clear hi
    go_enter Tryd.func18, Tryd.ntmps18
    go_upto_region 1 with fail
    rw [show (w.alloc (.cells #[.int .i64 a, .int .i64 k, .int .i64 v, .int .i64 r, .string h, .slice ao n cp] 24)).alloc (.cells #[.int .i64 0, .int .i64 0, .int .i64 0, .int .i64 0, .string ⟨#[]⟩, .slice none 0 0] 24) = W0 from HW0.out]
    go_wp2_with fail
    refine bodyPost_ret (results_page rfl rfl (Pag.six (HB2.out) _ _ _ _ _ _)) rfl ?_
    exact Res.none 1 (HB0.out.trans (Only.six _ (w.heap.size + 1) _ _ _ _ _ _) (fun i hi e => by omega))
  · have h1 : (n : Int) ≤ i := by omega
    have h00 : 0 ≤ i := by omega
    clear hi h0
    go_enter Tryd.func18, Tryd.ntmps18
    go_upto_region 1 with fail
    rw [show (w.alloc (.cells #[.int .i64 a, .int .i64 k, .int .i64 v, .int .i64 r, .string h, .slice ao n cp] 24)).alloc (.cells #[.int .i64 0, .int .i64 0, .int .i64 0, .int .i64 0, .string ⟨#[]⟩, .slice none 0 0] 24) = W0 from HW0.out]
    go_wp2_with fail
    refine bodyPost_ret (results_page rfl rfl (Pag.six (HB2.out) _ _ _ _ _ _)) rfl ?_
    exact Res.none 1 (HB0.out.trans (Only.six _ (w.heap.size + 1) _ _ _ _ _ _) (fun i hi e => by omega))
set_option maxRecDepth 100000 in
set_option maxHeartbeats 800000 in
theorem yput_bad (w : World) (a k v r : Int) (h : ByteArray) (cp n : Nat) (ao : Option Addr) (i : Int) (it : ByteArray) (hi : ¬ (0 ≤ i ∧ i ≤ (n : Int))) :
    Calls Tryd.prog 19 #[.agg #[.int .i64 a, .int .i64 k, .int .i64 v, .int .i64 r, .string h, .slice ao n cp], .int .i64 i, .string it] w fun e w' => Res w w' e .none 1 := by
  have HB0 := hide (boxes_only w a k v r h (.slice ao n cp))
  have HB1 := hide (boxes_one w a k v r h (.slice ao n cp))
  have HB2 := hide (boxes_two w a k v r h (.slice ao n cp))
  obtain ⟨W0, hW0⟩ : ∃ W0, boxes w a k v r h (.slice ao n cp) = W0 := ⟨_, rfl⟩
  rw [hW0] at HB0 HB1 HB2
  have HW0 := hide hW0
  clear hW0
  obtain ⟨p0, p1, p2, p3, p4, p5, g0, g1, g2, g3, g4, g5, gl⟩ := HB1.out
  obtain ⟨q0, q1, q2, q3, q4, q5, t0, t1, t2, t3, t4, t5, tl⟩ := HB2.out
  by_cases h0 : i < 0
  · clear hi
    go_enter Tryd.func19, Tryd.ntmps19
    go_upto_region 1 with fail
    rw [show (w.alloc (.cells #[.int .i64 a, .int .i64 k, .int .i64 v, .int .i64 r, .string h, .slice ao n cp] 24)).alloc (.cells #[.int .i64 0, .int .i64 0, .int .i64 0, .int .i64 0, .string ⟨#[]⟩, .slice none 0 0] 24) = W0 from HW0.out]
    go_wp2_with fail
    refine bodyPost_ret (results_page rfl rfl (Pag.six (HB2.out) _ _ _ _ _ _)) rfl ?_
    exact Res.none 1 (HB0.out.trans (Only.six _ (w.heap.size + 1) _ _ _ _ _ _) (fun i hi e => by omega))
  · have h1 : (n : Int) < i := by omega
    have h00 : 0 ≤ i := by omega
    clear hi h0
    go_enter Tryd.func19, Tryd.ntmps19
    go_upto_region 1 with fail
    rw [show (w.alloc (.cells #[.int .i64 a, .int .i64 k, .int .i64 v, .int .i64 r, .string h, .slice ao n cp] 24)).alloc (.cells #[.int .i64 0, .int .i64 0, .int .i64 0, .int .i64 0, .string ⟨#[]⟩, .slice none 0 0] 24) = W0 from HW0.out]
    go_wp2_with fail
    refine bodyPost_ret (results_page rfl rfl (Pag.six (HB2.out) _ _ _ _ _ _)) rfl ?_
    exact Res.none 1 (HB0.out.trans (Only.six _ (w.heap.size + 1) _ _ _ _ _ _) (fun i hi e => by omega))
set_option maxRecDepth 100000 in
set_option maxHeartbeats 800000 in
theorem yout_bad (w : World) (a k v r : Int) (h : ByteArray) (cp n : Nat) (ao : Option Addr) (i : Int) (hi : ¬ (0 ≤ i ∧ i < (n : Int))) :
    Calls Tryd.prog 20 #[.agg #[.int .i64 a, .int .i64 k, .int .i64 v, .int .i64 r, .string h, .slice ao n cp], .int .i64 i] w fun e w' => Res w w' e .none 1 := by
  have HB0 := hide (boxes_only w a k v r h (.slice ao n cp))
  have HB1 := hide (boxes_one w a k v r h (.slice ao n cp))
  have HB2 := hide (boxes_two w a k v r h (.slice ao n cp))
  obtain ⟨W0, hW0⟩ : ∃ W0, boxes w a k v r h (.slice ao n cp) = W0 := ⟨_, rfl⟩
  rw [hW0] at HB0 HB1 HB2
  have HW0 := hide hW0
  clear hW0
  obtain ⟨p0, p1, p2, p3, p4, p5, g0, g1, g2, g3, g4, g5, gl⟩ := HB1.out
  obtain ⟨q0, q1, q2, q3, q4, q5, t0, t1, t2, t3, t4, t5, tl⟩ := HB2.out
  by_cases h0 : i < 0
  · clear hi
    go_enter Tryd.func20, Tryd.ntmps20
    go_upto_region 1 with fail
    rw [show (w.alloc (.cells #[.int .i64 a, .int .i64 k, .int .i64 v, .int .i64 r, .string h, .slice ao n cp] 24)).alloc (.cells #[.int .i64 0, .int .i64 0, .int .i64 0, .int .i64 0, .string ⟨#[]⟩, .slice none 0 0] 24) = W0 from HW0.out]
    go_wp2_with fail
    refine bodyPost_ret (results_page rfl rfl (Pag.six (HB2.out) _ _ _ _ _ _)) rfl ?_
    exact Res.none 1 (HB0.out.trans (Only.six _ (w.heap.size + 1) _ _ _ _ _ _) (fun i hi e => by omega))
  · have h1 : (n : Int) ≤ i := by omega
    have h00 : 0 ≤ i := by omega
    clear hi h0
    go_enter Tryd.func20, Tryd.ntmps20
    go_upto_region 1 with fail
    rw [show (w.alloc (.cells #[.int .i64 a, .int .i64 k, .int .i64 v, .int .i64 r, .string h, .slice ao n cp] 24)).alloc (.cells #[.int .i64 0, .int .i64 0, .int .i64 0, .int .i64 0, .string ⟨#[]⟩, .slice none 0 0] 24) = W0 from HW0.out]
    go_wp2_with fail
    refine bodyPost_ret (results_page rfl rfl (Pag.six (HB2.out) _ _ _ _ _ _)) rfl ?_
    exact Res.none 1 (HB0.out.trans (Only.six _ (w.heap.size + 1) _ _ _ _ _ _) (fun i hi e => by omega))
set_option maxRecDepth 100000 in
set_option maxHeartbeats 1600000 in
theorem yput_none (w : World) (a k v r : Int) (h : ByteArray) (it : ByteArray) (hit : it.size ≤ 140737488355328) (hh : h.size ≤ 140737488355328) :
    Calls Tryd.prog 19 #[.agg #[.int .i64 a, .int .i64 k, .int .i64 v, .int .i64 r, .string h, .slice none 0 0], .int .i64 0, .string it] w fun e w' =>
      Res w w' e (chg (true = true ∧ (255 < ([] ++ [it] ++ [] : List ByteArray).length ∨ 512 < 20 + h.size + isz ([] ++ [it] ++ []))) ⟨a, k, v, r, h, [] ++ [it] ++ []⟩).1 (chg (true = true ∧ (255 < ([] ++ [it] ++ [] : List ByteArray).length ∨ 512 < 20 + h.size + isz ([] ++ [it] ++ []))) ⟨a, k, v, r, h, [] ++ [it] ++ []⟩).2 := by
  have HB0 := hide (boxes_only w a k v r h (.slice none 0 0))
  have HB1 := hide (boxes_one w a k v r h (.slice none 0 0))
  have HB2 := hide (boxes_two w a k v r h (.slice none 0 0))
  have HBZ := hide (boxes_size w a k v r h (.slice none 0 0))
  obtain ⟨W0, hW0⟩ : ∃ W0, boxes w a k v r h (.slice none 0 0) = W0 := ⟨_, rfl⟩
  rw [hW0] at HB0 HB1 HB2 HBZ
  have HW0 := hide hW0
  clear hW0
  have hW1 : Only (fun _ => False) W0 (W0.drew.alloc (.cells #[.string it] 9)) := o2 (Only.drew _ _) (onlyA _ _)
  have HC := hide (changed_any (W0.drew.alloc (.cells #[.string it] 9)) a k v r h (.slice none 0 0) none (some ⟨W0.heap.size, 0, none⟩) none 0 W0.heap.size 0 0 1 0 0 1 0 [] [it] [] true rfl rfl rfl
    (Strs.nil _ _ _) (Strs.one W0.drew it hit) (Strs.nil _ _ _) ⟨fun _ => rfl, by omega, by unfold maxLen; omega⟩ ⟨fun h => (by cases h), by omega, by unfold maxLen; omega⟩ ⟨fun _ => rfl, by omega, by unfold maxLen; omega⟩ hh (by omega))
  have HW1 := hide hW1
  have HBS : Hid (w.heap.size + 1 < (W0.drew.alloc (.cells #[.string it] 9)).heap.size) := by unfold Hid; have h1 := hW1.size; have h2 := HBZ.out; omega
  obtain ⟨P, hP⟩ : ∃ P, chg (true = true ∧ (255 < ([] ++ [it] ++ [] : List ByteArray).length ∨ 512 < 20 + h.size + isz ([] ++ [it] ++ []))) ⟨a, k, v, r, h, [] ++ [it] ++ []⟩ = P := ⟨_, rfl⟩
  rw [hP]
  have HP := hide hP
  clear hP hW1
  obtain ⟨p0, p1, p2, p3, p4, p5, g0, g1, g2, g3, g4, g5, gl⟩ := HB1.out
  go_enter Tryd.func19, Tryd.ntmps19
  go_upto_region 1 with fail
  rw [show (w.alloc (.cells #[.int .i64 a, .int .i64 k, .int .i64 v, .int .i64 r, .string h, .slice none 0 0] 24)).alloc (.cells #[.int .i64 0, .int .i64 0, .int .i64 0, .int .i64 0, .string ⟨#[]⟩, .slice none 0 0] 24) = W0 from HW0.out]
  go_upto_region 3 with fail
  refine wp_region_noPanic ?_
  refine wp_region_held_drew (S := fun W => Only (fun k => k = w.heap.size + 1) W0 W) (by kernel_rfl) (Only.drew _ _) (fun hHeld => ?_)
  refine wpAnyH_take (i := 0) (oi := { dst := some 18, op := Op.load 24 (Operand.tmp 3), type := 24, pos := "ref.go:97", after := #[], guard := none }) (v := .agg #[.int .i64 a, .int .i64 k, .int .i64 v, .int .i64 r, .string h, .slice none 0 0]) rfl (by kernel_rfl) (by kernel_rfl) (by kernel_rfl) (fun _ _ _ h => h) (yieldsIf_load_page (by rfl) _ rfl _ rfl (fun W hW => HB1.out.kept hW (by omega))) (by assumption) ?_
  simp only [Act.put, List.setIfInBounds_toArray, List.set_cons_zero, List.set_cons_succ]
  refine wpAnyH_take (i := 1) (oi := { dst := some 19, op := Op.fieldAddr 24 (Operand.tmp 3) 5, type := 0, pos := "ref.go:97", after := #[], guard := none }) (v := .pointer (some ⟨w.heap.size, 5, none⟩)) rfl (by kernel_rfl) (by kernel_rfl) (by kernel_rfl) (fun _ _ _ h => h) (Or.inl ⟨by rfl, fun w' hSw => by clear hSw; go_simp⟩) (by assumption) ?_
  simp only [Act.put, List.setIfInBounds_toArray, List.set_cons_zero, List.set_cons_succ]
  refine wpAnyH_take (i := 3) (oi := { dst := some 21, op := Op.move (Operand.tmp 1), type := 3, pos := "ref.go:97", after := #[], guard := none }) (v := .int .i64 0) rfl (by kernel_rfl) (by kernel_rfl) (by kernel_rfl) (fun _ _ _ h => h) (Or.inl ⟨by rfl, fun w' hSw => by clear hSw; go_simp⟩) (by assumption) ?_
  simp only [Act.put, List.setIfInBounds_toArray, List.set_cons_zero, List.set_cons_succ]
  refine wpAnyH_take (i := 5) (oi := { dst := some 23, op := Op.move (Operand.tmp 2), type := 9, pos := "ref.go:97", after := #[], guard := none }) (v := .string it) rfl (by kernel_rfl) (by kernel_rfl) (by kernel_rfl) (fun _ _ _ h => h) (Or.inl ⟨by rfl, fun w' hSw => by clear hSw; go_simp⟩) (by assumption) ?_
  simp only [Act.put, List.setIfInBounds_toArray, List.set_cons_zero, List.set_cons_succ]
  refine wpAnyH_take (i := 7) (oi := { dst := some 25, op := Op.fieldAddr 24 (Operand.tmp 3) 5, type := 0, pos := "ref.go:97", after := #[], guard := none }) (v := .pointer (some ⟨w.heap.size, 5, none⟩)) rfl (by kernel_rfl) (by kernel_rfl) (by kernel_rfl) (fun _ _ _ h => h) (Or.inl ⟨by rfl, fun w' hSw => by clear hSw; go_simp⟩) (by assumption) ?_
  simp only [Act.put, List.setIfInBounds_toArray, List.set_cons_zero, List.set_cons_succ]
  refine wpAnyH_take (i := 9) (oi := { dst := some 27, op := Op.move (Operand.tmp 1), type := 3, pos := "ref.go:97", after := #[], guard := none }) (v := .int .i64 0) rfl (by kernel_rfl) (by kernel_rfl) (by kernel_rfl) (fun _ _ _ h => h) (Or.inl ⟨by rfl, fun w' hSw => by clear hSw; go_simp⟩) (by assumption) ?_
  simp only [Act.put, List.setIfInBounds_toArray, List.set_cons_zero, List.set_cons_succ]
  refine wpAnyH_take (i := 2) (oi := { dst := some 20, op := Op.load 22 (Operand.tmp 19), type := 22, pos := "ref.go:97", after := #[{ on := 1, ground := Ground.data }], guard := none }) (v := .slice none 0 0) rfl (by kernel_rfl) (by kernel_rfl) (by kernel_rfl) (fun _ _ _ h => h) (yieldsIf_load_cell (by rfl) 22 _ rfl _ rfl (fun W hW => (HB1.out.kept hW (by omega)).c5) (fun W hc => ld_strings hc)) (by assumption) ?_
  simp only [Act.put, List.setIfInBounds_toArray, List.set_cons_zero, List.set_cons_succ]
  refine wpAnyH_take (i := 8) (oi := { dst := some 26, op := Op.load 22 (Operand.tmp 25), type := 22, pos := "ref.go:97", after := #[{ on := 7, ground := Ground.data }], guard := none }) (v := .slice none 0 0) rfl (by kernel_rfl) (by kernel_rfl) (by kernel_rfl) (fun _ _ _ h => h) (yieldsIf_load_cell (by rfl) 22 _ rfl _ rfl (fun W hW => (HB1.out.kept hW (by omega)).c5) (fun W hc => ld_strings hc)) (by assumption) ?_
  simp only [Act.put, List.setIfInBounds_toArray, List.set_cons_zero, List.set_cons_succ]
  refine wpAnyH_take (i := 4) (oi := { dst := some 22, op := Op.slice 22 (Operand.tmp 20) none (some (Operand.tmp 21)) none, type := 22, pos := "ref.go:97", after := #[{ on := 2, ground := Ground.data }, { on := 3, ground := Ground.data }], guard := none }) (v := .slice none 0 0) rfl (by kernel_rfl) (by kernel_rfl) (by kernel_rfl) (fun _ _ _ h => h) (Or.inl ⟨by rfl, fun w' hSw => by clear hSw; go_simp⟩) (by assumption) ?_
  simp only [Act.put, List.setIfInBounds_toArray, List.set_cons_zero, List.set_cons_succ]
  refine wpAnyH_take (i := 10) (oi := { dst := some 28, op := Op.slice 22 (Operand.tmp 26) (some (Operand.tmp 27)) none none, type := 22, pos := "ref.go:97", after := #[{ on := 8, ground := Ground.data }, { on := 9, ground := Ground.data }], guard := none }) (v := .slice none 0 0) rfl (by kernel_rfl) (by kernel_rfl) (by kernel_rfl) (fun _ _ _ h => h) (Or.inl ⟨by rfl, fun w' hSw => by clear hSw; go_simp⟩) (by assumption) ?_
  simp only [Act.put, List.setIfInBounds_toArray, List.set_cons_zero, List.set_cons_succ]
  refine wpAnyH_ready (rs := [6]) (by kernel_rfl) (by simp) ?_
  refine AllReadyH.cons (o := { dst := some 24, op := Op.buildSlice 22 1 #[(0, Operand.tmp 23)], type := 22, pos := "ref.go:97", after := #[{ on := 5, ground := Ground.data }], guard := none }) rfl (fun K hK => ?_) (AllReadyH.nil)
  go_simp
  refine hK.out _ _ (only_any HW1.out) (fun hHeld => ?_)
  clear hK K
  try simp only [Act.put, List.setIfInBounds_toArray, List.set_cons_zero, List.set_cons_succ]
  refine wpAnyH_ready (rs := [11]) (by kernel_rfl) (by simp) ?_
  refine AllReadyH.cons (o := { dst := some 29, op := Op.call { callee := Callee.value (Operand.func 40), args := #[Operand.tmp 18, Operand.tmp 22, Operand.tmp 24, Operand.tmp 28, Operand.const (Value.bool true)], argTypes := #[24, 22, 22, 22, 4] }, type := 33, pos := "ref.go:97", after := #[{ on := 0, ground := Ground.data }, { on := 4, ground := Ground.data }, { on := 6, ground := Ground.data }, { on := 10, ground := Ground.data }], guard := none }) rfl (fun K hK => ?_) (AllReadyH.nil)
  go_simp
  refine HC.out.mono ?_
  intro e x hx
  have hx := hx.res
  obtain ⟨B5, ao5, cp5, rfl, hS5, hF5, ho5, hn5⟩ := (show Res _ x e P.1 P.2 from by rw [← HP.out]; exact hx)
  have HO5 := hide ho5
  obtain ⟨q0, q1, q2, q3, q4, q5, t0, t1, t2, t3, t4, t5, tl⟩ := HB2.out.more (o2 HW1.out ho5)
  have HS5 := hide hS5
  have HN5 := hide hn5
  clear hx hS5 ho5 hn5
  refine hK.out _ _ (only_any (o2 HW1.out HO5.out)) (fun hHeld => ?_)
  clear hK K
  try simp only [Act.put, List.setIfInBounds_toArray, List.set_cons_zero, List.set_cons_succ]
  refine wpAnyH_take (i := 12) (oi := { dst := some 30, op := Op.extract (Operand.tmp 29) 0, type := 24, pos := "ref.go:97", after := #[{ on := 11, ground := Ground.data }], guard := none }) (v := .agg #[.int .i64 P.1.lsn, .int .i64 P.1.kind, .int .i64 P.1.level, .int .i64 P.1.right, .string P.1.high, .slice ao5 P.1.items.length cp5]) rfl (by kernel_rfl) (by kernel_rfl) (by kernel_rfl) (fun _ _ _ h => h) (Or.inl ⟨by rfl, fun w' hSw => by clear hSw; go_simp⟩) (by assumption) ?_
  simp only [Act.put, List.setIfInBounds_toArray, List.set_cons_zero, List.set_cons_succ]
  refine wpAnyH_take (i := 13) (oi := { dst := some 31, op := Op.extract (Operand.tmp 29) 1, type := 26, pos := "ref.go:97", after := #[{ on := 11, ground := Ground.data }], guard := none }) (v := .int .i64 P.2) rfl (by kernel_rfl) (by kernel_rfl) (by kernel_rfl) (fun _ _ _ h => h) (Or.inl ⟨by rfl, fun w' hSw => by clear hSw; go_simp⟩) (by assumption) ?_
  simp only [Act.put, List.setIfInBounds_toArray, List.set_cons_zero, List.set_cons_succ]
  refine wpAnyH_ready (rs := [14]) (by kernel_rfl) (by simp) ?_
  refine AllReadyH.cons (o := { dst := none, op := Op.store 24 (Operand.tmp 6) (Operand.tmp 30), type := 0, pos := "ref.go:97", after := #[{ on := 12, ground := Ground.data }, { on := 11, ground := Ground.chain }, { on := 0, ground := Ground.phase }, { on := 1, ground := Ground.phase }, { on := 2, ground := Ground.phase }, { on := 3, ground := Ground.phase }, { on := 4, ground := Ground.phase }, { on := 5, ground := Ground.phase }, { on := 6, ground := Ground.phase }, { on := 7, ground := Ground.phase }, { on := 8, ground := Ground.phase }, { on := 9, ground := Ground.phase }, { on := 10, ground := Ground.phase }, { on := 11, ground := Ground.phase }, { on := 12, ground := Ground.phase }, { on := 13, ground := Ground.phase }], guard := none }) rfl (fun K hK => ?_) (AllReadyH.nil)
  go_simp
  refine hK.out _ _ ((only_any (o2 HW1.out HO5.out)).trans (Only.six _ _ _ _ _ _ _ _) (fun _ _ h => h)) (fun hHeld => ?_)
  clear hK K
  try simp only [Act.put, List.setIfInBounds_toArray, List.set_cons_zero, List.set_cons_succ]
  refine wpAnyH_take (i := 15) (oi := { dst := some 7, op := Op.assign (Operand.tmp 31), type := 26, pos := "ref.go:97", after := #[{ on := 13, ground := Ground.data }, { on := 14, ground := Ground.chain }, { on := 0, ground := Ground.phase }, { on := 1, ground := Ground.phase }, { on := 2, ground := Ground.phase }, { on := 3, ground := Ground.phase }, { on := 4, ground := Ground.phase }, { on := 5, ground := Ground.phase }, { on := 6, ground := Ground.phase }, { on := 7, ground := Ground.phase }, { on := 8, ground := Ground.phase }, { on := 9, ground := Ground.phase }, { on := 10, ground := Ground.phase }, { on := 11, ground := Ground.phase }, { on := 12, ground := Ground.phase }, { on := 13, ground := Ground.phase }, { on := 14, ground := Ground.phase }], guard := none }) (v := .int .i64 P.2) rfl (by kernel_rfl) (by kernel_rfl) (by kernel_rfl) (fun _ _ _ h => h) (Or.inl ⟨by rfl, fun w' hSw => by clear hSw; go_simp⟩) (by assumption) ?_
  simp only [Act.put, List.setIfInBounds_toArray, List.set_cons_zero, List.set_cons_succ]
  refine wpAnyH_done (by kernel_rfl) ?_ _
  refine NoPanic.normal ?_
  rw [Exit.then]
  go_wp2_with fail
  refine bodyPost_ret (results_page rfl rfl (Pag.six (HB2.out.more (o2 HW1.out HO5.out)) _ _ _ _ _ _)) rfl ?_
  exact res_laid (o2 HB0.out HW1.out) HBS.out HS5.out hF5 HO5.out HN5.out _ _ _ _ _ _
set_option maxRecDepth 100000 in
set_option maxHeartbeats 1600000 in
theorem yput_emp (w : World) (a k v r : Int) (h : ByteArray) (A : Addr) (cp : Nat) (hbig : cp ≤ maxLen) (it : ByteArray) (hit : it.size ≤ 140737488355328) (hh : h.size ≤ 140737488355328) :
    Calls Tryd.prog 19 #[.agg #[.int .i64 a, .int .i64 k, .int .i64 v, .int .i64 r, .string h, .slice (some A) 0 cp], .int .i64 0, .string it] w fun e w' =>
      Res w w' e (chg (true = true ∧ (255 < ([] ++ [it] ++ [] : List ByteArray).length ∨ 512 < 20 + h.size + isz ([] ++ [it] ++ []))) ⟨a, k, v, r, h, [] ++ [it] ++ []⟩).1 (chg (true = true ∧ (255 < ([] ++ [it] ++ [] : List ByteArray).length ∨ 512 < 20 + h.size + isz ([] ++ [it] ++ []))) ⟨a, k, v, r, h, [] ++ [it] ++ []⟩).2 := by
  have HB0 := hide (boxes_only w a k v r h (.slice (some A) 0 cp))
  have HB1 := hide (boxes_one w a k v r h (.slice (some A) 0 cp))
  have HB2 := hide (boxes_two w a k v r h (.slice (some A) 0 cp))
  have HBZ := hide (boxes_size w a k v r h (.slice (some A) 0 cp))
  obtain ⟨W0, hW0⟩ : ∃ W0, boxes w a k v r h (.slice (some A) 0 cp) = W0 := ⟨_, rfl⟩
  rw [hW0] at HB0 HB1 HB2 HBZ
  have HW0 := hide hW0
  clear hW0
  have hW1 : Only (fun _ => False) W0 (W0.drew.alloc (.cells #[.string it] 9)) := o2 (Only.drew _ _) (onlyA _ _)
  have HC := hide (changed_any (W0.drew.alloc (.cells #[.string it] 9)) a k v r h (.slice (some A) 0 cp) (some A) (some ⟨W0.heap.size, 0, none⟩) (some A) 0 W0.heap.size 0 cp 1 cp 0 1 0 [] [it] [] true rfl rfl rfl
    (Strs.nil _ _ _) (Strs.one W0.drew it hit) (Strs.nil _ _ _) ⟨fun h => (by cases h), by omega, hbig⟩ ⟨fun h => (by cases h), by omega, by unfold maxLen; omega⟩ ⟨fun h => (by cases h), by omega, hbig⟩ hh (by omega))
  have HW1 := hide hW1
  have HBS : Hid (w.heap.size + 1 < (W0.drew.alloc (.cells #[.string it] 9)).heap.size) := by unfold Hid; have h1 := hW1.size; have h2 := HBZ.out; omega
  obtain ⟨P, hP⟩ : ∃ P, chg (true = true ∧ (255 < ([] ++ [it] ++ [] : List ByteArray).length ∨ 512 < 20 + h.size + isz ([] ++ [it] ++ []))) ⟨a, k, v, r, h, [] ++ [it] ++ []⟩ = P := ⟨_, rfl⟩
  rw [hP]
  have HP := hide hP
  clear hP hW1
  have hadd : A.add 0 = A := by unfold Addr.add; simp
  have hcp0 : (0 : Int) ≤ (cp : Int) := by omega
  unfold maxLen at hbig
  obtain ⟨p0, p1, p2, p3, p4, p5, g0, g1, g2, g3, g4, g5, gl⟩ := HB1.out
  go_enter Tryd.func19, Tryd.ntmps19
  go_upto_region 1 with fail
  rw [show (w.alloc (.cells #[.int .i64 a, .int .i64 k, .int .i64 v, .int .i64 r, .string h, .slice (some A) 0 cp] 24)).alloc (.cells #[.int .i64 0, .int .i64 0, .int .i64 0, .int .i64 0, .string ⟨#[]⟩, .slice none 0 0] 24) = W0 from HW0.out]
  go_upto_region 3 with fail
  refine wp_region_noPanic ?_
  refine wp_region_held_drew (S := fun W => Only (fun k => k = w.heap.size + 1) W0 W) (by kernel_rfl) (Only.drew _ _) (fun hHeld => ?_)
  refine wpAnyH_take (i := 0) (oi := { dst := some 18, op := Op.load 24 (Operand.tmp 3), type := 24, pos := "ref.go:97", after := #[], guard := none }) (v := .agg #[.int .i64 a, .int .i64 k, .int .i64 v, .int .i64 r, .string h, .slice (some A) 0 cp]) rfl (by kernel_rfl) (by kernel_rfl) (by kernel_rfl) (fun _ _ _ h => h) (yieldsIf_load_page (by rfl) _ rfl _ rfl (fun W hW => HB1.out.kept hW (by omega))) (by assumption) ?_
  simp only [Act.put, List.setIfInBounds_toArray, List.set_cons_zero, List.set_cons_succ]
  refine wpAnyH_take (i := 1) (oi := { dst := some 19, op := Op.fieldAddr 24 (Operand.tmp 3) 5, type := 0, pos := "ref.go:97", after := #[], guard := none }) (v := .pointer (some ⟨w.heap.size, 5, none⟩)) rfl (by kernel_rfl) (by kernel_rfl) (by kernel_rfl) (fun _ _ _ h => h) (Or.inl ⟨by rfl, fun w' hSw => by clear hSw; go_simp⟩) (by assumption) ?_
  simp only [Act.put, List.setIfInBounds_toArray, List.set_cons_zero, List.set_cons_succ]
  refine wpAnyH_take (i := 3) (oi := { dst := some 21, op := Op.move (Operand.tmp 1), type := 3, pos := "ref.go:97", after := #[], guard := none }) (v := .int .i64 0) rfl (by kernel_rfl) (by kernel_rfl) (by kernel_rfl) (fun _ _ _ h => h) (Or.inl ⟨by rfl, fun w' hSw => by clear hSw; go_simp⟩) (by assumption) ?_
  simp only [Act.put, List.setIfInBounds_toArray, List.set_cons_zero, List.set_cons_succ]
  refine wpAnyH_take (i := 5) (oi := { dst := some 23, op := Op.move (Operand.tmp 2), type := 9, pos := "ref.go:97", after := #[], guard := none }) (v := .string it) rfl (by kernel_rfl) (by kernel_rfl) (by kernel_rfl) (fun _ _ _ h => h) (Or.inl ⟨by rfl, fun w' hSw => by clear hSw; go_simp⟩) (by assumption) ?_
  simp only [Act.put, List.setIfInBounds_toArray, List.set_cons_zero, List.set_cons_succ]
  refine wpAnyH_take (i := 7) (oi := { dst := some 25, op := Op.fieldAddr 24 (Operand.tmp 3) 5, type := 0, pos := "ref.go:97", after := #[], guard := none }) (v := .pointer (some ⟨w.heap.size, 5, none⟩)) rfl (by kernel_rfl) (by kernel_rfl) (by kernel_rfl) (fun _ _ _ h => h) (Or.inl ⟨by rfl, fun w' hSw => by clear hSw; go_simp⟩) (by assumption) ?_
  simp only [Act.put, List.setIfInBounds_toArray, List.set_cons_zero, List.set_cons_succ]
  refine wpAnyH_take (i := 9) (oi := { dst := some 27, op := Op.move (Operand.tmp 1), type := 3, pos := "ref.go:97", after := #[], guard := none }) (v := .int .i64 0) rfl (by kernel_rfl) (by kernel_rfl) (by kernel_rfl) (fun _ _ _ h => h) (Or.inl ⟨by rfl, fun w' hSw => by clear hSw; go_simp⟩) (by assumption) ?_
  simp only [Act.put, List.setIfInBounds_toArray, List.set_cons_zero, List.set_cons_succ]
  refine wpAnyH_take (i := 2) (oi := { dst := some 20, op := Op.load 22 (Operand.tmp 19), type := 22, pos := "ref.go:97", after := #[{ on := 1, ground := Ground.data }], guard := none }) (v := .slice (some A) 0 cp) rfl (by kernel_rfl) (by kernel_rfl) (by kernel_rfl) (fun _ _ _ h => h) (yieldsIf_load_cell (by rfl) 22 _ rfl _ rfl (fun W hW => (HB1.out.kept hW (by omega)).c5) (fun W hc => ld_strings hc)) (by assumption) ?_
  simp only [Act.put, List.setIfInBounds_toArray, List.set_cons_zero, List.set_cons_succ]
  refine wpAnyH_take (i := 8) (oi := { dst := some 26, op := Op.load 22 (Operand.tmp 25), type := 22, pos := "ref.go:97", after := #[{ on := 7, ground := Ground.data }], guard := none }) (v := .slice (some A) 0 cp) rfl (by kernel_rfl) (by kernel_rfl) (by kernel_rfl) (fun _ _ _ h => h) (yieldsIf_load_cell (by rfl) 22 _ rfl _ rfl (fun W hW => (HB1.out.kept hW (by omega)).c5) (fun W hc => ld_strings hc)) (by assumption) ?_
  simp only [Act.put, List.setIfInBounds_toArray, List.set_cons_zero, List.set_cons_succ]
  refine wpAnyH_take (i := 4) (oi := { dst := some 22, op := Op.slice 22 (Operand.tmp 20) none (some (Operand.tmp 21)) none, type := 22, pos := "ref.go:97", after := #[{ on := 2, ground := Ground.data }, { on := 3, ground := Ground.data }], guard := none }) (v := .slice (some A) 0 cp) rfl (by kernel_rfl) (by kernel_rfl) (by kernel_rfl) (fun _ _ _ h => h) (Or.inl ⟨by rfl, fun w' hSw => by clear hSw; go_simp⟩) (by assumption) ?_
  simp only [Act.put, List.setIfInBounds_toArray, List.set_cons_zero, List.set_cons_succ]
  refine wpAnyH_take (i := 10) (oi := { dst := some 28, op := Op.slice 22 (Operand.tmp 26) (some (Operand.tmp 27)) none none, type := 22, pos := "ref.go:97", after := #[{ on := 8, ground := Ground.data }, { on := 9, ground := Ground.data }], guard := none }) (v := .slice (some A) 0 cp) rfl (by kernel_rfl) (by kernel_rfl) (by kernel_rfl) (fun _ _ _ h => h) (Or.inl ⟨by rfl, fun w' hSw => by clear hSw; go_simp⟩) (by assumption) ?_
  simp only [Act.put, List.setIfInBounds_toArray, List.set_cons_zero, List.set_cons_succ]
  refine wpAnyH_ready (rs := [6]) (by kernel_rfl) (by simp) ?_
  refine AllReadyH.cons (o := { dst := some 24, op := Op.buildSlice 22 1 #[(0, Operand.tmp 23)], type := 22, pos := "ref.go:97", after := #[{ on := 5, ground := Ground.data }], guard := none }) rfl (fun K hK => ?_) (AllReadyH.nil)
  go_simp
  refine hK.out _ _ (only_any HW1.out) (fun hHeld => ?_)
  clear hK K
  try simp only [Act.put, List.setIfInBounds_toArray, List.set_cons_zero, List.set_cons_succ]
  refine wpAnyH_ready (rs := [11]) (by kernel_rfl) (by simp) ?_
  refine AllReadyH.cons (o := { dst := some 29, op := Op.call { callee := Callee.value (Operand.func 40), args := #[Operand.tmp 18, Operand.tmp 22, Operand.tmp 24, Operand.tmp 28, Operand.const (Value.bool true)], argTypes := #[24, 22, 22, 22, 4] }, type := 33, pos := "ref.go:97", after := #[{ on := 0, ground := Ground.data }, { on := 4, ground := Ground.data }, { on := 6, ground := Ground.data }, { on := 10, ground := Ground.data }], guard := none }) rfl (fun K hK => ?_) (AllReadyH.nil)
  go_simp
  refine HC.out.mono ?_
  intro e x hx
  have hx := hx.res
  obtain ⟨B5, ao5, cp5, rfl, hS5, hF5, ho5, hn5⟩ := (show Res _ x e P.1 P.2 from by rw [← HP.out]; exact hx)
  have HO5 := hide ho5
  obtain ⟨q0, q1, q2, q3, q4, q5, t0, t1, t2, t3, t4, t5, tl⟩ := HB2.out.more (o2 HW1.out ho5)
  have HS5 := hide hS5
  have HN5 := hide hn5
  clear hx hS5 ho5 hn5
  refine hK.out _ _ (only_any (o2 HW1.out HO5.out)) (fun hHeld => ?_)
  clear hK K
  try simp only [Act.put, List.setIfInBounds_toArray, List.set_cons_zero, List.set_cons_succ]
  refine wpAnyH_take (i := 12) (oi := { dst := some 30, op := Op.extract (Operand.tmp 29) 0, type := 24, pos := "ref.go:97", after := #[{ on := 11, ground := Ground.data }], guard := none }) (v := .agg #[.int .i64 P.1.lsn, .int .i64 P.1.kind, .int .i64 P.1.level, .int .i64 P.1.right, .string P.1.high, .slice ao5 P.1.items.length cp5]) rfl (by kernel_rfl) (by kernel_rfl) (by kernel_rfl) (fun _ _ _ h => h) (Or.inl ⟨by rfl, fun w' hSw => by clear hSw; go_simp⟩) (by assumption) ?_
  simp only [Act.put, List.setIfInBounds_toArray, List.set_cons_zero, List.set_cons_succ]
  refine wpAnyH_take (i := 13) (oi := { dst := some 31, op := Op.extract (Operand.tmp 29) 1, type := 26, pos := "ref.go:97", after := #[{ on := 11, ground := Ground.data }], guard := none }) (v := .int .i64 P.2) rfl (by kernel_rfl) (by kernel_rfl) (by kernel_rfl) (fun _ _ _ h => h) (Or.inl ⟨by rfl, fun w' hSw => by clear hSw; go_simp⟩) (by assumption) ?_
  simp only [Act.put, List.setIfInBounds_toArray, List.set_cons_zero, List.set_cons_succ]
  refine wpAnyH_ready (rs := [14]) (by kernel_rfl) (by simp) ?_
  refine AllReadyH.cons (o := { dst := none, op := Op.store 24 (Operand.tmp 6) (Operand.tmp 30), type := 0, pos := "ref.go:97", after := #[{ on := 12, ground := Ground.data }, { on := 11, ground := Ground.chain }, { on := 0, ground := Ground.phase }, { on := 1, ground := Ground.phase }, { on := 2, ground := Ground.phase }, { on := 3, ground := Ground.phase }, { on := 4, ground := Ground.phase }, { on := 5, ground := Ground.phase }, { on := 6, ground := Ground.phase }, { on := 7, ground := Ground.phase }, { on := 8, ground := Ground.phase }, { on := 9, ground := Ground.phase }, { on := 10, ground := Ground.phase }, { on := 11, ground := Ground.phase }, { on := 12, ground := Ground.phase }, { on := 13, ground := Ground.phase }], guard := none }) rfl (fun K hK => ?_) (AllReadyH.nil)
  go_simp
  refine hK.out _ _ ((only_any (o2 HW1.out HO5.out)).trans (Only.six _ _ _ _ _ _ _ _) (fun _ _ h => h)) (fun hHeld => ?_)
  clear hK K
  try simp only [Act.put, List.setIfInBounds_toArray, List.set_cons_zero, List.set_cons_succ]
  refine wpAnyH_take (i := 15) (oi := { dst := some 7, op := Op.assign (Operand.tmp 31), type := 26, pos := "ref.go:97", after := #[{ on := 13, ground := Ground.data }, { on := 14, ground := Ground.chain }, { on := 0, ground := Ground.phase }, { on := 1, ground := Ground.phase }, { on := 2, ground := Ground.phase }, { on := 3, ground := Ground.phase }, { on := 4, ground := Ground.phase }, { on := 5, ground := Ground.phase }, { on := 6, ground := Ground.phase }, { on := 7, ground := Ground.phase }, { on := 8, ground := Ground.phase }, { on := 9, ground := Ground.phase }, { on := 10, ground := Ground.phase }, { on := 11, ground := Ground.phase }, { on := 12, ground := Ground.phase }, { on := 13, ground := Ground.phase }, { on := 14, ground := Ground.phase }], guard := none }) (v := .int .i64 P.2) rfl (by kernel_rfl) (by kernel_rfl) (by kernel_rfl) (fun _ _ _ h => h) (Or.inl ⟨by rfl, fun w' hSw => by clear hSw; go_simp⟩) (by assumption) ?_
  simp only [Act.put, List.setIfInBounds_toArray, List.set_cons_zero, List.set_cons_succ]
  refine wpAnyH_done (by kernel_rfl) ?_ _
  refine NoPanic.normal ?_
  rw [Exit.then]
  go_wp2_with fail
  refine bodyPost_ret (results_page rfl rfl (Pag.six (HB2.out.more (o2 HW1.out HO5.out)) _ _ _ _ _ _)) rfl ?_
  exact res_laid (o2 HB0.out HW1.out) HBS.out HS5.out hF5 HO5.out HN5.out _ _ _ _ _ _
end Go.Proofs.YtbhmhhnacpjgpaaDoor
