/- The chapter's examples: awake answers true, and changes nothing that was there. -/
import Derived.Test.YtignmpddlgdfdaaWalkB
namespace Go.Proofs.Ytignmpddlgdfdaa
open Go.RowKit

theorem aw_rdN : rdN 300 [172, 2, 2, 97, 98] = (300, [2, 97, 98], 0) := by decide
theorem aw_rdT : rdT 2 [2, 97, 98] = ([97, 98], [], 0) := by decide
theorem aw_nums : nums [300, -5, 0] = [172, 2, 0, 0] := by decide
theorem aw_sev : sev 2 = [2] := by decide
theorem aw_l : ([172, 2, 0, 0] : List UInt8) ++ (sev (⟨#[97, 98]⟩ : ByteArray).size ++ (⟨#[97, 98]⟩ : ByteArray).data.toList) = [172, 2, 0, 0, 2, 97, 98] := by decide
theorem aw_sum : sum [49, 50, 51, 52, 53, 54, 55, 56, 57] = 3421780262 := by decide +kernel
theorem aw_big : bigF 2 258 = [1, 2] := by decide
theorem aw_of : ofTo [1, 2] = 258 := by decide

theorem aw_zs : ∀ k, k < [(300 : Int), -5, 0].length → [(300 : Int), -5, 0].getD k 0 < 9223372036854775808 := by
  intro k hk
  have hk' : k = 0 ∨ k = 1 ∨ k = 2 := by simp at hk; omega
  rcases hk' with rfl | rfl | rfl <;> decide
theorem aw_cells (W : World) (g : Nat) (hg : g = W.heap.size) : ∀ k, k < [(300 : Int), -5, 0].length → (W.alloc (.cells #[.int .i64 300, .int .i64 (-5), .int .i64 0] 3)).cell? ⟨g, 0 + k, none⟩ = some (.int .i64 ([(300 : Int), -5, 0].getD k 0)) := by
  subst hg
  intro k hk
  have hk' : k = 0 ∨ k = 1 ∨ k = 2 := by simp at hk; omega
  rcases hk' with rfl | rfl | rfl <;> simp
theorem aw_start (w : World) :
    Wr (((w.alloc (.cells #[.slice none 0 0] 58)).alloc (.cells #[.string ⟨#[172, 2, 2, 97, 98]⟩, .int .i64 0] 61)).alloc (.cells #[.int .i64 300, .int .i64 (-5), .int .i64 0] 3)) w.heap.size none [] ∧
    Rd (((w.alloc (.cells #[.slice none 0 0] 58)).alloc (.cells #[.string ⟨#[172, 2, 2, 97, 98]⟩, .int .i64 0] 61)).alloc (.cells #[.int .i64 300, .int .i64 (-5), .int .i64 0] 3)) (w.heap.size + 1) ⟨#[172, 2, 2, 97, 98]⟩ 0 ∧
    Only (fun _ => False) w (((w.alloc (.cells #[.slice none 0 0] 58)).alloc (.cells #[.string ⟨#[172, 2, 2, 97, 98]⟩, .int .i64 0] 61)).alloc (.cells #[.int .i64 300, .int .i64 (-5), .int .i64 0] 3)) ∧
    (((w.alloc (.cells #[.slice none 0 0] 58)).alloc (.cells #[.string ⟨#[172, 2, 2, 97, 98]⟩, .int .i64 0] 61)).alloc (.cells #[.int .i64 300, .int .i64 (-5), .int .i64 0] 3)).heap.size = w.heap.size + 1 + 1 + 1 ∧
    (∀ k, k < [(300 : Int), -5, 0].length → (((w.alloc (.cells #[.slice none 0 0] 58)).alloc (.cells #[.string ⟨#[172, 2, 2, 97, 98]⟩, .int .i64 0] 61)).alloc (.cells #[.int .i64 300, .int .i64 (-5), .int .i64 0] 3)).cell? ⟨w.heap.size + 1 + 1, 0 + k, none⟩ = some (.int .i64 ([(300 : Int), -5, 0].getD k 0))) := by
  refine ⟨((Wr.new w).alloc _).alloc _, ?_, ((Only.alloc _ _ _).trans (Only.alloc _ _ _) (fun _ _ h => h)).trans (Only.alloc _ _ _) (fun _ _ h => h), by simp, aw_cells _ _ (by simp)⟩
  have h := (Rd.new (w.alloc (.cells #[.slice none 0 0] 58)) ⟨#[172, 2, 2, 97, 98]⟩).alloc (.cells #[.int .i64 300, .int .i64 (-5), .int .i64 0] 3)
  have e : (w.alloc (.cells #[.slice none 0 0] 58)).heap.size = w.heap.size + 1 := by simp
  rw [e] at h
  exact h

set_option maxRecDepth 100000 in
set_option maxHeartbeats 1000000 in
theorem awake_any (w : World) : Calls Try.prog 9 #[] w fun e w' => e = .returned (.bool true) ∧ Only (fun _ => False) w w' := by
  go_enter Try.func9, Try.ntmps9
  go_wp2_with fail
  refine (new_any _).mono ?_
  rintro e w1 ⟨rfl, rfl⟩
  go_wp2_with fail
  refine (read_any _ _).mono ?_
  rintro e w1 ⟨rfl, rfl⟩
  go_wp2_with fail
  obtain ⟨hW0, hR0, hO0, hz0, hcs⟩ := aw_start w
  refine (wnum_any _ w.heap.size none [] [300, -5, 0] (w.heap.size + 1 + 1) 0 3 hW0 hcs aw_zs (by omega) (by simp) (by omega) (by simp)).mono ?_
  rintro e w1 ⟨rfl, row1, hW1, hg1⟩
  rw [aw_nums, List.nil_append] at hW1
  have hp0 : Pair w _ w.heap.size (w.heap.size + 1) none [] _ _ := ⟨hW0, hR0, hO0, by omega, by simp, by simp, by omega, by omega⟩
  have hp1 := hp0.lay hW1 hg1
  clear hcs hW0 hR0 hO0 hg1 hW1 hz0 hp0
  have HP := hide hp1
  clear hp1
  go_wp2_with fail
  have hp1 := unhide HP
  refine (wtext_any _ w.heap.size row1 [172, 2, 0, 0] ⟨#[97, 98]⟩ hp1.wr (by simp [ByteArray.size])).mono ?_
  rintro e w2 ⟨rfl, row2, hW2, hg2⟩
  have e2 : ([172, 2, 0, 0] : List UInt8) ++ (sev (⟨#[97, 98]⟩ : ByteArray).size ++ (⟨#[97, 98]⟩ : ByteArray).data.toList) = [172, 2, 0, 0, 2, 97, 98] := aw_l
  rw [e2] at hW2
  have hp2 := hp1.lay hW2 hg2
  clear hW2 hg2 hp1 HP e2
  have HP := hide hp2
  clear hp2
  go_wp2_with fail
  have hp2 := unhide HP
  refine (rnum_any _ _ _ 300 hp2.rd).mono ?_
  rw [show (⟨#[172, 2, 2, 97, 98]⟩ : ByteArray).data.toList = [172, 2, 2, 97, 98] from rfl, aw_rdN]
  rintro e w3 ⟨rfl, hR3, ho3⟩
  have hp3 := hp2.take hR3 ho3
  clear hp2 hR3 ho3 HP
  have HP := hide hp3
  clear hp3
  go_wp2_with fail
  have hp3 := unhide HP
  refine (rtext_any _ _ _ 2 hp3.rd).mono ?_
  rw [show (⟨([2, 97, 98] : List UInt8).toArray⟩ : ByteArray).data.toList = [2, 97, 98] from rfl, aw_rdT]
  rintro e w4 ⟨rfl, hR4, ho4⟩
  have hp4 := hp3.take hR4 ho4
  clear hp3 hR4 ho4 HP
  have HP := hide hp4
  clear hp4
  go_wp2_with fail
  have hp4 := unhide HP
  refine (wbytes_any _ _ _ _ hp4.wr).mono ?_
  rintro e w5 ⟨rfl, rfl⟩
  clear hp4
  go_wp2_with fail
  have hp5 := unhide HP
  refine (rend_ok _ _ _ hp5.rd.c1 hp5.rd.c0).mono ?_
  rw [if_pos (show (⟨([] : List UInt8).toArray⟩ : ByteArray).size = 0 from rfl)]
  rintro e w6 ⟨rfl, rfl⟩
  clear hp5
  go_wp2_with fail
  refine (sum_any _ _ (by decide)).mono ?_
  rw [show (⟨#[49, 50, 51, 52, 53, 54, 55, 56, 57]⟩ : ByteArray).data.toList = [49, 50, 51, 52, 53, 54, 55, 56, 57] from rfl, aw_sum]
  rintro e w7 ⟨rfl, rfl⟩
  go_wp2_with fail
  have hbg := big_any 258 2 w7 (by decide) (by decide) (by decide)
  rw [aw_big] at hbg
  refine Calls.mono hbg ?_
  rintro e w8 ⟨rfl, ho8⟩
  clear hbg
  go_wp2_with fail
  refine (of_any _ _ (by decide)).mono ?_
  rw [show (⟨#[1, 2]⟩ : ByteArray).data.toList = [1, 2] from rfl, aw_of]
  rintro e w9 ⟨rfl, rfl⟩
  go_wp2_with fail
  go_ret
  exact ⟨rfl, (unhide HP).only.trans ho8 (fun _ _ h => h)⟩
end Go.Proofs.Ytignmpddlgdfdaa
