/-
  In a nil table nothing is open (statement TxnNil): of every session, no condition.
-/
import Derived.Test.YtmcghpeamnmbpaaOAwake
import Derived.ProofKit
import Derived.OpenShut
import Derived.SizedLaws
import Derived.Deep.Strs
import Derived.Deep.Draws
import Derived.Deep.Grids
import Derived.BigQuiet
namespace Go.Proofs.Ytmcghpeamnmbpaa
open Go.RowKit Go.Maps Go.Deep Go.ChangeShapes Go.WideShapes Go.ChangeAt

set_option maxRecDepth 100000 in
set_option maxHeartbeats 3200000 in
theorem nil_law (w : World) (who : Int) : Calls Try.prog 6 #[.int .i64 who] w fun e w' => e = .returned (.bool true) ∧ Only (fun _ => False) w w' := by
  have HAW := hide (fun W => awake_any W)
  go_enter Try.func6, Try.ntmps6
  go_wp2_with fail
  refine (of_nil _ who).mono ?_
  rintro e w1 ⟨rfl, ho1⟩
  have HO1 := hide ho1
  clear ho1
  unfold txv Tx.zero
  simp only [List.length_nil]
  go_upto_region 3 with fail
  have HB1 : Hid (Cb (w1.alloc (.cells #[.int .i64 0, .slice none 0 0, .int .i64 0, .int .i64 0, .int .i64 0, .int .i64 0] 37)) w1.heap.size [.int .i64 0, .slice none 0 0, .int .i64 0, .int .i64 0, .int .i64 0, .int .i64 0]) := Cb.new w1 _ _
  have HO2 := hide (o2 HO1.out (onlyA w1 #[.int .i64 0, .slice none 0 0, .int .i64 0, .int .i64 0, .int .i64 0, .int .i64 0] 37))
  obtain ⟨W1, hW1⟩ : ∃ x, w1.alloc (.cells #[.int .i64 0, .slice none 0 0, .int .i64 0, .int .i64 0, .int .i64 0, .int .i64 0] 37) = x := ⟨_, rfl⟩
  rw [hW1] at HB1 HO2 ⊢
  obtain ⟨s1, hs1⟩ : ∃ s, w1.heap.size = s := ⟨_, rfl⟩
  rw [hs1] at HB1 ⊢
  clear hW1 hs1 HO1
  go_wp2_with fail
  refine (end_nil _ who).mono ?_
  rintro e w2 ⟨rfl, ho2⟩
  unfold txv Tx.zero
  simp only [List.length_nil]
  have HO3 := hide (o2 HO2.out ho2)
  have HB2 := hide (HB1.out.more ho2)
  clear ho2 HO2 HB1
  go_upto_region 4 with fail
  have HO4 := hide (o2 HO3.out (onlyA w2 #[.int .i64 0, .slice none 0 0, .int .i64 0, .int .i64 0, .int .i64 0, .int .i64 0] 37))
  have HB3 := hide (HB2.out.more (onlyA w2 #[.int .i64 0, .slice none 0 0, .int .i64 0, .int .i64 0, .int .i64 0, .int .i64 0] 37))
  obtain ⟨W2, hW2⟩ : ∃ x, w2.alloc (.cells #[.int .i64 0, .slice none 0 0, .int .i64 0, .int .i64 0, .int .i64 0, .int .i64 0] 37) = x := ⟨_, rfl⟩
  rw [hW2] at HB3 HO4 ⊢
  obtain ⟨s2, hs2⟩ : ∃ s, w2.heap.size = s := ⟨_, rfl⟩
  rw [hs2]
  clear hW2 hs2 HO3 HB2
  go_wp2_with fail
  refine (begin_nil _ who 0 (.slice none 0 0)).mono ?_
  rintro e w3 ⟨rfl, ho3⟩
  have HO5 := hide (o2 HO4.out ho3)
  have hb4 := HB3.out.more ho3
  have c2 := hb4.c 2 _ rfl
  clear ho3 HO4 HB3 hb4
  go_wp2_with fail
  refine (take_nil _ who 1).mono ?_
  rintro e w4 ⟨rfl, rfl⟩
  go_wp2_with fail
  refine (logged_nil _ who 1 true).mono ?_
  rintro e w4 ⟨rfl, rfl⟩
  go_wp2_with fail
  refine (running_nil _).mono ?_
  rintro e w4 ⟨rfl, rfl⟩
  go_wp2_with fail
  refine (snaps_nil _).mono ?_
  rintro e w4 ⟨rfl, rfl⟩
  go_wp2_with fail
  refine (oldest_nil _).mono ?_
  rintro e w4 ⟨rfl, rfl⟩
  go_wp2_with fail
  refine (begunN_nil _).mono ?_
  rintro e w4 ⟨rfl, rfl⟩
  go_wp2_with fail
  refine (HAW.out _).mono ?_
  rintro e w5 ⟨rfl, ho5⟩
  have HO6 := hide (o2 HO5.out ho5)
  clear ho5
  go_wp2_with fail
  go_ret
  exact ⟨rfl, HO6.out⟩
end Go.Proofs.Ytmcghpeamnmbpaa
