/- What mayBe does, and the looks over lists. -/
import Derived.Test.YtbfafijfhaejmaaGreatDoorRRec
namespace Go.Proofs.YtbfafijfhaejmaaGreatDoor
open Go.RowKit

/-- A bool was returned: whether P. -/
structure RB (e : Ending) (P : Prop) : Prop where
  ex : ∃ c, e = .returned (.bool c) ∧ (c = true ↔ P)
theorem RB.yes {P : Prop} (h : P) : RB (.returned (.bool true)) P := ⟨true, rfl, ⟨fun _ => h, fun _ => rfl⟩⟩
theorem RB.no {P : Prop} (h : ¬ P) : RB (.returned (.bool false)) P := ⟨false, rfl, ⟨fun h => (by cases h), fun p => absurd p h⟩⟩
theorem RB.of_true {P : Prop} {c : Bool} (hc : c = true) (h : P) : RB (.returned (.bool c)) P := by subst hc; exact RB.yes h
theorem RB.of_false {P : Prop} {c : Bool} (hc : c = false) (h : ¬ P) : RB (.returned (.bool c)) P := by subst hc; exact RB.no h
theorem RB.to {e : Ending} {P Q : Prop} (h : RB e P) (hPQ : P ↔ Q) : RB e Q := by
  obtain ⟨c, hc, hp⟩ := h.ex
  exact ⟨c, hc, hp.trans hPQ⟩
set_option maxRecDepth 100000 in
set_option maxHeartbeats 800000 in
theorem mayBe_any (w : World) (B cp : Nat) (ao : Option Addr) (l : List Int) (h : Zs w B ao l) :
    Calls Tryz.prog 151 #[.slice ao l.length cp] w fun e w' => RB e (∀ n ∈ l, mb n) ∧ w' = w := by
  have hlen := h.len
  have HS := hide h
  clear h
  go_enter Tryz.func151, Tryz.ntmps151
  go_wp2_with fail
  go_loop [7] (fun y => ∃ j : Nat, j ≤ l.length ∧ y = .int .i64 (j : Int) ∧ Hid (∀ n ∈ l.take j, mb n)) (fun y => l.length - (intOf y).toNat)
  case atStart => exact ⟨0, by omega, rfl, (fun n hn => by simp at hn)⟩
  case round =>
    obtain ⟨j, hj, rfl, HQ⟩ := hrel
    by_cases hlt : j < l.length
    · obtain ⟨o, e1, c1⟩ := HS.out.at_ (by omega)
      have k1 := c1 j hlt
      have hj1 : (j : Int) < (l.length : Int) := by omega
      obtain ⟨z, hz⟩ : ∃ z, l[j] = z := ⟨_, rfl⟩
      have hmem : z ∈ l := by rw [← hz]; exact List.getElem_mem hlt
      have HM := hide hmem
      have HT : Hid (l.take (j + 1) = l.take j ++ [z]) := by unfold Hid; rw [List.take_succ_eq_append_getElem hlt, hz]
      rw [hz] at k1
      clear c1 hz hmem
      subst e1
      by_cases h0 : z < 0
      · go_wp2_with fail
        go_ret
        exact ⟨RB.no (fun h => by have := (h z HM.out).1; omega), rfl⟩
      · by_cases h1 : 4611686018427387904 < z
        · go_wp2_with fail
          go_ret
          exact ⟨RB.no (fun h => by have := (h z HM.out).2; unfold top at this; omega), rfl⟩
        · go_wp2_with fail
          go_round
          case rel =>
            refine ⟨j + 1, by omega, by go_num, ?_⟩
            unfold Hid
            rw [HT.out]
            intro n hn
            rcases List.mem_append.1 hn with hn | hn
            · exact HQ.out n hn
            · simp at hn; subst hn; exact ⟨by omega, by unfold top; omega⟩
          case measure => simp [intOf]; omega
    · have e : l.take j = l := List.take_of_length_le (by omega)
      rw [e] at HQ
      go_wp2_with fail
      go_ret
      exact ⟨RB.yes HQ.out, rfl⟩
/-- A number was returned: not below 0 just if P. -/
structure RI (e : Ending) (P : Prop) : Prop where
  ex : ∃ c : Int, e = .returned (.int .i64 c) ∧ (0 ≤ c ↔ P)
theorem Zs.one (w : World) (a : Int) : Zs (w.alloc (.cells #[.int .i64 a] 3)) w.heap.size (some ⟨w.heap.size, 0, none⟩) [a] :=
  ⟨fun _ => ⟨0, rfl, fun j hj => by
    match j, hj with
    | 0, _ => simp⟩, fun _ => by simp, by simp⟩
theorem Zs.two (w : World) (a b : Int) : Zs (w.alloc (.cells #[.int .i64 a, .int .i64 b] 3)) w.heap.size (some ⟨w.heap.size, 0, none⟩) [a, b] :=
  ⟨fun _ => ⟨0, rfl, fun j hj => by
    match j, hj with
    | 0, _ => simp
    | 1, _ => simp⟩, fun _ => by simp, by simp⟩
set_option maxRecDepth 100000 in
set_option maxHeartbeats 800000 in
theorem inR1_any (w : World) (p a k v r : Int) (h : ByteArray) (x : Value) :
    Calls Tryz.prog 153 #[.agg #[.int .i64 p, .int .i64 a, .int .i64 k, .int .i64 v, .int .i64 r, .string h, x]] w fun e w' => RB e (¬ mb p) ∧ Only (fun _ => False) w w' := by
  have HO := hide (o2 (onlyA w (.cells #[.int .i64 p, .int .i64 a, .int .i64 k, .int .i64 v, .int .i64 r, .string h, x] 183)) (onlyA _ (.cells #[.int .i64 p] 3)))
  go_enter Tryz.func153, Tryz.ntmps153
  go_wp2_with fail
  have hz := Zs.one (w.alloc (.cells #[.int .i64 p, .int .i64 a, .int .i64 k, .int .i64 v, .int .i64 r, .string h, x] 183)) p
  simp only [World.size_alloc] at hz
  refine (mayBe_any _ _ 1 _ [p] hz).mono ?_
  rintro e w1 ⟨hb, rfl⟩
  obtain ⟨c, rfl, hc⟩ := hb.ex
  have HC : Hid (c = true ↔ mb p) := by unfold Hid; simpa using hc
  clear hc hz hb
  go_wp2_with fail
  go_ret
  refine ⟨?_, HO.out⟩
  cases c with
  | true => exact RB.no (fun h => h (HC.out.1 rfl))
  | false => exact RB.yes (fun h => by have := HC.out.2 h; cases this)
set_option maxRecDepth 100000 in
set_option maxHeartbeats 800000 in
theorem inR2_any (w : World) (p a : Int) :
    Calls Tryz.prog 155 #[.agg #[.int .i64 p, .int .i64 a]] w fun e w' => RB e (¬ (mb p ∧ mb a)) ∧ Only (fun _ => False) w w' := by
  have HO := hide (o2 (onlyA w (.cells #[.int .i64 p, .int .i64 a] 123)) (onlyA _ (.cells #[.int .i64 p, .int .i64 a] 3)))
  go_enter Tryz.func155, Tryz.ntmps155
  go_wp2_with fail
  have hz := Zs.two (w.alloc (.cells #[.int .i64 p, .int .i64 a] 123)) p a
  simp only [World.size_alloc] at hz
  refine (mayBe_any _ _ 2 _ [p, a] hz).mono ?_
  rintro e w1 ⟨hb, rfl⟩
  obtain ⟨c, rfl, hc⟩ := hb.ex
  have HC : Hid (c = true ↔ mb p ∧ mb a) := by unfold Hid; simpa using hc
  clear hc hz hb
  go_wp2_with fail
  go_ret
  refine ⟨?_, HO.out⟩
  cases c with
  | true => exact RB.no (fun h => h (HC.out.1 rfl))
  | false => exact RB.yes (fun h => by have := HC.out.2 h; cases this)
set_option maxRecDepth 100000 in
set_option maxHeartbeats 800000 in
theorem inR3_any (w : World) (p a : Int) :
    Calls Tryz.prog 157 #[.agg #[.int .i64 p, .int .i64 a]] w fun e w' => RB e (¬ (mb p ∧ mb a)) ∧ Only (fun _ => False) w w' := by
  have HO := hide (o2 (onlyA w (.cells #[.int .i64 p, .int .i64 a] 188)) (onlyA _ (.cells #[.int .i64 p, .int .i64 a] 3)))
  go_enter Tryz.func157, Tryz.ntmps157
  go_wp2_with fail
  have hz := Zs.two (w.alloc (.cells #[.int .i64 p, .int .i64 a] 188)) p a
  simp only [World.size_alloc] at hz
  refine (mayBe_any _ _ 2 _ [p, a] hz).mono ?_
  rintro e w1 ⟨hb, rfl⟩
  obtain ⟨c, rfl, hc⟩ := hb.ex
  have HC : Hid (c = true ↔ mb p ∧ mb a) := by unfold Hid; simpa using hc
  clear hc hz hb
  go_wp2_with fail
  go_ret
  refine ⟨?_, HO.out⟩
  cases c with
  | true => exact RB.no (fun h => h (HC.out.1 rfl))
  | false => exact RB.yes (fun h => by have := HC.out.2 h; cases this)
set_option maxRecDepth 100000 in
set_option maxHeartbeats 800000 in
theorem if1_any (w : World) (T : Nat → Prop) (B cp : Nat) (ao : Option Addr) (l : List Im) (h : Ims w T B ao l) :
    Calls Tryz.prog 182 #[.slice ao l.length cp, .func (.func 153) #[] #[]] w fun e w' => RI e (∃ i ∈ l, ¬ mb i.page) ∧ Only (fun _ => False) w w' := by
  have hlen := h.len
  have HS := hide h
  clear h
  go_enter Tryz.func182, Tryz.ntmps182
  go_wp2_with fail
  go_loopw [8] (fun y wr => ∃ j : Nat, j ≤ l.length ∧ y = .int .i64 (j : Int) ∧ Hid (∀ i ∈ l.take j, mb i.page) ∧ Hid (Only (fun _ => False) w wr)) (fun y _ => l.length - (intOf y).toNat)
  case atStart => exact ⟨0, by omega, rfl, (fun n hn => by simp at hn), Only.refl _ _⟩
  case round =>
    obtain ⟨j, hj, rfl, HQ, HO⟩ := hrel
    by_cases hlt : j < l.length
    · obtain ⟨o, e1, c1⟩ := (HS.out.more HO.out).at_ (by omega)
      obtain ⟨D, a, c, k1, _⟩ := c1 j hlt
      have hj1 : (j : Int) < (l.length : Int) := by omega
      obtain ⟨z, hz⟩ : ∃ z, l[j] = z := ⟨_, rfl⟩
      have hmem : z ∈ l := by rw [← hz]; exact List.getElem_mem hlt
      have HM := hide hmem
      have HT : Hid (l.take (j + 1) = l.take j ++ [z]) := by unfold Hid; rw [List.take_succ_eq_append_getElem hlt, hz]
      rw [hz] at k1
      clear c1 hz hmem
      subst e1
      obtain ⟨d0, d1, d2, d3, d4, d5, d6, _, _, _, _⟩ := k1
      go_wp2_with fail
      refine (inR1_any _ _ _ _ _ _ _ _).mono ?_
      rintro e w1 ⟨hb, ho1⟩
      obtain ⟨c, rfl, hc⟩ := hb.ex
      have HC := hide hc
      have HO1 := hide (o2 HO.out ho1)
      clear hc hb ho1
      cases c with
      | true =>
        go_wp2_with fail
        go_ret
        exact ⟨⟨j, rfl, ⟨fun _ => ⟨z, HM.out, HC.out.1 (by trivial)⟩, fun _ => by omega⟩⟩, HO1.out⟩
      | false =>
        go_wp2_with fail
        go_roundw
        case rel =>
          refine ⟨j + 1, by omega, by go_num, ?_, HO1⟩
          unfold Hid
          rw [HT.out]
          intro n hn
          rcases List.mem_append.1 hn with hn | hn
          · exact HQ.out n hn
          · simp at hn; subst hn; exact Classical.byContradiction fun h => by have := HC.out.2 h; cases this
        case measure => simp [intOf]; omega
    · have e : l.take j = l := List.take_of_length_le (by omega)
      rw [e] at HQ
      go_wp2_with fail
      go_ret
      exact ⟨⟨-1, rfl, ⟨fun h => by omega, fun ⟨i, hi, hn⟩ => absurd (HQ.out i hi) hn⟩⟩, HO.out⟩
set_option maxRecDepth 100000 in
set_option maxHeartbeats 800000 in
theorem if2_any (w : World) (B cp : Nat) (ao : Option Addr) (l : List (Int × Int)) (h : Prs w B ao l) :
    Calls Tryz.prog 183 #[.slice ao l.length cp, .func (.func 155) #[] #[]] w fun e w' => RI e (∃ i ∈ l, ¬ (mb i.1 ∧ mb i.2)) ∧ Only (fun _ => False) w w' := by
  have hlen := h.len
  have HS := hide h
  clear h
  go_enter Tryz.func183, Tryz.ntmps183
  go_wp2_with fail
  go_loopw [8] (fun y wr => ∃ j : Nat, j ≤ l.length ∧ y = .int .i64 (j : Int) ∧ Hid (∀ i ∈ l.take j, (mb i.1 ∧ mb i.2)) ∧ Hid (Only (fun _ => False) w wr)) (fun y _ => l.length - (intOf y).toNat)
  case atStart => exact ⟨0, by omega, rfl, (fun n hn => by simp at hn), Only.refl _ _⟩
  case round =>
    obtain ⟨j, hj, rfl, HQ, HO⟩ := hrel
    by_cases hlt : j < l.length
    · obtain ⟨o, e1, c1⟩ := (HS.out.more HO.out).at_ (by omega)
      have k1 := c1 j hlt
      have hj1 : (j : Int) < (l.length : Int) := by omega
      obtain ⟨z, hz⟩ : ∃ z, l[j] = z := ⟨_, rfl⟩
      have hmem : z ∈ l := by rw [← hz]; exact List.getElem_mem hlt
      have HM := hide hmem
      have HT : Hid (l.take (j + 1) = l.take j ++ [z]) := by unfold Hid; rw [List.take_succ_eq_append_getElem hlt, hz]
      rw [hz] at k1
      clear c1 hz hmem
      subst e1
      obtain ⟨d0, d1⟩ := k1
      go_wp2_with fail
      refine (inR2_any _ _ _).mono ?_
      rintro e w1 ⟨hb, ho1⟩
      obtain ⟨c, rfl, hc⟩ := hb.ex
      have HC := hide hc
      have HO1 := hide (o2 HO.out ho1)
      clear hc hb ho1
      cases c with
      | true =>
        go_wp2_with fail
        go_ret
        exact ⟨⟨j, rfl, ⟨fun _ => ⟨z, HM.out, HC.out.1 (by trivial)⟩, fun _ => by omega⟩⟩, HO1.out⟩
      | false =>
        go_wp2_with fail
        go_roundw
        case rel =>
          refine ⟨j + 1, by omega, by go_num, ?_, HO1⟩
          unfold Hid
          rw [HT.out]
          intro n hn
          rcases List.mem_append.1 hn with hn | hn
          · exact HQ.out n hn
          · simp at hn; subst hn; exact Classical.byContradiction fun h => by have := HC.out.2 h; cases this
        case measure => simp [intOf]; omega
    · have e : l.take j = l := List.take_of_length_le (by omega)
      rw [e] at HQ
      go_wp2_with fail
      go_ret
      exact ⟨⟨-1, rfl, ⟨fun h => by omega, fun ⟨i, hi, hn⟩ => absurd (HQ.out i hi) hn⟩⟩, HO.out⟩
set_option maxRecDepth 100000 in
set_option maxHeartbeats 800000 in
theorem if3_any (w : World) (B cp : Nat) (ao : Option Addr) (l : List (Int × Int)) (h : Prs w B ao l) :
    Calls Tryz.prog 184 #[.slice ao l.length cp, .func (.func 157) #[] #[]] w fun e w' => RI e (∃ i ∈ l, ¬ (mb i.1 ∧ mb i.2)) ∧ Only (fun _ => False) w w' := by
  have hlen := h.len
  have HS := hide h
  clear h
  go_enter Tryz.func184, Tryz.ntmps184
  go_wp2_with fail
  go_loopw [8] (fun y wr => ∃ j : Nat, j ≤ l.length ∧ y = .int .i64 (j : Int) ∧ Hid (∀ i ∈ l.take j, (mb i.1 ∧ mb i.2)) ∧ Hid (Only (fun _ => False) w wr)) (fun y _ => l.length - (intOf y).toNat)
  case atStart => exact ⟨0, by omega, rfl, (fun n hn => by simp at hn), Only.refl _ _⟩
  case round =>
    obtain ⟨j, hj, rfl, HQ, HO⟩ := hrel
    by_cases hlt : j < l.length
    · obtain ⟨o, e1, c1⟩ := (HS.out.more HO.out).at_ (by omega)
      have k1 := c1 j hlt
      have hj1 : (j : Int) < (l.length : Int) := by omega
      obtain ⟨z, hz⟩ : ∃ z, l[j] = z := ⟨_, rfl⟩
      have hmem : z ∈ l := by rw [← hz]; exact List.getElem_mem hlt
      have HM := hide hmem
      have HT : Hid (l.take (j + 1) = l.take j ++ [z]) := by unfold Hid; rw [List.take_succ_eq_append_getElem hlt, hz]
      rw [hz] at k1
      clear c1 hz hmem
      subst e1
      obtain ⟨d0, d1⟩ := k1
      go_wp2_with fail
      refine (inR3_any _ _ _).mono ?_
      rintro e w1 ⟨hb, ho1⟩
      obtain ⟨c, rfl, hc⟩ := hb.ex
      have HC := hide hc
      have HO1 := hide (o2 HO.out ho1)
      clear hc hb ho1
      cases c with
      | true =>
        go_wp2_with fail
        go_ret
        exact ⟨⟨j, rfl, ⟨fun _ => ⟨z, HM.out, HC.out.1 (by trivial)⟩, fun _ => by omega⟩⟩, HO1.out⟩
      | false =>
        go_wp2_with fail
        go_roundw
        case rel =>
          refine ⟨j + 1, by omega, by go_num, ?_, HO1⟩
          unfold Hid
          rw [HT.out]
          intro n hn
          rcases List.mem_append.1 hn with hn | hn
          · exact HQ.out n hn
          · simp at hn; subst hn; exact Classical.byContradiction fun h => by have := HC.out.2 h; cases this
        case measure => simp [intOf]; omega
    · have e : l.take j = l := List.take_of_length_le (by omega)
      rw [e] at HQ
      go_wp2_with fail
      go_ret
      exact ⟨⟨-1, rfl, ⟨fun h => by omega, fun ⟨i, hi, hn⟩ => absurd (HQ.out i hi) hn⟩⟩, HO.out⟩
set_option maxRecDepth 100000 in
theorem cf1_any (w : World) (T : Nat → Prop) (B cp : Nat) (ao : Option Addr) (l : List Im) (h : Ims w T B ao l) :
    Calls Tryz.prog 152 #[.slice ao l.length cp, .func (.func 153) #[] #[]] w fun e w' => RB e (∃ i ∈ l, ¬ mb i.page) ∧ Only (fun _ => False) w w' := by
  have HF := hide (if1_any w T B cp ao l h)
  clear h
  go_enter Tryz.func152, Tryz.ntmps152
  go_wp2_with fail
  refine HF.out.mono ?_
  rintro e w1 ⟨hb, ho1⟩
  obtain ⟨c, rfl, hc⟩ := hb.ex
  have HC := hide hc
  have HO1 := hide ho1
  clear hc hb ho1
  go_wp2_with fail
  go_ret
  exact ⟨⟨_, rfl, decide_eq_true_iff.trans HC.out⟩, HO1.out⟩
set_option maxRecDepth 100000 in
theorem cf2_any (w : World) (B cp : Nat) (ao : Option Addr) (l : List (Int × Int)) (h : Prs w B ao l) :
    Calls Tryz.prog 154 #[.slice ao l.length cp, .func (.func 155) #[] #[]] w fun e w' => RB e (∃ i ∈ l, ¬ (mb i.1 ∧ mb i.2)) ∧ Only (fun _ => False) w w' := by
  have HF := hide (if2_any w B cp ao l h)
  clear h
  go_enter Tryz.func154, Tryz.ntmps154
  go_wp2_with fail
  refine HF.out.mono ?_
  rintro e w1 ⟨hb, ho1⟩
  obtain ⟨c, rfl, hc⟩ := hb.ex
  have HC := hide hc
  have HO1 := hide ho1
  clear hc hb ho1
  go_wp2_with fail
  go_ret
  exact ⟨⟨_, rfl, decide_eq_true_iff.trans HC.out⟩, HO1.out⟩
set_option maxRecDepth 100000 in
theorem cf3_any (w : World) (B cp : Nat) (ao : Option Addr) (l : List (Int × Int)) (h : Prs w B ao l) :
    Calls Tryz.prog 156 #[.slice ao l.length cp, .func (.func 157) #[] #[]] w fun e w' => RB e (∃ i ∈ l, ¬ (mb i.1 ∧ mb i.2)) ∧ Only (fun _ => False) w w' := by
  have HF := hide (if3_any w B cp ao l h)
  clear h
  go_enter Tryz.func156, Tryz.ntmps156
  go_wp2_with fail
  refine HF.out.mono ?_
  rintro e w1 ⟨hb, ho1⟩
  obtain ⟨c, rfl, hc⟩ := hb.ex
  have HC := hide hc
  have HO1 := hide ho1
  clear hc hb ho1
  go_wp2_with fail
  go_ret
  exact ⟨⟨_, rfl, decide_eq_true_iff.trans HC.out⟩, HO1.out⟩
end Go.Proofs.YtbfafijfhaejmaaGreatDoor
