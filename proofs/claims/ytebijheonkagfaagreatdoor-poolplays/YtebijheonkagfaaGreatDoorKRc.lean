/- What imageTexts does. -/
import Derived.Test.YtebijheonkagfaaGreatDoorKRb
import Derived.Test.YtebijheonkagfaaGreatDoorKPd
namespace Go.Proofs.YtebijheonkagfaaGreatDoor
open Go.RowKit
structure RB (e : Ending) (P : Prop) : Prop where
  ex : ∃ c, e = .returned (.bool c) ∧ (c = true ↔ P)
theorem RB.yes {P : Prop} (h : P) : RB (.returned (.bool true)) P := ⟨true, rfl, ⟨fun _ => h, fun _ => rfl⟩⟩
theorem RB.no {P : Prop} (h : ¬ P) : RB (.returned (.bool false)) P := ⟨false, rfl, ⟨fun h => (by cases h), fun p => absurd p h⟩⟩
theorem RB.of_true {P : Prop} {c : Bool} (hc : c = true) (h : P) : RB (.returned (.bool c)) P := by subst hc; exact RB.yes h
theorem RB.of_false {P : Prop} {c : Bool} (hc : c = false) (h : ¬ P) : RB (.returned (.bool c)) P := by subst hc; exact RB.no h
set_option maxRecDepth 100000 in
set_option maxHeartbeats 800000 in
theorem mayBe_any (w : World) (B cp : Nat) (ao : Option Addr) (l : List Int) (h : Zs w B ao l) :
    Calls Tryz.prog 139 #[.slice ao l.length cp] w fun e w' => RB e (∀ n ∈ l, mb n) ∧ w' = w := by
  have hlen := h.len; have HS := hide h; clear h
  go_enter Tryz.func139, Tryz.ntmps139
  go_wp2_with fail
  go_loop [7] (fun y => ∃ j : Nat, j ≤ l.length ∧ y = .int .i64 (j : Int) ∧ Hid (∀ n ∈ l.take j, mb n)) (fun y => l.length - (intOf y).toNat)
  case atStart => exact ⟨0, by omega, rfl, (fun n hn => by simp at hn)⟩
  case round =>
    obtain ⟨j, hj, rfl, HQ⟩ := hrel
    by_cases hlt : j < l.length
    · obtain ⟨o, e1, c1⟩ := HS.out.at_ (by omega)
      have k1 := c1 j hlt
      have hj1 : (j : Int) < (l.length : Int) := by omega
      obtain ⟨z, hz⟩ : ∃ z, l[j] = z := ⟨_, rfl⟩
      have hmem : z ∈ l := by rw [← hz]; exact List.getElem_mem hlt
      have HM := hide hmem
      have HT : Hid (l.take (j + 1) = l.take j ++ [z]) := by unfold Hid; rw [List.take_succ_eq_append_getElem hlt, hz]
      rw [hz] at k1; clear c1 hz hmem; subst e1
      by_cases h0 : z < 0
      · go_wp2_with fail
        go_ret
        exact ⟨RB.no (fun h => by have := (h z HM.out).1; omega), rfl⟩
      · by_cases h1 : 4611686018427387904 < z
        · go_wp2_with fail
          go_ret
          exact ⟨RB.no (fun h => by have := (h z HM.out).2; unfold top at this; omega), rfl⟩
        · go_wp2_with fail
          go_round
          case rel =>
            refine ⟨j + 1, by omega, by go_num, ?_⟩; unfold Hid; rw [HT.out]; intro n hn
            rcases List.mem_append.1 hn with hn | hn
            · exact HQ.out n hn
            · simp at hn; subst hn; exact ⟨by omega, by unfold top; omega⟩
          case measure => simp [intOf]; omega
    · have e : l.take j = l := List.take_of_length_le (by omega)
      rw [e] at HQ
      go_wp2_with fail
      go_ret
      exact ⟨RB.yes HQ.out, rfl⟩
structure RI (e : Ending) (P : Prop) : Prop where
  ex : ∃ c : Int, e = .returned (.int .i64 c) ∧ (0 ≤ c ↔ P)
theorem Zs.one (w : World) (a : Int) : Zs (w.alloc (.cells #[.int .i64 a] 3)) w.heap.size (some ⟨w.heap.size, 0, none⟩) [a] :=
  ⟨fun _ => ⟨0, rfl, fun j hj => by
    match j, hj with
    | 0, _ => simp⟩, fun _ => by simp, by simp⟩
theorem Zs.two (w : World) (a b : Int) : Zs (w.alloc (.cells #[.int .i64 a, .int .i64 b] 3)) w.heap.size (some ⟨w.heap.size, 0, none⟩) [a, b] :=
  ⟨fun _ => ⟨0, rfl, fun j hj => by
    match j, hj with
    | 0, _ => simp
    | 1, _ => simp⟩, fun _ => by simp, by simp⟩
set_option maxRecDepth 100000 in
set_option maxHeartbeats 800000 in
theorem inR1_any (w : World) (p a k v r : Int) (h : ByteArray) (x : Value) :
    Calls Tryz.prog 141 #[.agg #[.int .i64 p, .int .i64 a, .int .i64 k, .int .i64 v, .int .i64 r, .string h, x]] w fun e w' => RB e (¬ mb p) ∧ Only (fun _ => False) w w' := by
  have HO := hide (o2 (onlyA w (.cells #[.int .i64 p, .int .i64 a, .int .i64 k, .int .i64 v, .int .i64 r, .string h, x] 164)) (onlyA _ (.cells #[.int .i64 p] 3)))
  go_enter Tryz.func141, Tryz.ntmps141
  go_wp2_with fail
  have hz := Zs.one (w.alloc (.cells #[.int .i64 p, .int .i64 a, .int .i64 k, .int .i64 v, .int .i64 r, .string h, x] 164)) p; simp only [World.size_alloc] at hz; refine (mayBe_any _ _ 1 _ [p] hz).mono ?_; rintro e w1 ⟨hb, rfl⟩; obtain ⟨c, rfl, hc⟩ := hb.ex
  have HC : Hid (c = true ↔ mb p) := by unfold Hid; simpa using hc
  clear hc hz hb
  go_wp2_with fail
  go_ret
  refine ⟨?_, HO.out⟩
  cases c with
  | true => exact RB.no (fun h => h (HC.out.1 rfl))
  | false => exact RB.yes (fun h => by have := HC.out.2 h; cases this)
set_option maxRecDepth 100000 in
set_option maxHeartbeats 800000 in
theorem inR2_any (w : World) (p a : Int) :
    Calls Tryz.prog 143 #[.agg #[.int .i64 p, .int .i64 a]] w fun e w' => RB e (¬ (mb p ∧ mb a)) ∧ Only (fun _ => False) w w' := by
  have HO := hide (o2 (onlyA w (.cells #[.int .i64 p, .int .i64 a] 115)) (onlyA _ (.cells #[.int .i64 p, .int .i64 a] 3)))
  go_enter Tryz.func143, Tryz.ntmps143
  go_wp2_with fail
  have hz := Zs.two (w.alloc (.cells #[.int .i64 p, .int .i64 a] 115)) p a; simp only [World.size_alloc] at hz; refine (mayBe_any _ _ 2 _ [p, a] hz).mono ?_; rintro e w1 ⟨hb, rfl⟩; obtain ⟨c, rfl, hc⟩ := hb.ex
  have HC : Hid (c = true ↔ mb p ∧ mb a) := by unfold Hid; simpa using hc
  clear hc hz hb
  go_wp2_with fail
  go_ret
  refine ⟨?_, HO.out⟩
  cases c with
  | true => exact RB.no (fun h => h (HC.out.1 rfl))
  | false => exact RB.yes (fun h => by have := HC.out.2 h; cases this)
set_option maxRecDepth 100000 in
set_option maxHeartbeats 800000 in
theorem inR3_any (w : World) (p a : Int) :
    Calls Tryz.prog 145 #[.agg #[.int .i64 p, .int .i64 a]] w fun e w' => RB e (¬ (mb p ∧ mb a)) ∧ Only (fun _ => False) w w' := by
  have HO := hide (o2 (onlyA w (.cells #[.int .i64 p, .int .i64 a] 169)) (onlyA _ (.cells #[.int .i64 p, .int .i64 a] 3)))
  go_enter Tryz.func145, Tryz.ntmps145
  go_wp2_with fail
  have hz := Zs.two (w.alloc (.cells #[.int .i64 p, .int .i64 a] 169)) p a; simp only [World.size_alloc] at hz; refine (mayBe_any _ _ 2 _ [p, a] hz).mono ?_; rintro e w1 ⟨hb, rfl⟩; obtain ⟨c, rfl, hc⟩ := hb.ex
  have HC : Hid (c = true ↔ mb p ∧ mb a) := by unfold Hid; simpa using hc
  clear hc hz hb
  go_wp2_with fail
  go_ret
  refine ⟨?_, HO.out⟩
  cases c with
  | true => exact RB.no (fun h => h (HC.out.1 rfl))
  | false => exact RB.yes (fun h => by have := HC.out.2 h; cases this)
set_option maxRecDepth 100000 in
set_option maxHeartbeats 800000 in
theorem if1_any (w : World) (T : Nat → Prop) (B cp : Nat) (ao : Option Addr) (l : List Im) (h : Ims w T B ao l) :
    Calls Tryz.prog 171 #[.slice ao l.length cp, .func (.func 141) #[] #[]] w fun e w' => RI e (∃ i ∈ l, ¬ mb i.page) ∧ Only (fun _ => False) w w' := by
  have hlen := h.len; have HS := hide h; clear h
  go_enter Tryz.func171, Tryz.ntmps171
  go_wp2_with fail
  go_loopw [8] (fun y wr => ∃ j : Nat, j ≤ l.length ∧ y = .int .i64 (j : Int) ∧ Hid (∀ i ∈ l.take j, mb i.page) ∧ Hid (Only (fun _ => False) w wr)) (fun y _ => l.length - (intOf y).toNat)
  case atStart => exact ⟨0, by omega, rfl, (fun n hn => by simp at hn), Only.refl _ _⟩
  case round =>
    obtain ⟨j, hj, rfl, HQ, HO⟩ := hrel
    by_cases hlt : j < l.length
    · obtain ⟨o, e1, c1⟩ := (HS.out.more HO.out).at_ (by omega)
      obtain ⟨D, a, c, k1, _⟩ := c1 j hlt
      have hj1 : (j : Int) < (l.length : Int) := by omega
      obtain ⟨z, hz⟩ : ∃ z, l[j] = z := ⟨_, rfl⟩
      have hmem : z ∈ l := by rw [← hz]; exact List.getElem_mem hlt
      have HM := hide hmem
      have HT : Hid (l.take (j + 1) = l.take j ++ [z]) := by unfold Hid; rw [List.take_succ_eq_append_getElem hlt, hz]
      rw [hz] at k1; clear c1 hz hmem; subst e1; obtain ⟨d0, d1, d2, d3, d4, d5, d6, _, _, _, _⟩ := k1
      go_wp2_with fail
      refine (inR1_any _ _ _ _ _ _ _ _).mono ?_; rintro e w1 ⟨hb, ho1⟩; obtain ⟨c, rfl, hc⟩ := hb.ex; have HC := hide hc; have HO1 := hide (o2 HO.out ho1); clear hc hb ho1
      cases c with
      | true =>
        go_wp2_with fail
        go_ret
        exact ⟨⟨j, rfl, ⟨fun _ => ⟨z, HM.out, HC.out.1 (by trivial)⟩, fun _ => by omega⟩⟩, HO1.out⟩
      | false =>
        go_wp2_with fail
        go_roundw
        case rel =>
          refine ⟨j + 1, by omega, by go_num, ?_, HO1⟩; unfold Hid; rw [HT.out]; intro n hn
          rcases List.mem_append.1 hn with hn | hn
          · exact HQ.out n hn
          · simp at hn; subst hn; exact Classical.byContradiction fun h => by have := HC.out.2 h; cases this
        case measure => simp [intOf]; omega
    · have e : l.take j = l := List.take_of_length_le (by omega)
      rw [e] at HQ
      go_wp2_with fail
      go_ret
      exact ⟨⟨-1, rfl, ⟨fun h => by omega, fun ⟨i, hi, hn⟩ => absurd (HQ.out i hi) hn⟩⟩, HO.out⟩
set_option maxRecDepth 100000 in
set_option maxHeartbeats 800000 in
theorem if2_any (w : World) (B cp : Nat) (ao : Option Addr) (l : List (Int × Int)) (h : Prs w B ao l) :
    Calls Tryz.prog 172 #[.slice ao l.length cp, .func (.func 143) #[] #[]] w fun e w' => RI e (∃ i ∈ l, ¬ (mb i.1 ∧ mb i.2)) ∧ Only (fun _ => False) w w' := by
  have hlen := h.len; have HS := hide h; clear h
  go_enter Tryz.func172, Tryz.ntmps172
  go_wp2_with fail
  go_loopw [8] (fun y wr => ∃ j : Nat, j ≤ l.length ∧ y = .int .i64 (j : Int) ∧ Hid (∀ i ∈ l.take j, (mb i.1 ∧ mb i.2)) ∧ Hid (Only (fun _ => False) w wr)) (fun y _ => l.length - (intOf y).toNat)
  case atStart => exact ⟨0, by omega, rfl, (fun n hn => by simp at hn), Only.refl _ _⟩
  case round =>
    obtain ⟨j, hj, rfl, HQ, HO⟩ := hrel
    by_cases hlt : j < l.length
    · obtain ⟨o, e1, c1⟩ := (HS.out.more HO.out).at_ (by omega)
      have k1 := c1 j hlt
      have hj1 : (j : Int) < (l.length : Int) := by omega
      obtain ⟨z, hz⟩ : ∃ z, l[j] = z := ⟨_, rfl⟩
      have hmem : z ∈ l := by rw [← hz]; exact List.getElem_mem hlt
      have HM := hide hmem
      have HT : Hid (l.take (j + 1) = l.take j ++ [z]) := by unfold Hid; rw [List.take_succ_eq_append_getElem hlt, hz]
      rw [hz] at k1; clear c1 hz hmem; subst e1; obtain ⟨d0, d1⟩ := k1
      go_wp2_with fail
      refine (inR2_any _ _ _).mono ?_; rintro e w1 ⟨hb, ho1⟩; obtain ⟨c, rfl, hc⟩ := hb.ex; have HC := hide hc; have HO1 := hide (o2 HO.out ho1); clear hc hb ho1
      cases c with
      | true =>
        go_wp2_with fail
        go_ret
        exact ⟨⟨j, rfl, ⟨fun _ => ⟨z, HM.out, HC.out.1 (by trivial)⟩, fun _ => by omega⟩⟩, HO1.out⟩
      | false =>
        go_wp2_with fail
        go_roundw
        case rel =>
          refine ⟨j + 1, by omega, by go_num, ?_, HO1⟩; unfold Hid; rw [HT.out]; intro n hn
          rcases List.mem_append.1 hn with hn | hn
          · exact HQ.out n hn
          · simp at hn; subst hn; exact Classical.byContradiction fun h => by have := HC.out.2 h; cases this
        case measure => simp [intOf]; omega
    · have e : l.take j = l := List.take_of_length_le (by omega)
      rw [e] at HQ
      go_wp2_with fail
      go_ret
      exact ⟨⟨-1, rfl, ⟨fun h => by omega, fun ⟨i, hi, hn⟩ => absurd (HQ.out i hi) hn⟩⟩, HO.out⟩
set_option maxRecDepth 100000 in
set_option maxHeartbeats 800000 in
theorem if3_any (w : World) (B cp : Nat) (ao : Option Addr) (l : List (Int × Int)) (h : Prs w B ao l) :
    Calls Tryz.prog 173 #[.slice ao l.length cp, .func (.func 145) #[] #[]] w fun e w' => RI e (∃ i ∈ l, ¬ (mb i.1 ∧ mb i.2)) ∧ Only (fun _ => False) w w' := by
  have hlen := h.len; have HS := hide h; clear h
  go_enter Tryz.func173, Tryz.ntmps173
  go_wp2_with fail
  go_loopw [8] (fun y wr => ∃ j : Nat, j ≤ l.length ∧ y = .int .i64 (j : Int) ∧ Hid (∀ i ∈ l.take j, (mb i.1 ∧ mb i.2)) ∧ Hid (Only (fun _ => False) w wr)) (fun y _ => l.length - (intOf y).toNat)
  case atStart => exact ⟨0, by omega, rfl, (fun n hn => by simp at hn), Only.refl _ _⟩
  case round =>
    obtain ⟨j, hj, rfl, HQ, HO⟩ := hrel
    by_cases hlt : j < l.length
    · obtain ⟨o, e1, c1⟩ := (HS.out.more HO.out).at_ (by omega)
      have k1 := c1 j hlt
      have hj1 : (j : Int) < (l.length : Int) := by omega
      obtain ⟨z, hz⟩ : ∃ z, l[j] = z := ⟨_, rfl⟩
      have hmem : z ∈ l := by rw [← hz]; exact List.getElem_mem hlt
      have HM := hide hmem
      have HT : Hid (l.take (j + 1) = l.take j ++ [z]) := by unfold Hid; rw [List.take_succ_eq_append_getElem hlt, hz]
      rw [hz] at k1; clear c1 hz hmem; subst e1; obtain ⟨d0, d1⟩ := k1
      go_wp2_with fail
      refine (inR3_any _ _ _).mono ?_; rintro e w1 ⟨hb, ho1⟩; obtain ⟨c, rfl, hc⟩ := hb.ex; have HC := hide hc; have HO1 := hide (o2 HO.out ho1); clear hc hb ho1
      cases c with
      | true =>
        go_wp2_with fail
        go_ret
        exact ⟨⟨j, rfl, ⟨fun _ => ⟨z, HM.out, HC.out.1 (by trivial)⟩, fun _ => by omega⟩⟩, HO1.out⟩
      | false =>
        go_wp2_with fail
        go_roundw
        case rel =>
          refine ⟨j + 1, by omega, by go_num, ?_, HO1⟩; unfold Hid; rw [HT.out]; intro n hn
          rcases List.mem_append.1 hn with hn | hn
          · exact HQ.out n hn
          · simp at hn; subst hn; exact Classical.byContradiction fun h => by have := HC.out.2 h; cases this
        case measure => simp [intOf]; omega
    · have e : l.take j = l := List.take_of_length_le (by omega)
      rw [e] at HQ
      go_wp2_with fail
      go_ret
      exact ⟨⟨-1, rfl, ⟨fun h => by omega, fun ⟨i, hi, hn⟩ => absurd (HQ.out i hi) hn⟩⟩, HO.out⟩
set_option maxRecDepth 100000 in
theorem cf1_any (w : World) (T : Nat → Prop) (B cp : Nat) (ao : Option Addr) (l : List Im) (h : Ims w T B ao l) :
    Calls Tryz.prog 140 #[.slice ao l.length cp, .func (.func 141) #[] #[]] w fun e w' => RB e (∃ i ∈ l, ¬ mb i.page) ∧ Only (fun _ => False) w w' := by
  have HF := hide (if1_any w T B cp ao l h); clear h
  go_enter Tryz.func140, Tryz.ntmps140
  go_wp2_with fail
  refine HF.out.mono ?_; rintro e w1 ⟨hb, ho1⟩; obtain ⟨c, rfl, hc⟩ := hb.ex; have HC := hide hc; have HO1 := hide ho1; clear hc hb ho1
  go_wp2_with fail
  go_ret
  exact ⟨⟨_, rfl, decide_eq_true_iff.trans HC.out⟩, HO1.out⟩
set_option maxRecDepth 100000 in
theorem cf2_any (w : World) (B cp : Nat) (ao : Option Addr) (l : List (Int × Int)) (h : Prs w B ao l) :
    Calls Tryz.prog 142 #[.slice ao l.length cp, .func (.func 143) #[] #[]] w fun e w' => RB e (∃ i ∈ l, ¬ (mb i.1 ∧ mb i.2)) ∧ Only (fun _ => False) w w' := by
  have HF := hide (if2_any w B cp ao l h); clear h
  go_enter Tryz.func142, Tryz.ntmps142
  go_wp2_with fail
  refine HF.out.mono ?_; rintro e w1 ⟨hb, ho1⟩; obtain ⟨c, rfl, hc⟩ := hb.ex; have HC := hide hc; have HO1 := hide ho1; clear hc hb ho1
  go_wp2_with fail
  go_ret
  exact ⟨⟨_, rfl, decide_eq_true_iff.trans HC.out⟩, HO1.out⟩
set_option maxRecDepth 100000 in
theorem cf3_any (w : World) (B cp : Nat) (ao : Option Addr) (l : List (Int × Int)) (h : Prs w B ao l) :
    Calls Tryz.prog 144 #[.slice ao l.length cp, .func (.func 145) #[] #[]] w fun e w' => RB e (∃ i ∈ l, ¬ (mb i.1 ∧ mb i.2)) ∧ Only (fun _ => False) w w' := by
  have HF := hide (if3_any w B cp ao l h); clear h
  go_enter Tryz.func144, Tryz.ntmps144
  go_wp2_with fail
  refine HF.out.mono ?_; rintro e w1 ⟨hb, ho1⟩; obtain ⟨c, rfl, hc⟩ := hb.ex; have HC := hide hc; have HO1 := hide ho1; clear hc hb ho1
  go_wp2_with fail
  go_ret
  exact ⟨⟨_, rfl, decide_eq_true_iff.trans HC.out⟩, HO1.out⟩
theorem Zs.nine (w : World) (a b c d e f g h i : Int) : Zs (w.alloc (.cells #[.int .i64 a, .int .i64 b, .int .i64 c, .int .i64 d, .int .i64 e, .int .i64 f, .int .i64 g, .int .i64 h, .int .i64 i] 3)) w.heap.size (some ⟨w.heap.size, 0, none⟩) [a, b, c, d, e, f, g, h, i] :=
  ⟨fun _ => ⟨0, rfl, fun j hj => by
    match j, hj with
    | 0, _ => simp
    | 1, _ => simp
    | 2, _ => simp
    | 3, _ => simp
    | 4, _ => simp
    | 5, _ => simp
    | 6, _ => simp
    | 7, _ => simp
    | 8, _ => simp⟩, fun _ => by simp, by simp⟩
set_option maxRecDepth 100000 in
set_option maxHeartbeats 1600000 in
theorem rinRange_any (w : World) (r : Rc) (L : Loc) (h : RcAt w r L) :
    Calls Tryz.prog 109 #[.agg (r.cells L)] w fun e w' => RB e r.inRange ∧ Only (fun _ => False) w w' := by
  have HR := hide h; clear h; have HO0 := hide (onlyA w (.cells (r.cells L) 59)); have HB := hide (Bx.new w r L); obtain ⟨W0, hW0⟩ : ∃ W0, w.alloc (.cells (r.cells L) 59) = W0 := ⟨_, rfl⟩; rw [hW0] at HO0 HB; have HW0 := hide hW0; clear hW0
  have HZ0 : Hid (W0.heap.size = w.heap.size + 1) := by unfold Hid; rw [← HW0.out]; simp
  by_cases h1 : 1 ≤ r.lsn
  · have HZ9 := hide (Zs.nine W0 r.lsn r.prev r.next r.redo r.xid r.page r.slot r.old r.new)
    have HO9 := hide (onlyA W0 (.cells #[.int .i64 r.lsn, .int .i64 r.prev, .int .i64 r.next, .int .i64 r.redo, .int .i64 r.xid, .int .i64 r.page, .int .i64 r.slot, .int .i64 r.old, .int .i64 r.new] 3)); rw [HZ0.out] at HZ9; obtain ⟨W1, hW1⟩ : ∃ W1, W0.alloc (.cells #[.int .i64 r.lsn, .int .i64 r.prev, .int .i64 r.next, .int .i64 r.redo, .int .i64 r.xid, .int .i64 r.page, .int .i64 r.slot, .int .i64 r.old, .int .i64 r.new] 3) = W1 := ⟨_, rfl⟩; rw [hW1] at HZ9 HO9; have HW1 := hide hW1; clear hW1; have HO1 := hide (o2 HO0.out HO9.out); have HB1 := hide (HB.out.more HO9.out); have HR1 := hide (HR.out.go HO1.out); obtain ⟨T, hims⟩ := HR1.out.images; have HI := hide hims; clear hims
    go_enter Tryz.func109, Tryz.ntmps109
    go_wp2_with fail
    rw [HW0.out, HW1.out]; refine (mayBe_any _ _ 9 _ _ HZ9.out).mono ?_; rintro e w1 ⟨hb, hw1⟩; obtain rfl := hw1.symm; obtain ⟨c, rfl, hc⟩ := hb.ex; have HC1 := hide hc; clear hc hb
    cases c with
    | false =>
      go_wp2_with fail
      go_ret
      exact ⟨RB.no (fun h => by have := HC1.out.2 h.ten; simp at this), HO1.out⟩
    | true =>
      have c11 := HB1.out.c11
      go_wp2_with fail
      refine (mayBe_any _ _ _ _ _ HR1.out.slots).mono ?_; rintro e w1 ⟨hb, hw1⟩; obtain rfl := hw1.symm; obtain ⟨c, rfl, hc⟩ := hb.ex; have HC2 := hide hc; clear hc hb
      cases c with
      | false =>
        go_wp2_with fail
        go_ret
        exact ⟨RB.no (fun h => by have := HC2.out.2 h.slots; simp at this), HO1.out⟩
      | true =>
        have c12 := HB1.out.c12
        go_wp2_with fail
        refine (mayBe_any _ _ _ _ _ HR1.out.more).mono ?_; rintro e w1 ⟨hb, hw1⟩; obtain rfl := hw1.symm; obtain ⟨c, rfl, hc⟩ := hb.ex; have HC3 := hide hc; clear hc hb
        cases c with
        | false =>
          go_wp2_with fail
          go_ret
          exact ⟨RB.no (fun h => by have := HC3.out.2 h.more; simp at this), HO1.out⟩
        | true =>
          have c13 := HB1.out.c13
          go_wp2_with fail
          refine (cf1_any _ T _ _ _ _ HI.out).mono ?_; rintro e w2 ⟨hb, ho2⟩; obtain ⟨c, rfl, hc⟩ := hb.ex; have HC4 := hide hc; have HO2 := hide (o2 HO1.out ho2); have HB2 := hide (HB1.out.more ho2); clear hc hb ho2 c11 c12 c13
          cases c with
          | true =>
            go_wp2_with fail
            go_ret
            exact ⟨RB.no (fun h => by obtain ⟨i, hi, hn⟩ := HC4.out.1 (by trivial); exact hn (h.images i hi)), HO2.out⟩
          | false =>
            have c14 := HB2.out.c14
            go_wp2_with fail
            refine (cf2_any _ _ _ _ _ (HR.out.go HO2.out).pages).mono ?_; rintro e w3 ⟨hb, ho3⟩; obtain ⟨c, rfl, hc⟩ := hb.ex; have HC5 := hide hc; have HO3 := hide (o2 HO2.out ho3); have HB3 := hide (HB2.out.more ho3); clear hc hb ho3 c14
            cases c with
            | true =>
              go_wp2_with fail
              go_ret
              exact ⟨RB.no (fun h => by obtain ⟨i, hi, hn⟩ := HC5.out.1 (by trivial); exact hn (h.pages i hi)), HO3.out⟩
            | false =>
              have c15 := HB3.out.c15
              go_wp2_with fail
              refine (cf3_any _ _ _ _ _ (HR.out.go HO3.out).txns).mono ?_; rintro e w4 ⟨hb, ho4⟩; obtain ⟨c, rfl, hc⟩ := hb.ex; have HC6 := hide hc; have HO4 := hide (o2 HO3.out ho4); clear hc hb ho4 c15
              cases c with
              | true =>
                go_wp2_with fail
                go_ret
                exact ⟨RB.no (fun h => by obtain ⟨i, hi, hn⟩ := HC6.out.1 (by trivial); exact hn (h.txns i hi)), HO4.out⟩
              | false =>
                go_wp2_with fail
                go_ret
                refine ⟨RB.yes ⟨h1, HC1.out.1 (by trivial), HC2.out.1 (by trivial), HC3.out.1 (by trivial), fun i hi => Classical.byContradiction fun hn => ?_, fun i hi => Classical.byContradiction fun hn => ?_, fun i hi => Classical.byContradiction fun hn => ?_⟩, HO4.out⟩
                · have := HC4.out.2 ⟨i, hi, hn⟩; simp at this
                · have := HC5.out.2 ⟨i, hi, hn⟩; simp at this
                · have := HC6.out.2 ⟨i, hi, hn⟩; simp at this
  · go_enter Tryz.func109, Tryz.ntmps109
    go_wp2_with fail
    rw [HW0.out]
    go_ret
    exact ⟨RB.no (fun h => by have := h.one; omega), HO0.out⟩
set_option maxRecDepth 100000 in
set_option maxHeartbeats 1600000 in
theorem rtooLong_any (w : World) (r : Rc) (L : Loc) :
    Calls Tryz.prog 110 #[.agg (r.cells L)] w fun e w' => RB e (¬ r.short) ∧ Only (fun _ => False) w w' := by
  have HO0 := hide (onlyA w (.cells (r.cells L) 59))
  by_cases h1 : r.data.size ≤ 512
  · have h1' : ¬ (512 : Int) < (r.data.size : Int) := by omega
    by_cases h2 : r.slots.length ≤ 255
    · have h2' : ¬ (255 : Int) < (r.slots.length : Int) := by omega
      by_cases h3 : r.more.length ≤ 255
      · have h3' : ¬ (255 : Int) < (r.more.length : Int) := by omega
        by_cases h4 : r.images.length ≤ 4
        · have h4' : ¬ (4 : Int) < (r.images.length : Int) := by omega
          by_cases h5 : r.pages.length ≤ 8192
          · have h5' : ¬ (8192 : Int) < (r.pages.length : Int) := by omega
            by_cases h6 : r.txns.length ≤ 1024
            · have h6' : ¬ (1024 : Int) < (r.txns.length : Int) := by omega
              go_enter Tryz.func110, Tryz.ntmps110
              go_wp2_with fail
              go_ret
              exact ⟨RB.of_false (by simp) (fun h => h ⟨h1, h2, h3, h4, h5, h6⟩), HO0.out⟩
            · have h6' : (1024 : Int) < (r.txns.length : Int) := by omega
              go_enter Tryz.func110, Tryz.ntmps110
              go_wp2_with fail
              go_ret
              exact ⟨RB.of_true (by simp) (fun h => h6 h.txns), HO0.out⟩
          · have h5' : (8192 : Int) < (r.pages.length : Int) := by omega
            go_enter Tryz.func110, Tryz.ntmps110
            go_wp2_with fail
            go_ret
            exact ⟨RB.of_true (by simp) (fun h => h5 h.pages), HO0.out⟩
        · have h4' : (4 : Int) < (r.images.length : Int) := by omega
          go_enter Tryz.func110, Tryz.ntmps110
          go_wp2_with fail
          go_ret
          exact ⟨RB.of_true (by simp) (fun h => h4 h.images), HO0.out⟩
      · have h3' : (255 : Int) < (r.more.length : Int) := by omega
        go_enter Tryz.func110, Tryz.ntmps110
        go_wp2_with fail
        go_ret
        exact ⟨RB.of_true (by simp) (fun h => h3 h.more), HO0.out⟩
    · have h2' : (255 : Int) < (r.slots.length : Int) := by omega
      go_enter Tryz.func110, Tryz.ntmps110
      go_wp2_with fail
      go_ret
      exact ⟨RB.of_true (by simp) (fun h => h2 h.slots), HO0.out⟩
  · have h1' : (512 : Int) < (r.data.size : Int) := by omega
    go_enter Tryz.func110, Tryz.ntmps110
    go_wp2_with fail
    go_ret
    exact ⟨RB.of_true (by simp) (fun h => h1 h.data), HO0.out⟩
theorem bare_snoc (l : List UInt8) (a : UInt8) : bare (l ++ [a]) = if a = 0 then bare l else l ++ [a] := by
  unfold bare; rw [List.reverse_append]
  by_cases h : a = 0
  · subst h; simp
  · simp [h]
set_option maxRecDepth 100000 in
set_option maxHeartbeats 800000 in
theorem trb_any (w : World) (s : ByteArray) (hs : s.size ≤ 512) : Calls Tryz.prog 133 #[.string s, .int .u8 0] w fun e w' => e = .returned (.string (str (bare (bl s)))) ∧ w' = w := by
  obtain ⟨R, hR⟩ : ∃ R, bare (bl s) = R := ⟨_, rfl⟩; rw [hR]; have HR := hide hR; clear hR
  go_enter Tryz.func133, Tryz.ntmps133
  go_wp2_with fail
  go_loop [0] (fun x => ∃ t : ByteArray, x = .string t ∧ t.size ≤ 512 ∧ Hid (bare (bl t) = R)) (fun x => match x with | .string t => t.size | _ => 0)
  case atStart => exact ⟨s, rfl, hs, HR⟩
  case round =>
    obtain ⟨t, rfl, ht, HT⟩ := hrel
    by_cases h0 : 0 < t.size
    · obtain ⟨m, hm⟩ : ∃ m, t.size = m + 1 := ⟨t.size - 1, by omega⟩
      have hlast : bl t = (bl t).take m ++ [t[m]] := by
        have h1 : (bl t).length = m + 1 := by rw [bl_len]; exact hm
        have h2 := List.take_succ_eq_append_getElem (l := bl t) (i := m) (by omega); rw [List.take_of_length_le (by omega)] at h2
        exact h2
      have HL := hide hlast
      have HE : Hid (bl (t.extract 0 m) = (bl t).take m) := by unfold Hid; rw [ext_bl, List.drop_zero]
      have HZ : Hid ((t.extract 0 m).size = m) := by unfold Hid; rw [← bl_len, HE.out, List.length_take, bl_len]; omega
      clear hlast
      go_wp2_with fail
      · rename_i h9
        have hb : t[m] = 0 := by
          have h2 : (t[m].toNat : Int) = 0 := by simpa using h9
          exact UInt8.toNat_inj.1 (by simpa using h2)
        refine ⟨⟨t.extract 0 m, rfl, by have := HZ.out; omega, ?_⟩, ?_⟩
        · have h3 := HT.out
          rw [HL.out, bare_snoc, if_pos hb] at h3; unfold Hid; rw [HE.out]
          exact h3
        · show (t.extract 0 m).size < t.size
          have := HZ.out; omega
      · rename_i h9
        have hb : t[m] ≠ 0 := by
          intro h; rw [h] at h9
          simp at h9
        have HF : Hid (R = bl t) := by
          have h3 := HT.out; rw [HL.out, bare_snoc, if_neg hb, ← HL.out] at h3
          exact h3.symm
        go_ret
        rw [HF.out, str_bl]
        exact ⟨rfl, rfl⟩
    · have HF : Hid (R = bl t) := by
        have h1 : bl t = [] := List.eq_nil_of_length_eq_zero (by rw [bl_len]; omega); have h3 := HT.out; rw [h1] at h3 ⊢
        exact h3.symm
      go_wp2_with fail
      go_ret
      rw [HF.out, str_bl]
      exact ⟨rfl, rfl⟩
set_option maxRecDepth 100000 in
theorem tr_any (w : World) (s : ByteArray) (h0 : 0 < s.size) (hs : s.size ≤ 512) : Calls Tryz.prog 146 #[.string s, .string ⟨#[0]⟩] w fun e w' => e = .returned (.string (str (bare (bl s)))) ∧ w' = w := by
  have hne : ¬ s.toList = [] := by
    intro h
    have h2 : s.toList.length = 0 := by rw [h]; rfl
    rw [ByteArray.toList_eq] at h2; have h3 : (bl s).length = 0 := h2; rw [bl_len] at h3
    omega
  have hne2 : s.toList.isEmpty = false := by simpa using hne
  have hc : ((⟨#[0]⟩ : ByteArray)[0]'(by decide)).toNat = 0 := rfl
  go_enter Tryz.func146, Tryz.ntmps146
  go_wp2_with fail
  refine (trb_any _ s hs).mono ?_; rintro e w1 ⟨rfl, rfl⟩
  go_wp2_with fail
  go_ret
  exact ⟨rfl, rfl⟩
def bares (l : List Im) : List ByteArray := l.map fun i => str (bare i.body.enc)
structure ItQ (w w' : World) (e : Ending) (l : List Im) : Prop where
  only : Only (fun _ => False) w w'
  bad : imErr l ≠ 0 → e = .returned (.tuple #[.slice none 0 0, .int .i64 (imErr l)])
  good : imErr l = 0 → ∃ B ao cp, e = .returned (.tuple #[.slice ao l.length cp, .int .i64 0]) ∧ Strs w' B ao (bares l)
theorem imErr_app (l : List Im) (i : Im) (h : imErr l = 0) : imErr (l ++ [i]) = i.body.out.2 := by
  induction l with
  | nil =>
    show (if i.body.out.2 = 0 then 0 else i.body.out.2) = i.body.out.2
    split
    · rename_i h; exact h.symm
    · rfl
  | cons j t ih =>
    rw [imErr] at h
    split at h
    · rename_i hj
      rw [List.cons_append, imErr, if_pos hj]
      exact ih h
    · rename_i hj
      exact absurd h hj
theorem imErr_take (l : List Im) (j : Nat) (h : imErr (l.take j) ≠ 0) : imErr l = imErr (l.take j) := by
  induction l generalizing j with
  | nil => simp [imErr] at h
  | cons i t ih =>
    cases j with
    | zero => simp [imErr] at h
    | succ j =>
      rw [List.take_succ_cons, imErr] at h ⊢; rw [imErr]
      split
      · rename_i hi
        rw [if_pos hi] at h
        exact ih j h
      · rfl
theorem out_zero {p : Pg} (h : p.out.2 = 0) : p.out = (p.enc, 0) ∧ p.fits := by
  unfold Pg.out at h ⊢
  split at h
  · rename_i h1
    split at h
    · rename_i h2
      rw [if_pos h1, if_pos h2]; exact ⟨rfl, h2⟩
    · simp at h
  · simp at h
set_option maxRecDepth 100000 in
set_option maxHeartbeats 1600000 in
theorem imageTexts_any (w : World) (T : Nat → Prop) (B cp : Nat) (ao : Option Addr) (l : List Im) (h : Ims w T B ao l) (hl4 : l.length ≤ 4) :
    Calls Tryz.prog 111 #[.slice ao l.length cp] w fun e w' => ItQ w w' e l := by
  obtain ⟨i0, hi, hz0, hz1, hz2⟩ := info_parts Tryz.infoStr; have HS := hide h; clear h
  go_enter Tryz.func111, Tryz.ntmps111
  go_wp2_with (
    at_make
    go_must (refine wpList_make_own _ rfl _ _ 43 rfl w.heap.size 9 i0 (.string ⟨#[]⟩) 1 Tryz.underlying43 hi hz0 hz1 .i64 .i64 _ l.length rfl rfl (by omega) (by rw [hz2]; omega) (by unfold maxLen; omega) (Nat.le_refl _) ?_)
    intro w1 hw1 hg1; have HL1 : Hid (Ls w1 w.heap.size (.slice (some ⟨w.heap.size, 0, none⟩) 0 l.length) []) := hw1; have HO1 : Hid (Only (fun _ => False) w w1) := Only.grown hg1 (fun k hk => by cases hk)
    clear hw1 hg1)
  go_loopw [4, 14] (fun x y wr => ∃ (j : Nat), j ≤ l.length ∧ y = .int .i64 (j : Int) ∧ Hid (imErr (l.take j) = 0) ∧ Hid (Ls wr w.heap.size x (bares (l.take j))) ∧ Hid (Only (fun _ => False) w wr)) (fun _ y _ => l.length - (intOf y).toNat)
  case atStart => exact ⟨0, by omega, rfl, rfl, HL1, HO1⟩
  case round =>
    obtain ⟨j, hj, rfl, HE, HL, HO⟩ := hrel
    by_cases hlt : j < l.length
    · obtain ⟨o, e1, c1⟩ := (HS.out.more HO.out).at_ (by omega)
      obtain ⟨D, a, c, k1, _⟩ := c1 j hlt
      have hj1 : (j : Int) < (l.length : Int) := by omega
      obtain ⟨z, hz⟩ : ∃ z, l[j] = z := ⟨_, rfl⟩
      have HT : Hid (l.take (j + 1) = l.take j ++ [z]) := by unfold Hid; rw [List.take_succ_eq_append_getElem hlt, hz]
      rw [hz] at k1; clear c1 hz; subst e1; have HK := hide k1; obtain ⟨d0, d1, d2, d3, d4, d5, d6, hst, _, hhi, hls⟩ := k1; have HST := hide hst; clear hst
      have HOUT : Hid (imErr (l.take (j + 1)) = z.body.out.2) := by unfold Hid; rw [HT.out]; exact imErr_app _ _ HE.out
      go_wp2_with fail
      have he := pencode_any _ z.body.lsn z.body.kind z.body.level z.body.right z.body.high D c a z.body.items (HST.out.more (onlyA wr (.cells #[.int .i64 z.page, .int .i64 z.body.lsn, .int .i64 z.body.kind, .int .i64 z.body.level, .int .i64 z.body.right, .string z.body.high, .slice a z.body.items.length c] 164))) hhi hls; rw [show (⟨z.body.lsn, z.body.kind, z.body.level, z.body.right, z.body.high, z.body.items⟩ : Pg) = z.body from rfl] at he; refine Calls.mono he ?_; clear he; rintro e w2 ⟨rfl, ho2⟩; have HO2 := hide (o2 (onlyA wr _) ho2); have HL2 := hide (HL.out.more HO2.out); have HOO := hide (o2 HO.out HO2.out); clear ho2 d0 d1 d2 d3 d4 d5 d6
      by_cases hc : z.body.out.2 = 0
      · obtain ⟨ho, hf⟩ := out_zero hc
        have HF := hide hf; rw [ho]
        simp only
        obtain ⟨E, hE⟩ : ∃ E, str z.body.enc = E := ⟨_, rfl⟩
        have hEs : E.size = 512 := by rw [← hE, str_size]; exact enc_len _ HF.out.2.2
        have hE0 : 0 < E.size := by omega
        have hE1 : E.size ≤ 512 := by omega
        rw [hE]; obtain ⟨X, hX⟩ : ∃ X, str (bare (bl E)) = X := ⟨_, rfl⟩
        have HXE : Hid (X = str (bare z.body.enc)) := by unfold Hid; rw [← hX, ← hE, bl_str]
        have HTR : Hid (∀ W, Calls Tryz.prog 146 #[.string E, .string ⟨#[0]⟩] W fun e w' => e = .returned (.string X) ∧ w' = W) := fun W => by
          have h1 := tr_any W E hE0 hE1; rw [hX] at h1
          exact h1
        have hXs : X.size ≤ 512 := by
          rw [← hX, str_size]; have := bare_len (bl E); rw [bl_len] at this
          omega
        have HC := hide hc
        have HBT : Hid (bares (l.take (j + 1)) = bares (l.take j) ++ [X]) := by unfold Hid bares; rw [HT.out, List.map_append, HXE.out]; rfl
        clear hc hf ho hE hX hEs hE0 hE1
        go_wp2_with fail
        refine (HTR.out _).mono ?_; rintro e w3 ⟨rfl, rfl⟩
        have hbl : (bares (l.take j)).length ≤ 4 := by simp only [bares, List.length_map, List.length_take]; omega
        obtain ⟨v4, w4, r4, l4, o4⟩ := append_strs (w3.alloc (.cells #[.string X] 9)) 43 w.heap.size _ (bares (l.take j)) (HL2.out.more (onlyA _ _)) w3.heap.size 1 (some ⟨w3.heap.size, 0, none⟩) [X] (Strs.one w3 X (by omega)) ⟨fun h => (by cases h), by simp, (by unfold maxLen; omega)⟩ (by simp; omega) (by have := HOO.out.size; simp; omega); have R4 := hide r4; have L4 := hide l4; have O4 : Hid (Only (fun _ => False) w w4) := (o2 HOO.out (onlyA _ _)).trans o4 (fun k hk e => by omega); clear r4 l4 o4
        go_wp2_with (at_builtin; go_must (refine Lib.wpList_append_run _ rfl (.tmp 27) (.tmp 30) _ _ rfl _ _ rfl rfl _ _ R4.out ?_))
        go_roundw
        case rel => exact ⟨j + 1, by omega, by go_num, by unfold Hid; rw [HOUT.out, HC.out], by rw [HBT.out]; exact L4, O4⟩
        case measure => simp [intOf]; omega
      · have hne : (z.body.out.2 != 0) = true := by simpa using hc
        have HER : Hid (imErr l = z.body.out.2) := by unfold Hid; rw [← HOUT.out]; exact imErr_take l (j + 1) (by rw [HOUT.out]; exact hc)
        have HC := hide hc; obtain ⟨q, hq⟩ : ∃ q, z.body.out.2 = q := ⟨_, rfl⟩; rw [hq] at hne HER HC ⊢; clear hc hq HOUT
        go_wp2_with fail
        go_ret2
        exact ⟨HOO.out, fun _ => by rw [HER.out]; rfl, fun h => absurd (HER.out.symm.trans h) HC.out⟩
    · have e : l.take j = l := List.take_of_length_le (by omega)
      rw [e] at HE HL
      have hbl : (bares l).length = l.length := by simp [bares]
      obtain ⟨B5, ao5, cp5, rfl, hS5, _⟩ := HL.out.strs (by omega) (fun s hs => by
        obtain ⟨i, hi, rfl⟩ := List.mem_map.1 hs; have h1 := imErr_all HE.out i hi; have h2 := bare_len i.body.enc; rw [enc_len _ h1.2.2.2.2] at h2
        rw [str_size]; omega)
      have HS5 := hide hS5; rw [hbl]; clear hS5 hbl
      go_wp2_with fail
      go_ret2
      exact ⟨HO.out, fun h => absurd HE.out h, fun _ => ⟨B5, ao5, cp5, rfl, HS5.out⟩⟩
end Go.Proofs.YtebijheonkagfaaGreatDoor
