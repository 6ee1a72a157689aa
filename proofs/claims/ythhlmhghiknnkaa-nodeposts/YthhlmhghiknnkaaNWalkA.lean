/- What the small functions of package node, and the document's, do. -/
import Derived.Test.YthhlmhghiknnkaaNPure
import Derived.Test.YthhlmhghiknnkaaPMem
import Derived.Test.YthhlmhghiknnkaaRRd
import Derived.Deep.RegionHeld3
import Derived.Deep.Draws
namespace Go.Proofs.Ythhlmhghiknnkaa
open Go.RowKit

/-- An entry as a value. -/
def En.agg (e : En) : Value := .agg #[.string e.key, .int .i64 e.page, .int .i64 e.slot]
/-- A number of pages and slots. -/
def nm (n : Int) : Bool := decide (0 ≤ n ∧ n ≤ 65535)
theorem nm_eq (n : Int) : nm n = (decide (0 ≤ n) && decide (n ≤ 65535)) := by unfold nm; rw [Bool.eq_iff_iff]; simp
theorem okC_eq (n : Int) : okC n = (decide (1 ≤ n) && decide (n ≤ 65535)) := by unfold okC; rw [Bool.eq_iff_iff]; simp
theorem En.ok_eq (e : En) : e.ok = (decide ((1 : Int) ≤ e.key.size) && decide ((e.key.size : Int) ≤ 24) && nm e.page && nm e.slot) := by
  unfold En.ok nm
  rw [Bool.eq_iff_iff]
  simp only [Bool.and_eq_true, decide_eq_true_eq]
  omega
theorem isNumber_any (n : Int) (w : World) : Calls Try.prog 59 #[.int .i64 n] w fun e w' => e = .returned (.bool (nm n)) ∧ w' = w := by
  rw [nm_eq]
  by_cases h1 : (0 : Int) ≤ n
  · go_enter Try.func59, Try.ntmps59
    go_wp2
    go_ret
    exact ⟨by simp [h1], rfl⟩
  · go_enter Try.func59, Try.ntmps59
    go_wp2
    go_ret
    exact ⟨by simp; omega, rfl⟩
theorem fsmall_any (n : Int) (w : World) : Calls Try.prog 64 #[.int .i64 n] w fun e w' => e = .returned (.bool (nm n)) ∧ w' = w := by
  rw [nm_eq]
  by_cases h1 : (0 : Int) ≤ n
  · go_enter Try.func64, Try.ntmps64
    go_wp2
    go_ret
    exact ⟨by simp [h1], rfl⟩
  · go_enter Try.func64, Try.ntmps64
    go_wp2
    go_ret
    exact ⟨by simp; omega, rfl⟩
theorem isChild_any (n : Int) (w : World) : Calls Try.prog 37 #[.int .i64 n] w fun e w' => e = .returned (.bool (okC n)) ∧ w' = w := by
  rw [okC_eq]
  by_cases h1 : (1 : Int) ≤ n
  · go_enter Try.func37, Try.ntmps37
    go_wp2
    go_ret
    exact ⟨by simp [h1], rfl⟩
  · go_enter Try.func37, Try.ntmps37
    go_wp2
    go_ret
    exact ⟨by simp; omega, rfl⟩
theorem fchild_any (n : Int) (w : World) : Calls Try.prog 38 #[.int .i64 n] w fun e w' => e = .returned (.bool (okC n)) ∧ w' = w := by
  rw [okC_eq]
  by_cases h1 : (1 : Int) ≤ n
  · go_enter Try.func38, Try.ntmps38
    go_wp2
    go_ret
    exact ⟨by simp [h1], rfl⟩
  · go_enter Try.func38, Try.ntmps38
    go_wp2
    go_ret
    exact ⟨by simp; omega, rfl⟩
set_option maxHeartbeats 800000 in
theorem isEntry_any (e : En) (w : World) : Calls Try.prog 32 #[e.agg] w fun x w' => x = .returned (.bool e.ok) ∧ Only (fun _ => False) w w' := by
  rw [En.ok_eq]
  obtain ⟨k, p, s⟩ := e
  unfold En.agg
  simp only []
  have HO := hide (onlyA w (.cells #[.string k, .int .i64 p, .int .i64 s] 23))
  obtain ⟨bp, hbp⟩ : ∃ b, nm p = b := ⟨_, rfl⟩
  obtain ⟨bs, hbs⟩ : ∃ b, nm s = b := ⟨_, rfl⟩
  have HP : Hid (∀ W, Calls Try.prog 59 #[.int .i64 p] W fun e w' => e = .returned (.bool bp) ∧ w' = W) := fun W => by have := isNumber_any p W; rwa [hbp] at this
  have HS : Hid (∀ W, Calls Try.prog 59 #[.int .i64 s] W fun e w' => e = .returned (.bool bs) ∧ w' = W) := fun W => by have := isNumber_any s W; rwa [hbs] at this
  rw [hbp, hbs]
  clear hbp hbs
  by_cases h1 : (1 : Int) ≤ k.size
  · by_cases h2 : (k.size : Int) ≤ 24
    · go_enter Try.func32, Try.ntmps32
      go_wp2_with fail
      refine (HP.out _).mono ?_
      rintro e w1 ⟨rfl, h⟩
      obtain rfl := h.symm
      cases bp with
      | true =>
        go_wp2_with fail
        refine (HS.out _).mono ?_
        rintro e w1 ⟨rfl, h⟩
        obtain rfl := h.symm
        go_wp2_with fail
        go_ret
        exact ⟨by simp [h1, h2], HO.out⟩
      | false =>
        go_wp2_with fail
        go_ret
        exact ⟨by simp, HO.out⟩
    · go_enter Try.func32, Try.ntmps32
      go_wp2_with fail
      go_ret
      exact ⟨by simp; intros; omega, HO.out⟩
  · go_enter Try.func32, Try.ntmps32
    go_wp2_with fail
    go_ret
    exact ⟨by simp; intros; omega, HO.out⟩
set_option maxHeartbeats 800000 in
theorem fentry_any (e : En) (w : World) : Calls Try.prog 34 #[e.agg] w fun x w' => x = .returned (.bool e.ok) ∧ Only (fun _ => False) w w' := by
  rw [En.ok_eq]
  obtain ⟨k, p, s⟩ := e
  unfold En.agg
  simp only []
  have HO := hide (onlyA w (.cells #[.string k, .int .i64 p, .int .i64 s] 23))
  obtain ⟨bp, hbp⟩ : ∃ b, nm p = b := ⟨_, rfl⟩
  obtain ⟨bs, hbs⟩ : ∃ b, nm s = b := ⟨_, rfl⟩
  have HP : Hid (∀ W, Calls Try.prog 64 #[.int .i64 p] W fun e w' => e = .returned (.bool bp) ∧ w' = W) := fun W => by have := fsmall_any p W; rwa [hbp] at this
  have HS : Hid (∀ W, Calls Try.prog 64 #[.int .i64 s] W fun e w' => e = .returned (.bool bs) ∧ w' = W) := fun W => by have := fsmall_any s W; rwa [hbs] at this
  rw [hbp, hbs]
  clear hbp hbs
  by_cases h1 : (1 : Int) ≤ k.size
  · by_cases h2 : (k.size : Int) ≤ 24
    · go_enter Try.func34, Try.ntmps34
      go_wp2_with fail
      refine (HP.out _).mono ?_
      rintro e w1 ⟨rfl, h⟩
      obtain rfl := h.symm
      cases bp with
      | true =>
        go_wp2_with fail
        refine (HS.out _).mono ?_
        rintro e w1 ⟨rfl, h⟩
        obtain rfl := h.symm
        go_wp2_with fail
        go_ret
        exact ⟨by simp [h1, h2], HO.out⟩
      | false =>
        go_wp2_with fail
        go_ret
        exact ⟨by simp, HO.out⟩
    · go_enter Try.func34, Try.ntmps34
      go_wp2_with fail
      go_ret
      exact ⟨by simp; intros; omega, HO.out⟩
  · go_enter Try.func34, Try.ntmps34
    go_wp2_with fail
    go_ret
    exact ⟨by simp; intros; omega, HO.out⟩
theorem ba_eqN {s t : ByteArray} (h : s = t) : (s.toList == t.toList) = true := by simp [h]
theorem ba_neN {s t : ByteArray} (h : ¬ s = t) : (s.toList == t.toList) = false := by
  cases e : (s.toList == t.toList) with
  | false => rfl
  | true =>
    refine absurd ?_ h
    have e' : s.toList = t.toList := by simpa using e
    rw [ByteArray.toList_eq, ByteArray.toList_eq] at e'
    exact bl_injN e'
theorem eqE_run (a b : En) (w : World) : (binOp .eql 23 (.agg #[.string a.key, .int .i64 a.page, .int .i64 a.slot]) (.agg #[.string b.key, .int .i64 b.page, .int .i64 b.slot])).run Try.prog w = .ok (.bool (decide (a = b))) w := by
  obtain ⟨k, p, s⟩ := a
  obtain ⟨k', p', s'⟩ := b
  by_cases h1 : k = k'
  · by_cases h2 : p = p'
    · by_cases h3 : s = s'
      · subst h1 h2 h3
        simp [go_sem]
      · simp [go_sem, h1, h2, h3]
    · simp [go_sem, h1, h2]
  · have h4 := ba_neN h1
    have h5 : ¬ k.toList = k'.toList := by simpa using h4
    simp [go_sem, h1, h5]
theorem isLeast_any (e : En) (w : World) : Calls Try.prog 66 #[e.agg] w fun x w' => x = .returned (.bool (decide (e = noE))) ∧ Only (fun _ => False) w w' := by
  have he : ∀ W, (binOp .eql 23 (.agg #[.string e.key, .int .i64 e.page, .int .i64 e.slot]) (.agg #[.string ⟨#[]⟩, .int .i64 0, .int .i64 0])).run Try.prog W = .ok (.bool (decide (e = noE))) W := fun W => eqE_run e noE W
  obtain ⟨b, hb⟩ : ∃ b, decide (e = noE) = b := ⟨_, rfl⟩
  rw [hb] at he ⊢
  clear hb
  obtain ⟨k, p, s⟩ := e
  unfold En.agg
  simp only [] at he ⊢
  have HO := hide (onlyA w (.cells #[.string k, .int .i64 p, .int .i64 s] 23))
  go_enter Try.func66, Try.ntmps66
  go_wp2_with fail
  go_ret
  exact ⟨rfl, HO.out⟩
end Go.Proofs.Ythhlmhghiknnkaa
