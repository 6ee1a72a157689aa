/- Parts. -/
import Derived.Test.YtpnbhddmdfcjdaaK27
import Derived.Test.YtpnbhddmdfcjdaaK14
set_option maxRecDepth 100000
namespace Go.Proofs.Ytpnbhddmdfcjdaa
open Go.RowKit
/-- A version as a value. -/
def Tu.agg (t : Tu) : Value := .agg #[.int .i64 t.xmin, .int .i64 t.xmax, .bool t.frozen, .string t.key, .string t.value]
theorem isKey_any (k : ByteArray) (w : World) : Calls Try.prog 32 #[.string k] w fun e w' => e = .returned (.bool (okK k)) ∧ w' = w := by
  have hk : okK k = (decide ((1 : Int) ≤ k.size) && decide ((k.size : Int) ≤ 24)) := by
    unfold okK
    rw [Bool.eq_iff_iff]
    simp only [Bool.and_eq_true, decide_eq_true_eq]
    omega
  rw [hk]
  by_cases h1 : (1 : Int) ≤ k.size
  · go_enter Try.func32, Try.ntmps32
    go_wp2
    go_ret
    exact ⟨by simp [h1], rfl⟩
  · go_enter Try.func32, Try.ntmps32
    go_wp2
    go_ret
    exact ⟨by simp; omega, rfl⟩
theorem umark_any (b : Bool) (w : World) : Calls Try.prog 35 #[.bool b] w fun e w' => e = .returned (.string ⟨#[mkB b]⟩) ∧ w' = w := by
  cases b
  all_goals
    go_enter Try.func35, Try.ntmps35
    go_wp2
    go_ret
    exact ⟨rfl, rfl⟩
theorem ufree_any (w : World) : Calls Try.prog 12 #[] w fun e w' => e = .returned (.string ⟨#[]⟩) ∧ w' = w := by
  go_enter Try.func12, Try.ntmps12
  go_wp2
  go_ret
  exact ⟨rfl, rfl⟩
theorem ba_eqU {s t : ByteArray} (h : s = t) : (s.toList == t.toList) = true := by simp [h]
theorem ba_neU {s t : ByteArray} (h : ¬ s = t) : (s.toList == t.toList) = false := by
  cases e : (s.toList == t.toList) with
  | false => rfl
  | true =>
    refine absurd ?_ h
    have e' : s.toList = t.toList := by simpa using e
    rw [ByteArray.toList_eq, ByteArray.toList_eq] at e'
    exact ByteArray.ext (Array.toList_inj.1 e')
theorem one_ne {a b : UInt8} (h : ¬ a = b) : ¬ (⟨#[a]⟩ : ByteArray) = ⟨#[b]⟩ := by
  intro e
  injection e with e
  simp at e
  exact h e
theorem isMark_any (a : UInt8) (w : World) : Calls Try.prog 41 #[.string ⟨#[a]⟩] w fun e w' => e = .returned (.bool (a == 1 || a == 3)) ∧ w' = w := by
  by_cases h1 : a = 1
  · subst h1
    go_enter Try.func41, Try.ntmps41
    go_wp2
    go_ret
    exact ⟨rfl, rfl⟩
  · have e1 : ((⟨#[a]⟩ : ByteArray).toList == (⟨#[1]⟩ : ByteArray).toList) = false := ba_neU (one_ne h1)
    by_cases h3 : a = 3
    · subst h3
      go_enter Try.func41, Try.ntmps41
      go_wp2
      go_ret
      exact ⟨rfl, rfl⟩
    · have e3 : ((⟨#[a]⟩ : ByteArray).toList == (⟨#[3]⟩ : ByteArray).toList) = false := ba_neU (one_ne h3)
      go_enter Try.func41, Try.ntmps41
      go_wp2
      go_ret
      exact ⟨ret_bool (by simp_all), rfl⟩
set_option maxRecDepth 100000 in
set_option maxHeartbeats 1600000 in
theorem isVersion_any (t : Tu) (w : World) (h0 : -9223372036854775808 ≤ t.xmin ∧ t.xmin < 9223372036854775808) (h1 : -9223372036854775808 ≤ t.xmax ∧ t.xmax < 9223372036854775808) :
    Calls Try.prog 34 #[t.agg] w fun e w' => e = .returned (.bool t.ok) ∧ Only (fun _ => False) w w' := by
  obtain ⟨a, b, f, k, v⟩ := t
  have hk : Tu.ok ⟨a, b, f, k, v⟩ = (decide (1 ≤ a) && (decide (a ≤ 1024) && (decide (0 ≤ b) && (decide (b ≤ 1024) && (okK k && decide ((v.size : Int) ≤ 64)))))) := by
    unfold okK Tu.ok
    rw [Bool.eq_iff_iff]
    simp only [Bool.and_eq_true, decide_eq_true_eq]
    omega
  rw [hk]
  unfold Tu.agg
  simp only at h0 h1 ⊢
  clear hk
  obtain ⟨q, hq⟩ : ∃ q, okK k = q := ⟨_, rfl⟩
  have hc := fun W => isKey_any k W
  rw [hq] at hc
  rw [hq]
  clear hq
  by_cases c1 : 1 ≤ a
  · by_cases c2 : a ≤ 1024
    · by_cases c3 : 0 ≤ b
      · by_cases c4 : b ≤ 1024
        · cases q
          all_goals
            go_enter Try.func34, Try.ntmps34
            go_wp2_with (go_at_call 32; refine (hc _).mono ?_; rintro e w' ⟨rfl, hw⟩; obtain rfl := hw.symm; clear hw)
            go_ret
            exact ⟨by simp [c1, c2, c3, c4], onlyA _ _⟩
        · go_enter Try.func34, Try.ntmps34
          go_wp2
          go_ret
          exact ⟨by simp; omega, onlyA _ _⟩
      · go_enter Try.func34, Try.ntmps34
        go_wp2
        go_ret
        exact ⟨by simp; omega, onlyA _ _⟩
    · go_enter Try.func34, Try.ntmps34
      go_wp2
      go_ret
      exact ⟨by simp; omega, onlyA _ _⟩
  · go_enter Try.func34, Try.ntmps34
    go_wp2
    go_ret
    exact ⟨by simp; omega, onlyA _ _⟩
end Go.Proofs.Ytpnbhddmdfcjdaa
