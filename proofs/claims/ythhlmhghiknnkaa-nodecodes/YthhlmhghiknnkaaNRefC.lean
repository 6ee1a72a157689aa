/- What the document's Compare of entries does. -/
import Derived.Test.YthhlmhghiknnkaaNRef
namespace Go.Proofs.Ythhlmhghiknnkaa
open Go.RowKit

set_option maxHeartbeats 3200000 in
theorem fcompare_any (a b : En) (w : World) : Calls Try.prog 18 #[a.agg, b.agg] w fun x w' => x = .returned (.int .i64 (cmpE a b)) ∧ Only (fun _ => False) w w' := by
  have he := eqE_run a b
  have HO := hide (o2 (onlyA w (.cells #[.string a.key, .int .i64 a.page, .int .i64 a.slot] 23)) (onlyA _ (.cells #[.string b.key, .int .i64 b.page, .int .i64 b.slot] 23)))
  by_cases h : a = b
  · have hz : cmpE a b = 0 := cmpE_zero.2 h
    have hd : decide (a = b) = true := decide_eq_true h
    rw [hd] at he
    rw [hz]
    clear h hd hz
    obtain ⟨k, p, s⟩ := a
    obtain ⟨k', p', s'⟩ := b
    unfold En.agg
    simp only [] at he HO ⊢
    go_enter Try.func18, Try.ntmps18
    go_wp2_with fail
    go_ret
    exact ⟨rfl, HO.out⟩
  · have hd : decide (a = b) = false := decide_eq_false h
    rw [hd] at he
    have hz : cmpE a b = if a.lt b then -1 else 1 := by unfold cmpE; rw [if_neg h]
    obtain ⟨z, hz2⟩ : ∃ z, cmpE a b = z := ⟨_, rfl⟩
    rw [hz2] at hz ⊢
    have HZ := hide hz
    clear h hd hz hz2
    obtain ⟨k, p, s⟩ := a
    obtain ⟨k', p', s'⟩ := b
    unfold En.agg
    unfold En.lt at HZ
    simp only [] at he HO HZ ⊢
    by_cases h1 : k = k'
    · have e1 := ba_eqN h1
      have e0 : Op.bytesLess k.toList k'.toList = false := by rw [bless_lt, h1]; simp [List.lt_irrefl]
      have HZ1 : Hid (z = if (if p = p' then s < s' else p < p') then -1 else 1) := by unfold Hid; rw [HZ.out]; simp only [if_pos h1]
      clear h1 HZ
      by_cases h2 : p = p'
      · have e2 : (p == p') = true := by simpa using h2
        have e3 : ¬ p < p' := by omega
        have HZ2 : Hid (z = if s < s' then -1 else 1) := by unfold Hid; rw [HZ1.out]; simp only [if_pos h2]
        clear h2 HZ1
        by_cases h3 : s < s'
        · have HZ3 : Hid (z = -1) := by unfold Hid; rw [HZ2.out, if_pos h3]
          clear HZ2
          go_enter Try.func18, Try.ntmps18
          go_wp2_with fail
          go_ret
          exact ⟨by rw [HZ3.out]; rfl, HO.out⟩
        · have HZ3 : Hid (z = 1) := by unfold Hid; rw [HZ2.out, if_neg h3]
          clear HZ2
          go_enter Try.func18, Try.ntmps18
          go_wp2_with fail
          go_ret
          exact ⟨by rw [HZ3.out]; rfl, HO.out⟩
      · have e2 : (p == p') = false := by simpa using h2
        have HZ2 : Hid (z = if p < p' then -1 else 1) := by unfold Hid; rw [HZ1.out]; simp only [if_neg h2]
        clear h2 HZ1
        by_cases h3 : p < p'
        · have HZ3 : Hid (z = -1) := by unfold Hid; rw [HZ2.out, if_pos h3]
          clear HZ2
          go_enter Try.func18, Try.ntmps18
          go_wp2_with fail
          go_ret
          exact ⟨by rw [HZ3.out]; rfl, HO.out⟩
        · have HZ3 : Hid (z = 1) := by unfold Hid; rw [HZ2.out, if_neg h3]
          clear HZ2
          go_enter Try.func18, Try.ntmps18
          go_wp2_with fail
          go_ret
          exact ⟨by rw [HZ3.out]; rfl, HO.out⟩
    · have e1 := ba_neN h1
      have HZ1 : Hid (z = if bl k < bl k' then -1 else 1) := by unfold Hid; rw [HZ.out]; simp only [if_neg h1]
      clear h1 HZ
      by_cases h3 : bl k < bl k'
      · have e0 : Op.bytesLess k.toList k'.toList = true := by rw [bless_lt]; exact decide_eq_true h3
        have HZ3 : Hid (z = -1) := by unfold Hid; rw [HZ1.out, if_pos h3]
        clear HZ1 h3
        go_enter Try.func18, Try.ntmps18
        go_wp2_with fail
        go_ret
        exact ⟨by rw [HZ3.out]; rfl, HO.out⟩
      · have e0 : Op.bytesLess k.toList k'.toList = false := by rw [bless_lt]; exact decide_eq_false h3
        have HZ3 : Hid (z = 1) := by unfold Hid; rw [HZ1.out, if_neg h3]
        clear HZ1 h3
        go_enter Try.func18, Try.ntmps18
        go_wp2_with fail
        go_ret
        exact ⟨by rw [HZ3.out]; rfl, HO.out⟩
end Go.Proofs.Ythhlmhghiknnkaa
