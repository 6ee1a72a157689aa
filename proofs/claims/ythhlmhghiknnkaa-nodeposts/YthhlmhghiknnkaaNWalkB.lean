/- The order of entries, and an entry's bytes laid: package node's. -/
import Derived.Test.YthhlmhghiknnkaaNWalkA
namespace Go.Proofs.Ythhlmhghiknnkaa
open Go.RowKit

theorem separates_any (e : En) (w : World) : Calls Try.prog 36 #[e.agg] w fun x w' => x = .returned (.bool e.sp) ∧ Only (fun _ => False) w w' := by
  have HL : Hid (∀ W, Calls Try.prog 66 #[e.agg] W fun x w' => x = .returned (.bool (decide (e = noE))) ∧ Only (fun _ => False) W w') := fun W => isLeast_any e W
  have HE : Hid (∀ W, Calls Try.prog 32 #[e.agg] W fun x w' => x = .returned (.bool e.ok) ∧ Only (fun _ => False) W w') := fun W => isEntry_any e W
  unfold En.sp
  obtain ⟨b, hb⟩ : ∃ b, decide (e = noE) = b := ⟨_, rfl⟩
  obtain ⟨c, hc⟩ : ∃ c, e.ok = c := ⟨_, rfl⟩
  rw [hb] at HL ⊢
  rw [hc] at HE ⊢
  clear hb hc
  obtain ⟨k, p, s⟩ := e
  unfold En.agg at HL HE ⊢
  simp only [] at HL HE ⊢
  have HO := hide (onlyA w (.cells #[.string k, .int .i64 p, .int .i64 s] 23))
  cases b with
  | true =>
    go_enter Try.func36, Try.ntmps36
    go_wp2_with fail
    refine (HL.out _).mono ?_
    rintro x w1 ⟨rfl, ho⟩
    have HO1 := hide (o2 HO.out ho)
    clear ho
    go_wp2_with fail
    go_ret
    exact ⟨rfl, HO1.out⟩
  | false =>
    have c0 : (w.alloc (.cells #[.string k, .int .i64 p, .int .i64 s] 23)).cell? ⟨w.heap.size, 0, none⟩ = some (.string k) := by simp
    have c1 : (w.alloc (.cells #[.string k, .int .i64 p, .int .i64 s] 23)).cell? ⟨w.heap.size, 1, none⟩ = some (.int .i64 p) := by simp
    have c2 : (w.alloc (.cells #[.string k, .int .i64 p, .int .i64 s] 23)).cell? ⟨w.heap.size, 2, none⟩ = some (.int .i64 s) := by simp
    have hz : w.heap.size < (w.alloc (.cells #[.string k, .int .i64 p, .int .i64 s] 23)).heap.size := by simp
    have HC := hide (And.intro c0 (And.intro c1 (And.intro c2 hz)))
    clear c0 c1 c2 hz
    go_enter Try.func36, Try.ntmps36
    go_wp2_with fail
    refine (HL.out _).mono ?_
    rintro x w1 ⟨rfl, ho⟩
    have HO1 := hide (o2 HO.out ho)
    have d0 := (ho.cell (p := ⟨w.heap.size, 0, none⟩) HC.out.2.2.2 (fun h => h)).trans HC.out.1
    have d1 := (ho.cell (p := ⟨w.heap.size, 1, none⟩) HC.out.2.2.2 (fun h => h)).trans HC.out.2.1
    have d2 := (ho.cell (p := ⟨w.heap.size, 2, none⟩) HC.out.2.2.2 (fun h => h)).trans HC.out.2.2.1
    clear ho
    go_wp2_with fail
    refine (HE.out _).mono ?_
    rintro x w2 ⟨rfl, ho⟩
    have HO2 := hide (o2 HO1.out ho)
    clear ho
    go_wp2_with fail
    go_ret
    exact ⟨by simp, HO2.out⟩
theorem bless_lt {a b : ByteArray} : Op.bytesLess a.toList b.toList = decide (bl a < bl b) := by
  rw [bytesLess_eq, ByteArray.toList_eq, ByteArray.toList_eq]
set_option maxHeartbeats 800000 in
theorem isAhead_any (a b : En) (w : World) : Calls Try.prog 47 #[a.agg, b.agg] w fun x w' => x = .returned (.bool (decide (a.lt b))) ∧ Only (fun _ => False) w w' := by
  obtain ⟨k, p, s⟩ := a
  obtain ⟨k', p', s'⟩ := b
  unfold En.agg En.lt
  simp only []
  have HO := hide (o2 (onlyA w (.cells #[.string k, .int .i64 p, .int .i64 s] 23)) (onlyA _ (.cells #[.string k', .int .i64 p', .int .i64 s'] 23)))
  obtain ⟨B, hB⟩ : ∃ B, decide (if k = k' then (if p = p' then s < s' else p < p') else bl k < bl k') = B := ⟨_, rfl⟩
  rw [hB]
  have HB := hide hB
  clear hB
  by_cases h1 : k = k'
  · have e1 := ba_eqN h1
    have H1 := hide h1
    clear h1
    by_cases h2 : p = p'
    · have e2 : (p == p') = true := by simpa using h2
      have H2 := hide h2
      clear h2
      go_enter Try.func47, Try.ntmps47
      go_wp2_with fail
      go_ret
      exact ⟨ret_bool (by rw [← HB.out]; exact decide_eq_decide.2 (by rw [if_pos H1.out, if_pos H2.out])), HO.out⟩
    · have e2 : (p == p') = false := by simpa using h2
      have H2 := hide h2
      clear h2
      go_enter Try.func47, Try.ntmps47
      go_wp2_with fail
      go_ret
      exact ⟨ret_bool (by rw [← HB.out]; exact decide_eq_decide.2 (by rw [if_pos H1.out, if_neg H2.out])), HO.out⟩
  · have e1 := ba_neN h1
    have H1 := hide h1
    clear h1
    go_enter Try.func47, Try.ntmps47
    go_wp2_with fail
    go_ret
    exact ⟨ret_bool (by rw [← HB.out, bless_lt]; exact decide_eq_decide.2 (by rw [if_neg H1.out])), HO.out⟩
/-- An entry in a block. -/
structure Eb (w : World) (b o : Nat) (e : En) : Prop where
  c0 : w.cell? ⟨b, o, none⟩ = some (.string e.key)
  c1 : w.cell? ⟨b, o + 1, none⟩ = some (.int .i64 e.page)
  c2 : w.cell? ⟨b, o + 2, none⟩ = some (.int .i64 e.slot)
  lt : b < w.heap.size
theorem Eb.kept {S : Nat → Prop} {w w' : World} {b o : Nat} {e : En} (h : Eb w b o e) (ho : Only S w w') (hS : ¬ S b) : Eb w' b o e :=
  ⟨(ho.cell (p := ⟨b, o, none⟩) h.lt hS).trans h.c0, (ho.cell (p := ⟨b, o + 1, none⟩) h.lt hS).trans h.c1, (ho.cell (p := ⟨b, o + 2, none⟩) h.lt hS).trans h.c2, Nat.lt_of_lt_of_le h.lt ho.size⟩
theorem Eb.more {w w' : World} {b o : Nat} {e : En} (h : Eb w b o e) (ho : Only (fun _ => False) w w') : Eb w' b o e := h.kept ho (fun h => h)
theorem Eb.new (w : World) (e : En) : Eb (w.alloc (.cells #[.string e.key, .int .i64 e.page, .int .i64 e.slot] 23)) w.heap.size 0 e := ⟨by simp, by simp, by simp, by simp⟩
set_option maxHeartbeats 800000 in
theorem compare_any (a b : En) (w : World) : Calls Try.prog 17 #[a.agg, b.agg] w fun x w' => x = .returned (.int .i64 (cmpE a b)) ∧ Only (fun _ => False) w w' := by
  have he := eqE_run a b
  have HA : Hid (∀ W, Calls Try.prog 47 #[a.agg, b.agg] W fun x w' => x = .returned (.bool (decide (a.lt b))) ∧ Only (fun _ => False) W w') := fun W => isAhead_any a b W
  have HO := hide (o2 (onlyA w (.cells #[.string a.key, .int .i64 a.page, .int .i64 a.slot] 23)) (onlyA _ (.cells #[.string b.key, .int .i64 b.page, .int .i64 b.slot] 23)))
  by_cases h : a = b
  · have hz : cmpE a b = 0 := cmpE_zero.2 h
    have hd : decide (a = b) = true := decide_eq_true h
    rw [hd] at he
    rw [hz]
    clear h hd hz HA
    obtain ⟨k, p, s⟩ := a
    obtain ⟨k', p', s'⟩ := b
    unfold En.agg
    simp only [] at he HO ⊢
    go_enter Try.func17, Try.ntmps17
    go_wp2_with fail
    go_ret
    exact ⟨rfl, HO.out⟩
  · have hd : decide (a = b) = false := decide_eq_false h
    rw [hd] at he
    have hz : cmpE a b = if a.lt b then -1 else 1 := by unfold cmpE; rw [if_neg h]
    rw [hz]
    clear h hd hz
    by_cases h : a.lt b
    · have hd : decide (a.lt b) = true := decide_eq_true h
      rw [hd] at HA
      rw [if_pos h]
      clear h hd
      obtain ⟨k, p, s⟩ := a
      obtain ⟨k', p', s'⟩ := b
      unfold En.agg at HA ⊢
      simp only [] at he HO HA ⊢
      go_enter Try.func17, Try.ntmps17
      go_wp2_with fail
      refine (HA.out _).mono ?_
      rintro x w1 ⟨rfl, ho⟩
      have HO1 := hide (o2 HO.out ho)
      clear ho
      go_wp2_with fail
      go_ret
      exact ⟨rfl, HO1.out⟩
    · have hd : decide (a.lt b) = false := decide_eq_false h
      rw [hd] at HA
      rw [if_neg h]
      clear h hd
      obtain ⟨k, p, s⟩ := a
      obtain ⟨k', p', s'⟩ := b
      unfold En.agg at HA ⊢
      simp only [] at he HO HA ⊢
      go_enter Try.func17, Try.ntmps17
      go_wp2_with fail
      refine (HA.out _).mono ?_
      rintro x w1 ⟨rfl, ho⟩
      have HO1 := hide (o2 HO.out ho)
      clear ho
      go_wp2_with fail
      go_ret
      exact ⟨rfl, HO1.out⟩
end Go.Proofs.Ythhlmhghiknnkaa
