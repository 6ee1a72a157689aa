/- The document's Text, laid and taken, over the statuses' base. -/
import Derived.Test.YthhlmhghiknnkaaCRdC
import Derived.Test.YthhlmhghiknnkaaCNum
namespace Go.Proofs.Ythhlmhghiknnkaa
open Go.RowKit

theorem ret_str {a b : ByteArray} (h : a = b) : Ending.returned (.string a) = .returned (.string b) := by rw [h]
theorem xtext_err (w : World) (x : Nat) (s : ByteArray) (p : Nat) (y z : Int) (h : XR w x s p y) (hy : (y != 0) = true) (hy2 : (y == 0) = false) :
    Calls Try.prog 43 #[.pointer (some ⟨x, 0, none⟩), .int .i64 z] w fun e w' => e = .returned (.string ⟨#[]⟩) ∧ Only (fun _ => False) w w' := by
  have HX := hide h
  obtain ⟨c0, c1, c2, f0, f1, f2, hl⟩ := h
  go_enter Try.func43, Try.ntmps43
  go_wp2_with fail
  refine (xnum_err _ x s p y z (unhide HX) hy).mono ?_
  rintro e w1 ⟨rfl, rfl⟩
  go_wp2_with fail
  go_region
  go_wp2_with fail
  go_ret
  exact ⟨rfl, Only.drew _ _⟩

set_option maxRecDepth 100000 in
set_option maxHeartbeats 1600000 in
theorem xtext_any (w : World) (x : Nat) (s : ByteArray) (p : Nat) (z : Int) (h : XR w x s p 0) (hp : p ≤ s.size) (hs : s.size ≤ maxLen - 100) :
    Calls Try.prog 43 #[.pointer (some ⟨x, 0, none⟩), .int .i64 z] w fun e w' => e = .returned (.string ⟨(rdT z (s.data.toList.drop p)).1.toArray⟩) ∧ XPost w w' x s (rdT z (s.data.toList.drop p)).2.1 (rdT z (s.data.toList.drop p)).2.2 := by
  have hcall := xnum_any w x s p z h hp hs
  have hfx := rdN_facts z (s.data.toList.drop p)
  unfold maxLen at hs
  by_cases hx : (rdN z (s.data.toList.drop p)).2.2 = 0
  · by_cases hsh : ((rdN z (s.data.toList.drop p)).2.1.length : Int) < (rdN z (s.data.toList.drop p)).1
    · rw [rdT_short hx hsh]
      generalize rdN z (s.data.toList.drop p) = N at *
      obtain ⟨n, t, y⟩ := N
      simp only at hx hsh hfx hcall
      subst hx
      have HC := hide hcall
      clear hcall
      go_enter Try.func43, Try.ntmps43
      go_wp2_with fail
      refine (unhide HC).mono ?_
      rintro e w1 ⟨rfl, p', hX1, hpl, ho1⟩
      obtain ⟨hp1, ht⟩ := hpl rfl
      have hlen : s.size - p' = t.length := by rw [← ht]; simp
      have hgt : (s.size : Int) - (p' : Int) < n := by omega
      have HX1 := hide (And.intro hX1 ho1)
      obtain ⟨c0, c1, c2, f0, f1, f2, hl⟩ := hX1
      clear hpl ht ho1 hlen hfx hsh
      go_wp2_with fail
      go_region
      go_wp2_with fail
      refine (wrong_any _ x s p' 0 10 (unhide HX1).1.drew).mono ?_
      rintro e w2 ⟨rfl, hw2⟩
      have hX2 : XR w2 x s p' 10 := by rw [hw2]; exact (unhide HX1).1.drew.set2 10
      have hP2 : XPost w w2 x s [] 10 := by
        rw [hw2]
        exact xp_wrong (unhide HX1).1.drew ((unhide HX1).2.trans (Only.drew (fun _ => False) _) (fun _ _ h => h.elim)) (by decide) (Only.refl _ _)
      have HP2 := hide hP2
      clear hw2 hP2 c0 c1 c2 f0 f1 f2 hl
      obtain ⟨c0, c1, c2, f0, f1, f2, hl⟩ := hX2
      go_wp2_with fail
      go_ret
      exact ⟨rfl, unhide HP2⟩
    · rw [rdT_ok hx hsh]
      generalize rdN z (s.data.toList.drop p) = N at *
      obtain ⟨n, t, y⟩ := N
      simp only at hx hsh hfx hcall ⊢
      subst hx
      obtain ⟨m, rfl⟩ := Int.eq_ofNat_of_zero_le hfx.1
      have HC := hide hcall
      clear hcall
      go_enter Try.func43, Try.ntmps43
      go_wp2_with fail
      refine (unhide HC).mono ?_
      rintro e w1 ⟨rfl, p', hX1, hpl, ho1⟩
      obtain ⟨hp1, ht⟩ := hpl rfl
      have hlen : s.size - p' = t.length := by rw [← ht]; simp
      have hgt : ¬ (s.size : Int) - (p' : Int) < (m : Int) := by omega
      obtain ⟨k, hk⟩ : ∃ k : Nat, p' + m = k := ⟨_, rfl⟩
      have hpk : (p' : Int) + (m : Int) = (k : Int) := by omega
      have hk1 : k ≤ s.size := by omega
      have hk2 : p' ≤ k := by omega
      have HX1 := hide (And.intro hX1 (And.intro ho1 (And.intro ht hk)))
      obtain ⟨c0, c1, c2, f0, f1, f2, hl⟩ := hX1
      clear hpl ht ho1 hlen hfx hsh hk
      go_wp2_with fail
      go_region
      go_wp2_with fail
      go_region
      go_wp2_with fail
      go_ret
      obtain ⟨hX1, ho1, ht, hk⟩ := unhide HX1
      have e1 : s.extract p' k = ⟨(t.take m).toArray⟩ := ba_eq _ _ (by rw [Lib.extract_data, ht, ← hk]; congr 1; omega)
      rw [Int.toNat_natCast]
      refine ⟨ret_str e1, (xp_last hX1 ho1 rfl (drews _) hk1 ?_).1⟩
      rw [← ht, List.drop_drop, hk]
  · have hne : ((rdN z (s.data.toList.drop p)).2.2 != 0) = true := by simpa using hx
    have hne2 : ((rdN z (s.data.toList.drop p)).2.2 == 0) = false := by simpa using hx
    rw [rdT_err hx]
    have hnil := rdN_errs z (s.data.toList.drop p) hx
    generalize rdN z (s.data.toList.drop p) = N at *
    obtain ⟨n, t, y⟩ := N
    simp only at hx hfx hcall hne hne2 hnil ⊢
    subst hnil
    have HC := hide hcall
    clear hcall
    have HY := hide hx
    clear hx
    go_enter Try.func43, Try.ntmps43
    go_wp2_with fail
    refine (unhide HC).mono ?_
    rintro e w1 ⟨rfl, p', hX1, hpl, ho1⟩
    have HX1 := hide (And.intro hX1 ho1)
    obtain ⟨c0, c1, c2, f0, f1, f2, hl⟩ := hX1
    clear hpl ho1
    go_wp2_with fail
    go_region
    go_wp2_with fail
    go_ret
    exact ⟨rfl, p', (unhide HX1).1.drew, fun e => absurd e (unhide HY), (unhide HX1).2.trans (Only.drew (fun _ => False) _) (fun _ _ h => h.elim)⟩
theorem cat_eqU (a : List UInt8) (s : ByteArray) : (⟨a.toArray⟩ : ByteArray) ++ s = ⟨(a ++ s.data.toList).toArray⟩ := by
  obtain ⟨⟨l⟩⟩ := s
  apply ByteArray.ext
  simp
set_option maxRecDepth 100000 in
theorem refText_any (w : World) (s : ByteArray) (hs : s.size + 30 ≤ 158329674399744) :
    Calls Try.prog 65 #[.string s] w fun e w' => e = .returned (.string ⟨(sev s.size ++ s.data.toList).toArray⟩) ∧ Only (fun _ => False) w w' := by
  go_enter Try.func65, Try.ntmps65
  go_wp2_with fail
  refine (refNum_one w (s.size : Int) (by omega)).mono ?_
  rintro e w1 ⟨rfl, ho1⟩
  rw [Int.toNat_natCast]
  have hsl : (sev s.size).length ≤ 10 := sevF_len 9 s.size
  go_wp2_with fail
  go_ret
  exact ⟨ret_str (cat_eqU _ _), ho1⟩
end Go.Proofs.Ythhlmhghiknnkaa
