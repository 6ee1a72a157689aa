/- The document's disk: Read, Pending. -/
import Derived.Test.YtebijheonkagfaaGreatDoorKDa
namespace Go.Proofs.YtebijheonkagfaaGreatDoor
open Go.RowKit
theorem xread_bad (w : World) (x a b c ka kb kc : Nat) (D : Dk) (h : Xd w x a b c ka kb kc D) (p n : Int) (hp : -9223372036854775808 ≤ p ∧ p < 9223372036854775808) (hb : D.dead = true ∨ hasB D.old.length p n = false) :
    Calls Tryz.prog 29 #[.pointer (some ⟨x, 0, none⟩), .int .i64 p, .int .i64 n] w fun e w' => e = .returned (.tuple #[.string ⟨#[]⟩, .int .i64 (if D.dead then 5 else 20)]) ∧ w' = w := by
  have h4 := h.c4; have hh := within_any w x a b c ka kb kc D h p n hp
  cases hd : D.dead
  · rw [hd] at hb h4
    have e : hasB D.old.length p n = false := by rcases hb with h | h; cases h; exact h
    rw [e] at hh; clear hd hb h e hp
    go_enter Tryz.func29, Tryz.ntmps29
    go_wp2_with (first | (go_at_call 73; refine hh.mono ?_; rintro e w' ⟨rfl, rfl⟩))
    go_ret2
    exact ⟨rfl, rfl⟩
  · rw [hd] at h4
    clear hd hb h hp
    go_enter Tryz.func29, Tryz.ntmps29
    go_wp2_with fail
    go_ret2
    exact ⟨rfl, rfl⟩
set_option maxRecDepth 100000 in
set_option maxHeartbeats 800000 in
theorem xread_ok (w : World) (x a b c ka kb kc : Nat) (D : Dk) (h : Xd w x a b c ka kb kc D) (p n : Nat) (hd : D.dead = false) (hn : p + n ≤ D.old.length) :
    Calls Tryz.prog 29 #[.pointer (some ⟨x, 0, none⟩), .int .i64 (p : Int), .int .i64 (n : Int)] w fun e w' => e = .returned (.tuple #[.string ⟨(D.bytes p n).toArray⟩, .int .i64 0]) ∧ Only (fun _ => False) w w' := by
  have h4 := h.c4; have hh := within_any w x a b c ka kb kc D h p n (by have := h.ok.hi; omega)
  have e : hasB D.old.length p n = true := by unfold hasB; simp; omega
  rw [e] at hh; rw [hd] at h4; have h64 := h.ok.hi; have H := hide h; obtain ⟨i0, hi, hz0, hz1, hz2⟩ := info_parts Tryz.dinfoByte; clear h hd e
  go_enter Tryz.func29, Tryz.ntmps29
  go_wp2_with (first
    | (go_at_call 73; refine hh.mono ?_; rintro e w' ⟨rfl, hw⟩; obtain rfl := hw.symm))
  clear hh
  go_loopw [8, 9] (fun v y wr => ∃ (j : Nat) (row : Option Nat), j ≤ n ∧ y = .int .i64 ((p + j : Nat) : Int) ∧ Hid (Row wr w.heap.size v row (D.bytes p j)) ∧ Hid (Only (fun _ => False) w wr)) (fun _ y _ => p + n - (intOf y).toNat)
  case atStart => exact ⟨0, none, by omega, by go_num, hide ⟨World.ownsRow_nil _ _ _ _, rfl⟩, hide (Only.refl _ _)⟩
  case round =>
    obtain ⟨j, row, hj, rfl, HR, HO⟩ := hrel
    by_cases hlt : j < n
    · have hX := H.out.same HO.out
      have hc1 := hX.c1; have hcb := hX.rb.cell (k := p + j) (by omega); have hcl := H.out.ok.cur64 (k := p + j) (by omega); have hbl := bytes_len H.out.ok p j (by omega); obtain ⟨sv, hsv⟩ : ∃ sv : ByteArray, (⟨(D.cur (p + j)).toArray⟩ : ByteArray) = sv := ⟨_, rfl⟩
      have hse : txt (D.cur (p + j)) = .string sv := by unfold txt; rw [hsv]
      have hsd : sv.data.toList = D.cur (p + j) := by rw [← hsv]
      have hsz : sv.size = 64 := by
        have e : sv.data.toList.length = sv.size := by simp
        rw [← e, hsd]
        exact hcl
      simp only [hse] at hcb; have HSd := hide hsd; have hwr := HO.out.size; obtain ⟨k, hk⟩ : ∃ k, p + j = k := ⟨_, rfl⟩; rw [hk] at hcb
      have hkI : (p : Int) + (j : Int) = (k : Int) := by omega
      have hk0 : (0 : Int) ≤ (k : Int) := by omega
      have hk1 : (k : Int) < (D.old.length : Int) := by omega
      have HK := hide hk; clear hX hsv hse hsd hcl hk
      go_wp2_with (first
        | (at_builtin; go_must (refine wpList_text _ rfl (.tmp 27) (.tmp 34) 80 9 rfl w.heap.size i0 Tryz.underlying80 Tryz.underlying9 hi hz0 hz1 hz2 _ row (D.bytes p j) rfl HR.out sv rfl (by omega) (by omega) ?_); intro v2 w2 row2 hR2 hG2))
      have hx2 := HR.out.lt; have hO3 : Only (fun _ => False) w w2 := HO.out.trans hG2.only (fun i hi e => by have := (hx2 i e.symm).1; omega)
      go_roundw
      case rel => exact ⟨j + 1, row2, by omega, by go_num, by rw [bytes_snoc, ← HSd.out]; exact hide hR2, hide hO3⟩
      case measure => simp [intOf]; omega
    · have ej : j = n := by omega
      have hcv := dbytes_back wr _ _ row _ HR.out; have HEJ := hide ej; clear ej
      go_wp2
      go_ret2
      rw [HEJ.out]
      exact ⟨rfl, HO.out⟩
theorem xread_any (w : World) (x a b c ka kb kc : Nat) (D : Dk) (h : Xd w x a b c ka kb kc D) (p n : Int) (hp : -9223372036854775808 ≤ p ∧ p < 9223372036854775808) :
    Calls Tryz.prog 29 #[.pointer (some ⟨x, 0, none⟩), .int .i64 p, .int .i64 n] w fun e w' => e = .returned (.tuple #[.string ⟨(D.read p n).1.toArray⟩, .int .i64 (D.read p n).2]) ∧ Only (fun _ => False) w w' := by
  by_cases hb : D.dead = true ∨ hasB D.old.length p n = false
  · refine (xread_bad w x a b c ka kb kc D h p n hp hb).mono ?_
    rintro e w' ⟨rfl, rfl⟩; refine ⟨?_, Only.refl _ _⟩; unfold Dk.read
    rcases hb with hb | hb
    · simp [hb]
    · cases hd : D.dead <;> simp [hb]
  · have hd : D.dead = false := by simpa using fun e => hb (.inl e)
    have hh : hasB D.old.length p n = true := by simpa using fun e => hb (.inr e)
    have e : D.read p n = (D.bytes p.toNat n.toNat, 0) := by unfold Dk.read; simp [hd, hh]
    unfold hasB at hh
    simp at hh
    obtain ⟨p', rfl⟩ := Int.eq_ofNat_of_zero_le hh.1; obtain ⟨n', rfl⟩ := Int.eq_ofNat_of_zero_le hh.2.1; rw [e]
    exact xread_ok w x a b c ka kb kc D h p' n' hd (by omega)
end Go.Proofs.YtebijheonkagfaaGreatDoor
