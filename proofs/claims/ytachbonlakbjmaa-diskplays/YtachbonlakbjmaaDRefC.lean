/- The document's disk: Sync in all cases, Write. -/
import Derived.Test.YtachbonlakbjmaaDRefB
namespace Go.Proofs.Ytachbonlakbjmaa
open Go.RowKit

theorem xsync_any (w : World) (x a b c ka kb kc : Nat) (D : Dk) (h : Xd w x a b c ka kb kc D) :
    Calls Try.prog 19 #[.pointer (some ⟨x, 0, none⟩)] w fun e w' => e = .returned (.int .i64 D.sync.2) ∧ Xd w' x a b c ka kb kc D.sync.1 ∧ Only (xown x a b c) w w' := by
  unfold Dk.sync
  cases hd : D.dead
  · by_cases h1 : D.armed = 1
    · simp only [h1, if_true]
      have hxa := xact_any w x a b c ka kb kc D h hd
      simp only [h1, decide_true] at hxa
      have h4 := h.c4
      rw [hd] at h4
      clear hd h1 h
      go_enter Try.func19, Try.ntmps19
      go_wp2_with fail
      refine hxa.mono ?_
      rintro e w1 ⟨rfl, hX1, hO1⟩
      go_wp2_with fail
      go_ret
      exact ⟨rfl, hX1, hO1⟩
    · simp only [h1, if_false]
      exact xsync_ok w x a b c ka kb kc D h hd h1
  · have h4 := h.c4
    rw [hd] at h4
    have H := hide h
    clear hd h
    go_enter Try.func19, Try.ntmps19
    go_wp2_with fail
    go_ret
    exact ⟨rfl, H.out, Only.refl _ _⟩
theorem Xd.put {w' : World} {x a b c ka kb kc n : Nat} {D : Dk} (h : D.Ok) (hn : D.old.length = n) {k : Nat} (hk : k < n) {l : List UInt8} (hl : l.length = 64)
    (hr : Xr w' x a b c ka kb kc n D.armed D.acts D.dead (fun j => txt (D.old.getD j [])) (fun j => if j = k then txt l else txt (D.cur j)) (fun j => if j = k then .bool true else .bool (D.fresh j).isSome)) : Xd w' x a b c ka kb kc (D.put k l) := by
  refine hr.full (h.put (by omega) hl) hn rfl rfl rfl (fun _ _ => rfl) (fun j _ => ?_) (fun j _ => ?_)
  · by_cases e : j = k
    · simp [Dk.cur, Dk.put, e]
    · simp [Dk.cur, Dk.put, e]
  · by_cases e : j = k
    · simp [Dk.put, e]
    · simp [Dk.put, e]
set_option maxRecDepth 100000 in
set_option maxHeartbeats 1600000 in
theorem xwrite_ok (w : World) (x a b c ka kb kc : Nat) (D : Dk) (h : Xd w x a b c ka kb kc D) (hd : D.dead = false) (p n : Nat) (s : ByteArray) (hs : s.size = n * 64) (hn : p + n ≤ D.old.length) :
    Calls Try.prog 18 #[.pointer (some ⟨x, 0, none⟩), .int .i64 (p : Int), .string s] w fun e w' =>
      e = .returned (.int .i64 (D.writes p (chunks n s.data.toList)).2) ∧ Xd w' x a b c ka kb kc (D.writes p (chunks n s.data.toList)).1 ∧ Only (xown x a b c) w w' := by
  have h4 := h.c4
  rw [hd] at h4
  have h64 := h.ok.hi
  have hh := within_any w x a b c ka kb kc D h p n (by omega)
  have e : hasB D.old.length p n = true := by unfold hasB; simp; omega
  rw [e] at hh
  have H := hide h
  have HD := hide hd
  have hq : (s.size : Int) / 64 = (n : Int) := by omega
  have hr : (s.size : Int) % 64 = 0 := by omega
  obtain ⟨R, hR⟩ : ∃ R, D.writes p (chunks n s.data.toList) = R := ⟨_, rfl⟩
  rw [hR]
  have HR := hide hR
  clear h hd e hR
  go_enter Try.func18, Try.ntmps18
  go_wp2_with (first
    | (go_at_call 36; refine hh.mono ?_; rintro e w' ⟨rfl, hw⟩; obtain rfl := hw.symm))
  clear hh
  go_loopw [7] (fun y wr => ∃ (j : Nat) (E : Dk), j ≤ n ∧ y = .int .i64 (j : Int) ∧ E.old.length = D.old.length ∧ Hid (Xd wr x a b c ka kb kc E ∧ E.dead = false) ∧ Hid (E.writes (p + j) ((chunks n s.data.toList).drop j) = R) ∧ Hid (Only (xown x a b c) w wr)) (fun y _ => n - (intOf y).toNat)
  case atStart => exact ⟨0, D, by omega, rfl, rfl, hide ⟨H.out, HD.out⟩, HR, hide (Only.refl _ _)⟩
  case round =>
    obtain ⟨j, E, hj, rfl, hl, HE, HW, HO⟩ := hrel
    by_cases hlt : j < n
    · obtain ⟨k, hk⟩ : ∃ k, p + j = k := ⟨_, rfl⟩
      have hkn : k < E.old.length := by omega
      obtain ⟨ch, hch⟩ : ∃ ch, (s.data.toList.drop (64 * j)).take 64 = ch := ⟨_, rfl⟩
      have hcl : ch.length = 64 := by
        rw [← hch]
        simp
        have : s.data.size = n * 64 := hs
        omega
      obtain ⟨sv, hsv⟩ : ∃ sv, s.extract (64 * j) (64 * j + 64) = sv := ⟨_, rfl⟩
      have htx : txt ch = .string sv := by
        unfold txt
        congr 1
        rw [← hsv, ← hch]
        apply ByteArray.ext
        rw [ByteArray.data_extract]
        apply Array.ext'
        rw [Array.toList_extract, List.extract_eq_take_drop, show 64 * j + 64 - 64 * j = 64 by omega]
      have hX := HE.out.1.raw
      obtain ⟨N, hN⟩ : ∃ N, E.old.length = N := ⟨_, rfl⟩
      rw [hN] at hX hkn
      have hc1 := hX.c1
      have hcb := hX.rb.cell hkn
      have hfb := hX.rb.frozen k
      obtain ⟨hX2, hO2⟩ := hX.setB hkn (.string sv) (fb' := fun j => if j = k then txt ch else txt (E.cur j)) (by simp [htx]) (fun j hj => by simp [hj])
      obtain ⟨hX3, hO3⟩ := hX2.setC hkn (.bool true) (fc' := fun j => if j = k then .bool true else .bool (E.fresh j).isSome) (by simp) (fun j hj => by simp [hj])
      have hc22 := hX2.c2
      have hcc2 := hX2.rc.cell hkn
      have hfc2 := hX2.rc.frozen k
      have hX4 := Xd.put HE.out.1.ok hN hkn hcl (hX3.kept (Only.drew (fun _ => False) _) id id id id)
      have hdi := xact_any _ x a b c ka kb kc _ hX4 HE.out.2
      have HO4 := hide (((HO.out.trans hO2 (fun _ _ h => h)).trans hO3 (fun _ _ h => h)).trans (Only.drew (fun _ => False) _) (fun _ _ h => h.elim))
      have hws := writes_step E k ch ((chunks n s.data.toList).drop (j + 1))
      have hwr : E.writes k (ch :: (chunks n s.data.toList).drop (j + 1)) = R := by
        rw [← HW.out, chunks_drop n _ j hlt, hch, hk]
      rw [hwr] at hws
      have HWS := hide hws
      have ea : (E.put k ch).armed = E.armed := rfl
      rw [ea] at hdi
      have hkI : (p : Int) + (j : Int) = (k : Int) := by omega
      have hk0 : (0 : Int) ≤ (k : Int) := by omega
      have hk1 : (k : Int) < (N : Int) := by omega
      have HK := hide hk
      have HNN := hide hN
      clear hX hX2 hX3 hO2 hO3 hX4 hws hwr htx hch hk hN
      by_cases h1 : E.armed = 1
      · have hw2 : R = ((E.put k ch).act, 5) := by have := HWS.out; rwa [if_pos h1] at this
        simp only [h1, decide_true] at hdi
        have HW2 := hide hw2
        clear h1 hw2
        go_wp2_with fail
        go_region
        go_wp2_with (first | (go_at_call 37; refine hdi.mono ?_; rintro e w3 ⟨rfl, hE4, hO4⟩))
        go_ret
        rw [HW2.out]
        exact ⟨rfl, hE4, HO4.out.trans hO4 (fun _ _ h => h)⟩
      · have hw2 : Dk.writes (E.put k ch).act (k + 1) ((chunks n s.data.toList).drop (j + 1)) = R := by have := HWS.out; rw [if_neg h1] at this; exact this.symm
        have hdd : ((E.put k ch).act).dead = false := by
          have e1 : (E.put k ch).dead = E.dead := rfl
          simp only [Dk.act, ea, h1, e1, HE.out.2]
          simp
        simp only [h1, decide_false] at hdi
        have HW2 := hide hw2
        have HDD := hide hdd
        clear h1 hw2 hdd
        go_wp2_with fail
        go_region
        go_wp2_with (first | (go_at_call 37; refine hdi.mono ?_; rintro e w3 ⟨rfl, hE4, hO4⟩))
        go_roundw
        case rel => exact ⟨j + 1, (E.put k ch).act, by omega, by go_num, hl, hide ⟨hE4, HDD.out⟩, by rw [← Nat.add_assoc, HK.out]; exact HW2, hide (HO4.out.trans hO4 (fun _ _ h => h))⟩
        case measure => simp [intOf]; omega
    · have ej : j = n := by omega
      have e : R = (E, 0) := by
        rw [← HW.out, List.drop_of_length_le (by rw [chunks_len]; omega)]
        rfl
      have HEE := hide e
      clear e ej
      go_wp2
      go_ret
      rw [HEE.out]
      exact ⟨rfl, HE.out.1, HO.out⟩
theorem xwrite_bad (w : World) (x a b c ka kb kc : Nat) (D : Dk) (h : Xd w x a b c ka kb kc D) (hd : D.dead = false) (p : Int) (s : ByteArray) (hp : -9223372036854775808 ≤ p ∧ p < 9223372036854775808) (hs : s.size < 9223372036854775808) (hb : s.size % 64 ≠ 0 ∨ hasB D.old.length p ((s.size / 64 : Nat) : Int) = false) :
    Calls Try.prog 18 #[.pointer (some ⟨x, 0, none⟩), .int .i64 p, .string s] w fun e w' => e = .returned (.int .i64 20) ∧ w' = w := by
  have h4 := h.c4
  rw [hd] at h4
  have hh := within_any w x a b c ka kb kc D h p ((s.size / 64 : Nat) : Int) hp
  by_cases h1 : s.size % 64 = 0
  · have e : hasB D.old.length p ((s.size / 64 : Nat) : Int) = false := by rcases hb with h | h; exact absurd h1 h; exact h
    rw [e] at hh
    have h1' : (s.size : Int) % 64 = 0 := by omega
    clear hd h hb e hp
    go_enter Try.func18, Try.ntmps18
    go_wp2_with (first | (go_at_call 36; refine hh.mono ?_; rintro e w' ⟨rfl, rfl⟩))
    go_ret
    exact ⟨rfl, rfl⟩
  · have h1' : ¬ (s.size : Int) % 64 = 0 := by omega
    clear hd h hb hp h1
    go_enter Try.func18, Try.ntmps18
    go_wp2_with fail
    go_ret
    exact ⟨rfl, rfl⟩
theorem xwrite_dead (w : World) (x a b c ka kb kc : Nat) (D : Dk) (h : Xd w x a b c ka kb kc D) (hd : D.dead = true) (u v : Value) : Calls Try.prog 18 #[.pointer (some ⟨x, 0, none⟩), u, v] w fun e w' => e = .returned (.int .i64 5) ∧ w' = w := by
  have h4 := h.c4
  rw [hd] at h4
  clear hd h
  go_enter Try.func18, Try.ntmps18
  go_wp2_with fail
  go_ret
  exact ⟨rfl, rfl⟩
theorem xwrite_any (w : World) (x a b c ka kb kc : Nat) (D : Dk) (h : Xd w x a b c ka kb kc D) (p : Int) (s : ByteArray) (hp : -9223372036854775808 ≤ p ∧ p < 9223372036854775808) (hs : s.size < 9223372036854775808) :
    Calls Try.prog 18 #[.pointer (some ⟨x, 0, none⟩), .int .i64 p, .string s] w fun e w' =>
      e = .returned (.int .i64 (D.write p s.data.toList).2) ∧ Xd w' x a b c ka kb kc (D.write p s.data.toList).1 ∧ Only (xown x a b c) w w' := by
  have hl : s.data.toList.length = s.size := by simp
  cases hd : D.dead
  · by_cases hb : s.size % 64 = 0 ∧ hasB D.old.length p ((s.size / 64 : Nat) : Int) = true
    · have e : D.write p s.data.toList = D.writes p.toNat (chunks (s.size / 64) s.data.toList) := by unfold Dk.write; simp only [hl, hd, if_pos hb]; rfl
      rw [e]
      obtain ⟨h1, h2⟩ := hb
      unfold hasB at h2
      simp at h2
      obtain ⟨p', rfl⟩ := Int.eq_ofNat_of_zero_le h2.1
      exact xwrite_ok w x a b c ka kb kc D h hd p' (s.size / 64) s (by omega) (by omega)
    · have e : D.write p s.data.toList = (D, 20) := by unfold Dk.write; simp only [hl, hd, if_neg hb]; rfl
      rw [e]
      refine (xwrite_bad w x a b c ka kb kc D h hd p s hp hs ?_).mono ?_
      · by_cases h1 : s.size % 64 = 0
        · right; simpa using fun e => hb ⟨h1, e⟩
        · exact .inl h1
      · rintro e w' ⟨rfl, rfl⟩
        exact ⟨rfl, h, Only.refl _ _⟩
  · have e : D.write p s.data.toList = (D, 5) := by unfold Dk.write; simp [hd]
    rw [e]
    refine (xwrite_dead w x a b c ka kb kc D h hd _ _).mono ?_
    rintro e w' ⟨rfl, rfl⟩
    exact ⟨rfl, h, Only.refl _ _⟩
end Go.Proofs.Ytachbonlakbjmaa
