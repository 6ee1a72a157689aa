/- How many bytes a page has with an item in a slot. -/
import Derived.Test.YtpbpamhlenogoaaHSize
namespace Go.Proofs.Ytpbpamhlenogoaa
open Go.RowKit

set_option maxRecDepth 100000 in
set_option maxHeartbeats 1600000 in
theorem sizeWith_a (w : World) (a k v r : Int) (h : ByteArray) (B cp o : Nat) (l : List ByteArray) (i m : Nat) (s : ByteArray) (hS : Strs w B (some ⟨B, o, none⟩) l) (hF : Fit (some ⟨B, o, none⟩) l.length cp) (hi : i ≤ l.length) (hm : m = min (i + 1) l.length) (hc : ¬ cp = m) (hh : h.size ≤ 140737488355328) (hs : s.size ≤ 140737488355328) :
    Calls Try.prog 16 #[.agg #[.int .i64 a, .int .i64 k, .int .i64 v, .int .i64 r, .string h, .slice (some ⟨B, o, none⟩) l.length cp], .int .i64 (i : Int), .string s] w fun e w' => e = .returned (.tuple #[.int .i64 (szV h (putL l i s)), .int .i64 (szE h (putL l i s))]) ∧ Only (fun _ => False) w w' := by
  have hcp := hF.le
  have hbig := hF.big
  unfold maxLen at hbig
  have HP := hide (Pag.new w (.int .i64 a) (.int .i64 k) (.int .i64 v) (.int .i64 r) (.string h) (.slice (some ⟨B, o, none⟩) l.length cp))
  have HO0 := hide (onlyA w (.cells #[.int .i64 a, .int .i64 k, .int .i64 v, .int .i64 r, .string h, .slice (some ⟨B, o, none⟩) l.length cp] 24))
  have hsz : (w.alloc (.cells #[.int .i64 a, .int .i64 k, .int .i64 v, .int .i64 r, .string h, .slice (some ⟨B, o, none⟩) l.length cp] 24)).heap.size = w.heap.size + 1 := by simp
  have HCAT : Hid (∀ W, W = ((w.alloc (.cells #[.int .i64 a, .int .i64 k, .int .i64 v, .int .i64 r, .string h, .slice (some ⟨B, o, none⟩) l.length cp] 24)).alloc (.cells #[.string s] 9)).alloc (.cells #[.slice (some ⟨B, o, none⟩) i cp, .slice (some ⟨w.heap.size + 1, 0, none⟩) 1 1, .slice (some ⟨B, o + m, none⟩) (l.length - m) (cp - m)] 22) →
      Calls Try.prog 32 #[.slice (some ⟨w.heap.size + 1 + 1, 0, none⟩) 3 3] W fun e w' => ∃ vx, e = .returned vx ∧ Ls w' W.heap.size vx (putL l i s) ∧ Only (fun _ => False) (w.alloc (.cells #[.int .i64 a, .int .i64 k, .int .i64 v, .int .i64 r, .string h, .slice (some ⟨B, o, none⟩) l.length cp] 24)) w') := fun W hW => by
    have key := with_cat (w.alloc (.cells #[.int .i64 a, .int .i64 k, .int .i64 v, .int .i64 r, .string h, .slice (some ⟨B, o, none⟩) l.length cp] 24)) B cp (some ⟨B, o, none⟩) (some ⟨B, o + m, none⟩) l i m s (hS.more HO0.out) hF hs hi hm (fun b o2 e hk => by cases e; rfl) (fun e => by cases e) W
    rw [hsz] at key
    exact key hW
  have HSS : Hid (∀ x ∈ putL l i s, x.size ≤ 140737488355328) := fun x hx => by
    rcases putL_mem hx with rfl | hx
    · exact hs
    · exact hS.size x hx
  obtain ⟨L, hL⟩ : ∃ L, putL l i s = L := ⟨_, rfl⟩
  rw [hL] at HCAT HSS ⊢
  have hlen := hS.len
  obtain ⟨n1, hn1⟩ : ∃ n1 : Nat, i + 1 = n1 := ⟨_, rfl⟩
  have hi0 : (0 : Int) ≤ (i : Int) := by omega
  have hi1 : (i : Int) ≤ (l.length : Int) := by omega
  have hi2 : (0 : Int) ≤ (m : Int) := by omega
  have hi3 : (m : Int) ≤ (l.length : Int) := by omega
  have hi4 : (m : Int) ≤ (cp : Int) := by omega
  have hi5 : (i : Int) + 1 = (n1 : Int) := by omega
  have hi8 : IntKind.i64.wrap (n1 : Int) = (n1 : Int) := wraps_i64 _ (by omega) (by omega)
  have hi9 : min (n1 : Int) (l.length : Int) = (m : Int) := by omega
  have hi6 : (i : Int) ≤ (cp : Int) := by omega
  have hi7 : (l.length : Int) ≤ (cp : Int) := by omega
  clear hm hn1
  have HH := hide hh
  clear hS hF hL hsz hh
  go_enter Try.func16, Try.ntmps16
  go_wp2_with fail
  refine (HCAT.out _ rfl).mono ?_
  rintro e w1 ⟨v1, rfl, hl1, ho1⟩
  obtain ⟨ao5, cp5, hWL⟩ := WithL.of h HH.out hl1 HSS.out
  obtain rfl := hWL.val
  have HWL := hide hWL
  obtain ⟨p0, p1, p2, p3, p4, p5, _⟩ := HP.out.more ho1
  have HO1 := hide (o2 HO0.out ho1)
  have HPN := hide (Pag.new w1 (.int .i64 0) (.int .i64 2) (.int .i64 0) (.int .i64 0) (.string h) (.slice ao5 L.length cp5))
  have HON := hide (onlyA w1 (.cells #[.int .i64 0, .int .i64 2, .int .i64 0, .int .i64 0, .string h, .slice ao5 L.length cp5] 24))
  clear hl1 ho1 hWL
  obtain ⟨n5, hn5⟩ : ∃ n5, L.length = n5 := ⟨_, rfl⟩
  rw [hn5] at HPN HON ⊢
  have HN5 := hide hn5
  clear hn5
  go_wp2_with fail
  rw [← HN5.out] at HPN HON ⊢
  refine (HWL.out.enc _ HON.out).mono ?_
  rw [HN5.out] at HPN HON ⊢
  rintro e w2 ⟨⟨x, rfl⟩, ho2⟩
  obtain ⟨q0, q1, q2, q3, q4, q5, _⟩ := HPN.out.more ho2
  have HO2 := hide (o2 HON.out ho2)
  clear ho2 p0 p1 p2 p3 p4 p5
  cases hf : fitL h L
  · have HF2 := hide hf
    clear hf
    go_wp2_with fail
    go_ret2
    refine ⟨?_, o2 HO1.out HO2.out⟩
    unfold szV szE
    rw [HF2.out]
    rfl
  · have HF2 := hide hf
    clear hf
    go_wp2_with fail
    rw [← HN5.out]
    refine (HWL.out.size HF2.out _ HO2.out).mono ?_
    rw [HN5.out]
    rintro e w3 ⟨rfl, ho3⟩
    have HO3 := hide (o2 (o2 HO1.out HO2.out) ho3)
    clear ho3
    go_wp2_with fail
    go_ret2
    refine ⟨?_, HO3.out⟩
    unfold szV szE
    rw [HF2.out]
    rfl
set_option maxRecDepth 100000 in
set_option maxHeartbeats 1600000 in
theorem sizeWith_b (w : World) (a k v r : Int) (h : ByteArray) (B cp : Nat) (p : Addr) (s : ByteArray) (hS : Strs w B (some p) []) (hF : Fit (some p) 0 cp) (hc : ¬ cp = 0) (hh : h.size ≤ 140737488355328) (hs : s.size ≤ 140737488355328) :
    Calls Try.prog 16 #[.agg #[.int .i64 a, .int .i64 k, .int .i64 v, .int .i64 r, .string h, .slice (some p) 0 cp], .int .i64 0, .string s] w fun e w' => e = .returned (.tuple #[.int .i64 (szV h (putL [] 0 s)), .int .i64 (szE h (putL [] 0 s))]) ∧ Only (fun _ => False) w w' := by
  have hcp := hF.le
  have hbig := hF.big
  unfold maxLen at hbig
  have HP := hide (Pag.new w (.int .i64 a) (.int .i64 k) (.int .i64 v) (.int .i64 r) (.string h) (.slice (some p) 0 cp))
  have HO0 := hide (onlyA w (.cells #[.int .i64 a, .int .i64 k, .int .i64 v, .int .i64 r, .string h, .slice (some p) 0 cp] 24))
  have hsz : (w.alloc (.cells #[.int .i64 a, .int .i64 k, .int .i64 v, .int .i64 r, .string h, .slice (some p) 0 cp] 24)).heap.size = w.heap.size + 1 := by simp
  have HCAT : Hid (∀ W, W = ((w.alloc (.cells #[.int .i64 a, .int .i64 k, .int .i64 v, .int .i64 r, .string h, .slice (some p) 0 cp] 24)).alloc (.cells #[.string s] 9)).alloc (.cells #[.slice (some p) 0 cp, .slice (some ⟨w.heap.size + 1, 0, none⟩) 1 1, .slice (some p) 0 cp] 22) →
      Calls Try.prog 32 #[.slice (some ⟨w.heap.size + 1 + 1, 0, none⟩) 3 3] W fun e w' => ∃ vx, e = .returned vx ∧ Ls w' W.heap.size vx (putL [] 0 s) ∧ Only (fun _ => False) (w.alloc (.cells #[.int .i64 a, .int .i64 k, .int .i64 v, .int .i64 r, .string h, .slice (some p) 0 cp] 24)) w') := fun W hW => by
    have key := with_cat (w.alloc (.cells #[.int .i64 a, .int .i64 k, .int .i64 v, .int .i64 r, .string h, .slice (some p) 0 cp] 24)) B cp (some p) (some p) [] 0 0 s (hS.more HO0.out) hF hs (Nat.le_refl _) rfl (fun b o2 e hk => absurd hk (by simp)) (fun e => e) W
    rw [hsz] at key
    exact key hW
  have HSS : Hid (∀ x ∈ putL [] 0 s, x.size ≤ 140737488355328) := fun x hx => by
    rcases putL_mem hx with rfl | hx
    · exact hs
    · exact hS.size x hx
  obtain ⟨L, hL⟩ : ∃ L, putL [] 0 s = L := ⟨_, rfl⟩
  rw [hL] at HCAT HSS ⊢
  have hi9 : min (1 : Int) 0 = 0 := by decide
  have hp0 : p.add 0 = p := by unfold Addr.add; simp
  have HH := hide hh
  clear hS hF hL hsz hh
  go_enter Try.func16, Try.ntmps16
  go_wp2_with fail
  refine (HCAT.out _ rfl).mono ?_
  rintro e w1 ⟨v1, rfl, hl1, ho1⟩
  obtain ⟨ao5, cp5, hWL⟩ := WithL.of h HH.out hl1 HSS.out
  obtain rfl := hWL.val
  have HWL := hide hWL
  obtain ⟨p0, p1, p2, p3, p4, p5, _⟩ := HP.out.more ho1
  have HO1 := hide (o2 HO0.out ho1)
  have HPN := hide (Pag.new w1 (.int .i64 0) (.int .i64 2) (.int .i64 0) (.int .i64 0) (.string h) (.slice ao5 L.length cp5))
  have HON := hide (onlyA w1 (.cells #[.int .i64 0, .int .i64 2, .int .i64 0, .int .i64 0, .string h, .slice ao5 L.length cp5] 24))
  clear hl1 ho1 hWL
  obtain ⟨n5, hn5⟩ : ∃ n5, L.length = n5 := ⟨_, rfl⟩
  rw [hn5] at HPN HON ⊢
  have HN5 := hide hn5
  clear hn5
  go_wp2_with fail
  rw [← HN5.out] at HPN HON ⊢
  refine (HWL.out.enc _ HON.out).mono ?_
  rw [HN5.out] at HPN HON ⊢
  rintro e w2 ⟨⟨x, rfl⟩, ho2⟩
  obtain ⟨q0, q1, q2, q3, q4, q5, _⟩ := HPN.out.more ho2
  have HO2 := hide (o2 HON.out ho2)
  clear ho2 p0 p1 p2 p3 p4 p5
  cases hf : fitL h L
  · have HF2 := hide hf
    clear hf
    go_wp2_with fail
    go_ret2
    refine ⟨?_, o2 HO1.out HO2.out⟩
    unfold szV szE
    rw [HF2.out]
    rfl
  · have HF2 := hide hf
    clear hf
    go_wp2_with fail
    rw [← HN5.out]
    refine (HWL.out.size HF2.out _ HO2.out).mono ?_
    rw [HN5.out]
    rintro e w3 ⟨rfl, ho3⟩
    have HO3 := hide (o2 (o2 HO1.out HO2.out) ho3)
    clear ho3
    go_wp2_with fail
    go_ret2
    refine ⟨?_, HO3.out⟩
    unfold szV szE
    rw [HF2.out]
    rfl
set_option maxRecDepth 100000 in
set_option maxHeartbeats 1600000 in
theorem sizeWith_c (w : World) (a k v r : Int) (h : ByteArray) (B cp : Nat) (ao : Option Addr) (l : List ByteArray) (i : Nat) (s : ByteArray) (hS : Strs w B ao l) (hF : Fit ao l.length cp) (hi : i ≤ l.length) (hc : cp = l.length) (hm : cp = min (i + 1) l.length) (hh : h.size ≤ 140737488355328) (hs : s.size ≤ 140737488355328) :
    Calls Try.prog 16 #[.agg #[.int .i64 a, .int .i64 k, .int .i64 v, .int .i64 r, .string h, .slice ao l.length cp], .int .i64 (i : Int), .string s] w fun e w' => e = .returned (.tuple #[.int .i64 (szV h (putL l i s)), .int .i64 (szE h (putL l i s))]) ∧ Only (fun _ => False) w w' := by
  have hcp := hF.le
  have hbig := hF.big
  unfold maxLen at hbig
  have HP := hide (Pag.new w (.int .i64 a) (.int .i64 k) (.int .i64 v) (.int .i64 r) (.string h) (.slice ao l.length cp))
  have HO0 := hide (onlyA w (.cells #[.int .i64 a, .int .i64 k, .int .i64 v, .int .i64 r, .string h, .slice ao l.length cp] 24))
  have hsz : (w.alloc (.cells #[.int .i64 a, .int .i64 k, .int .i64 v, .int .i64 r, .string h, .slice ao l.length cp] 24)).heap.size = w.heap.size + 1 := by simp
  have HCAT : Hid (∀ W, W = ((w.alloc (.cells #[.int .i64 a, .int .i64 k, .int .i64 v, .int .i64 r, .string h, .slice ao l.length cp] 24)).alloc (.cells #[.string s] 9)).alloc (.cells #[.slice ao i cp, .slice (some ⟨w.heap.size + 1, 0, none⟩) 1 1, .slice ao 0 0] 22) →
      Calls Try.prog 32 #[.slice (some ⟨w.heap.size + 1 + 1, 0, none⟩) 3 3] W fun e w' => ∃ vx, e = .returned vx ∧ Ls w' W.heap.size vx (putL l i s) ∧ Only (fun _ => False) (w.alloc (.cells #[.int .i64 a, .int .i64 k, .int .i64 v, .int .i64 r, .string h, .slice ao l.length cp] 24)) w') := fun W hW => by
    have key := with_cat (w.alloc (.cells #[.int .i64 a, .int .i64 k, .int .i64 v, .int .i64 r, .string h, .slice ao l.length cp] 24)) B cp ao ao l i cp s (hS.more HO0.out) hF hs hi hm (fun b o2 e hk => absurd hk (by omega)) (fun e => e) W
    rw [hsz] at key
    exact key (by rw [Nat.sub_self, show l.length - cp = 0 from by omega]; exact hW)
  have HSS : Hid (∀ x ∈ putL l i s, x.size ≤ 140737488355328) := fun x hx => by
    rcases putL_mem hx with rfl | hx
    · exact hs
    · exact hS.size x hx
  obtain ⟨L, hL⟩ : ∃ L, putL l i s = L := ⟨_, rfl⟩
  rw [hL] at HCAT HSS ⊢
  have hlen := hS.len
  obtain ⟨n1, hn1⟩ : ∃ n1 : Nat, i + 1 = n1 := ⟨_, rfl⟩
  have hi0 : (0 : Int) ≤ (i : Int) := by omega
  have hi1 : (i : Int) ≤ (l.length : Int) := by omega
  have hi2 : (0 : Int) ≤ (cp : Int) := by omega
  have hi3 : (cp : Int) ≤ (l.length : Int) := by omega
  have hi4 : (cp : Int) ≤ (cp : Int) := by omega
  have hi5 : (i : Int) + 1 = (n1 : Int) := by omega
  have hi8 : IntKind.i64.wrap (n1 : Int) = (n1 : Int) := wraps_i64 _ (by omega) (by omega)
  have hi9 : min (n1 : Int) (l.length : Int) = (cp : Int) := by omega
  have hi6 : (i : Int) ≤ (cp : Int) := by omega
  have hi7 : (l.length : Int) ≤ (cp : Int) := by omega
  clear hm hn1 hc
  have HH := hide hh
  clear hS hF hL hsz hh
  go_enter Try.func16, Try.ntmps16
  go_wp2_with fail
  refine (HCAT.out _ rfl).mono ?_
  rintro e w1 ⟨v1, rfl, hl1, ho1⟩
  obtain ⟨ao5, cp5, hWL⟩ := WithL.of h HH.out hl1 HSS.out
  obtain rfl := hWL.val
  have HWL := hide hWL
  obtain ⟨p0, p1, p2, p3, p4, p5, _⟩ := HP.out.more ho1
  have HO1 := hide (o2 HO0.out ho1)
  have HPN := hide (Pag.new w1 (.int .i64 0) (.int .i64 2) (.int .i64 0) (.int .i64 0) (.string h) (.slice ao5 L.length cp5))
  have HON := hide (onlyA w1 (.cells #[.int .i64 0, .int .i64 2, .int .i64 0, .int .i64 0, .string h, .slice ao5 L.length cp5] 24))
  clear hl1 ho1 hWL
  obtain ⟨n5, hn5⟩ : ∃ n5, L.length = n5 := ⟨_, rfl⟩
  rw [hn5] at HPN HON ⊢
  have HN5 := hide hn5
  clear hn5
  go_wp2_with fail
  rw [← HN5.out] at HPN HON ⊢
  refine (HWL.out.enc _ HON.out).mono ?_
  rw [HN5.out] at HPN HON ⊢
  rintro e w2 ⟨⟨x, rfl⟩, ho2⟩
  obtain ⟨q0, q1, q2, q3, q4, q5, _⟩ := HPN.out.more ho2
  have HO2 := hide (o2 HON.out ho2)
  clear ho2 p0 p1 p2 p3 p4 p5
  cases hf : fitL h L
  · have HF2 := hide hf
    clear hf
    go_wp2_with fail
    go_ret2
    refine ⟨?_, o2 HO1.out HO2.out⟩
    unfold szV szE
    rw [HF2.out]
    rfl
  · have HF2 := hide hf
    clear hf
    go_wp2_with fail
    rw [← HN5.out]
    refine (HWL.out.size HF2.out _ HO2.out).mono ?_
    rw [HN5.out]
    rintro e w3 ⟨rfl, ho3⟩
    have HO3 := hide (o2 (o2 HO1.out HO2.out) ho3)
    clear ho3
    go_wp2_with fail
    go_ret2
    refine ⟨?_, HO3.out⟩
    unfold szV szE
    rw [HF2.out]
    rfl
theorem sizeWith_any (w : World) (a k v r : Int) (h : ByteArray) (B cp : Nat) (ao : Option Addr) (l : List ByteArray) (i : Nat) (s : ByteArray) (hS : Strs w B ao l) (hF : Fit ao l.length cp) (hh : h.size ≤ 140737488355328) (hs : s.size ≤ 140737488355328) (hi : i ≤ l.length) :
    Calls Try.prog 16 #[pv a k v r h ao l.length cp, .int .i64 (i : Int), .string s] w fun e w' => e = .returned (.tuple #[.int .i64 (szV h (putL l i s)), .int .i64 (szE h (putL l i s))]) ∧ Only (fun _ => False) w w' := by
  by_cases hc : cp = min (i + 1) l.length
  · have hcp := hF.le
    exact sizeWith_c w a k v r h B cp ao l i s hS hF hi (by omega) hc hh hs
  · by_cases h0 : 0 < l.length
    · obtain ⟨o, rfl, _⟩ := hS.at_ h0
      exact sizeWith_a w a k v r h B cp o l i _ s hS hF hi rfl hc hh hs
    · have e : l = [] := List.eq_nil_of_length_eq_zero (by omega)
      subst e
      have e : i = 0 := by simpa using hi
      subst e
      cases ao with
      | none => exact absurd (hF.nil rfl) (by simpa using hc)
      | some p => exact sizeWith_b w a k v r h B cp p s hS hF (by simpa using hc) hh hs
end Go.Proofs.Ytpbpamhlenogoaa
