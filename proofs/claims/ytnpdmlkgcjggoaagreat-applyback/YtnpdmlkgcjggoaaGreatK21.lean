/- readHead of package node, of any page. -/
import Derived.Test.YtnpdmlkgcjggoaaGreatK19
namespace Go.Proofs.YtnpdmlkgcjggoaaGreat
open Go.RowKit

/-- The High of a page whose head is a node's; the least, where there is none. -/
def hdO (k v r : Int) (h : ByteArray) : Option En := if k = 3 ∧ 0 ≤ v ∧ v ≤ 255 ∧ 0 ≤ r ∧ r ≤ 65535 then (if h = ⟨#[]⟩ then some noE else decE (bl h)) else none
theorem readHead_few (w : World) (a k v r : Int) (h : ByteArray) (ao : Option Addr) (n cp : Nat) (hb : ¬ (k = 3 ∧ 0 ≤ v ∧ v ≤ 255 ∧ 0 ≤ r ∧ r ≤ 65535)) :
    Calls Tryz.prog 126 #[pgv a k v r h ao n cp] w fun e w' => e = .returned (.tuple #[noE.agg, .bool false]) ∧ Only (fun _ => False) w w' := by
  by_cases hk : k = 3
  · subst hk
    have HX := hide (hd_new w (.int .i64 a) (.int .i64 3) (.int .i64 v) (.int .i64 r) (.string h) (.slice ao n cp))
    by_cases h1 : v < 0
    · clear hb
      unfold pgv
      go_enter Tryz.func126, Tryz.ntmps126
      go_upto_region 1 with fail
      obtain ⟨W0, hW0⟩ : ∃ x, (w.alloc (.cells #[.int .i64 a, .int .i64 3, .int .i64 v, .int .i64 r, .string h, .slice ao n cp] 24)).alloc (.cells #[.string ⟨#[]⟩, .int .i64 0, .int .i64 0] 104) = x := ⟨_, rfl⟩
      rw [hW0] at HX ⊢
      clear hW0
      obtain ⟨p0, p1, p2, p3, p4, p5, _⟩ := HX.out.1
      obtain ⟨q0, q1, q2, g0, g1, g2, ql⟩ := HX.out.2.1
      go_wp2_with fail
      refine bodyPost_ret (results_ev rfl rfl (HX.out.2.1.all noE)) rfl ?_
      exact ⟨rfl, HX.out.2.2.trans (Only.three _ _ _ _ _) (fun i hi e => by omega)⟩
    · by_cases h2 : (255 : Int) < v
      · clear hb
        unfold pgv
        go_enter Tryz.func126, Tryz.ntmps126
        go_upto_region 1 with fail
        obtain ⟨W0, hW0⟩ : ∃ x, (w.alloc (.cells #[.int .i64 a, .int .i64 3, .int .i64 v, .int .i64 r, .string h, .slice ao n cp] 24)).alloc (.cells #[.string ⟨#[]⟩, .int .i64 0, .int .i64 0] 104) = x := ⟨_, rfl⟩
        rw [hW0] at HX ⊢
        clear hW0
        obtain ⟨p0, p1, p2, p3, p4, p5, _⟩ := HX.out.1
        obtain ⟨q0, q1, q2, g0, g1, g2, ql⟩ := HX.out.2.1
        go_wp2_with fail
        refine bodyPost_ret (results_ev rfl rfl (HX.out.2.1.all noE)) rfl ?_
        exact ⟨rfl, HX.out.2.2.trans (Only.three _ _ _ _ _) (fun i hi e => by omega)⟩
      · have HN : Hid (∀ W, Calls Tryz.prog 125 #[.int .i64 r] W fun e w' => e = .returned (.bool false) ∧ w' = W) := fun W => by
          have := isNumber_any r W
          rwa [show nm r = false by unfold nm; simp; omega] at this
        clear hb
        unfold pgv
        go_enter Tryz.func126, Tryz.ntmps126
        go_upto_region 1 with fail
        obtain ⟨W0, hW0⟩ : ∃ x, (w.alloc (.cells #[.int .i64 a, .int .i64 3, .int .i64 v, .int .i64 r, .string h, .slice ao n cp] 24)).alloc (.cells #[.string ⟨#[]⟩, .int .i64 0, .int .i64 0] 104) = x := ⟨_, rfl⟩
        rw [hW0] at HX ⊢
        clear hW0
        obtain ⟨p0, p1, p2, p3, p4, p5, _⟩ := HX.out.1
        obtain ⟨q0, q1, q2, g0, g1, g2, ql⟩ := HX.out.2.1
        go_wp2_with fail
        refine (HN.out _).mono ?_
        rintro x w1 ⟨rfl, h1⟩
        obtain rfl := h1.symm
        go_wp2_with fail
        refine bodyPost_ret (results_ev rfl rfl (HX.out.2.1.all noE)) rfl ?_
        exact ⟨rfl, HX.out.2.2.trans (Only.three _ _ _ _ _) (fun i hi e => by omega)⟩
  · exact readHead_bad w a k v r h ao n cp hk
theorem readHead_none (w : World) (a v r : Int) (h : ByteArray) (ao : Option Addr) (n cp : Nat) (hv : 0 ≤ v ∧ v ≤ 255) (hr : 0 ≤ r ∧ r ≤ 65535) (hx : ¬ h = ⟨#[]⟩) (hd : decE (bl h) = none) :
    Calls Tryz.prog 126 #[pgv a 3 v r h ao n cp] w fun e w' => e = .returned (.tuple #[noE.agg, .bool false]) ∧ Only (fun _ => False) w w' := by
  have HX := hide (hd_new w (.int .i64 a) (.int .i64 3) (.int .i64 v) (.int .i64 r) (.string h) (.slice ao n cp))
  have HN : Hid (∀ W, Calls Tryz.prog 125 #[.int .i64 r] W fun e w' => e = .returned (.bool true) ∧ w' = W) := fun W => by
    have := isNumber_any r W
    rwa [show nm r = true by unfold nm; simp; omega] at this
  have t1 : ¬ v < 0 := by omega
  have t2 : ¬ (255 : Int) < v := by omega
  have HD : Hid (∀ W, Calls Tryz.prog 60 #[.string h] W fun e w' => e = .returned (.tuple #[.agg #[.string ⟨#[]⟩, .int .i64 0, .int .i64 0], .int .i64 140]) ∧ Only (fun _ => False) W w') := fun W => by
    have := decode_any h W
    rw [hd] at this
    exact this
  have hne := ba_neN (s := h) (t := ⟨#[]⟩) hx
  have hne' : ¬ h.toList = [] := by
    have h2 : ¬ h.toList = (⟨#[]⟩ : ByteArray).toList := by simpa using hne
    rw [ByteArray.toList_eq ⟨#[]⟩] at h2
    exact h2
  have hn1 : (h.toList == []) = false := by simpa using hne'
  have hn2 : h.toList.isEmpty = false := by
    cases e : h.toList with
    | nil => exact absurd e hne'
    | cons _ _ => rfl
  clear hx hd hne hv hr
  unfold pgv
  go_enter Tryz.func126, Tryz.ntmps126
  go_upto_region 1 with fail
  obtain ⟨W0, hW0⟩ : ∃ x, (w.alloc (.cells #[.int .i64 a, .int .i64 3, .int .i64 v, .int .i64 r, .string h, .slice ao n cp] 24)).alloc (.cells #[.string ⟨#[]⟩, .int .i64 0, .int .i64 0] 104) = x := ⟨_, rfl⟩
  rw [hW0] at HX ⊢
  clear hW0
  obtain ⟨p0, p1, p2, p3, p4, p5, _⟩ := HX.out.1
  go_wp2_with fail
  refine (HN.out _).mono ?_
  rintro x w1 ⟨rfl, h1⟩
  obtain rfl := h1.symm
  go_wp2_with fail
  refine (HD.out _).mono ?_
  rintro x w2 ⟨rfl, ho⟩
  have HE2 := hide (HX.out.2.1.more ho)
  have HO2 := hide (o2 HX.out.2.2 ho)
  clear ho p0 p1 p2 p3 p4 p5 HX
  go_upto_region 6 with fail
  have HE3 := hide (HE2.out.more (onlyA w2 (.cells #[.string ⟨#[]⟩, .int .i64 0, .int .i64 0] 104)))
  have HO3 := hide (o2 HO2.out (onlyA w2 (.cells #[.string ⟨#[]⟩, .int .i64 0, .int .i64 0] 104)))
  have HV3 := hide (Ev.new w2 noE)
  clear HE2 HO2
  obtain ⟨W3, hW3⟩ : ∃ x, w2.alloc (.cells #[.string ⟨#[]⟩, .int .i64 0, .int .i64 0] 104) = x := ⟨_, rfl⟩
  have HV4 : Hid (Ev W3 w2.heap.size noE) := by rw [← hW3]; exact HV3.out
  rw [hW3] at HE3 HO3 ⊢
  clear hW3 HV3
  obtain ⟨q0, q1, q2, g0, g1, g2, ql⟩ := HE3.out
  obtain ⟨d0, d1, d2, _⟩ := HV4.out
  go_wp2_with fail
  refine bodyPost_ret (results_ev rfl rfl (HE3.out.all noE)) rfl ?_
  exact ⟨rfl, HO3.out.trans (Only.three _ _ _ _ _) (fun i hi e => by omega)⟩
theorem HiIs.of_dec {h : ByteArray} {hi : En} (hd : decE (bl h) = some hi) : HiIs h hi := by
  obtain ⟨o1, o2⟩ := decE_some hd
  exact .inr ⟨by unfold En.enc; rw [← o2, str_bl], o1⟩
/-- readHead of any page. -/
theorem readHead_any (w : World) (a k v r : Int) (h : ByteArray) (ao : Option Addr) (n cp : Nat) :
    Calls Tryz.prog 126 #[pgv a k v r h ao n cp] w fun e w' => e = .returned (.tuple #[((hdO k v r h).getD noE).agg, .bool (hdO k v r h).isSome]) ∧ Only (fun _ => False) w w' := by
  unfold hdO
  by_cases hb : k = 3 ∧ 0 ≤ v ∧ v ≤ 255 ∧ 0 ≤ r ∧ r ≤ 65535
  · rw [if_pos hb]
    obtain ⟨rfl, h1, h2, h3, h4⟩ := hb
    by_cases hx : h = ⟨#[]⟩
    · rw [if_pos hx]
      exact readHead_ok w a v r h noE ao n cp ⟨h1, h2⟩ ⟨h3, h4⟩ (.inl ⟨hx, rfl⟩)
    · rw [if_neg hx]
      cases hd : decE (bl h) with
      | none => exact readHead_none w a v r h ao n cp ⟨h1, h2⟩ ⟨h3, h4⟩ hx hd
      | some hi => exact readHead_ok w a v r h hi ao n cp ⟨h1, h2⟩ ⟨h3, h4⟩ (HiIs.of_dec hd)
  · rw [if_neg hb]
    exact readHead_few w a k v r h ao n cp hb
end Go.Proofs.YtnpdmlkgcjggoaaGreat
