/- Parts. -/
import Derived.Test.YtpnbhddmdfcjdaaGreatK10
set_option maxRecDepth 100000
namespace Go.Proofs.YtpnbhddmdfcjdaaGreat
open Go.RowKit
/-- A page as a value. -/
def pgv (a k v r : Int) (h : ByteArray) (ao : Option Addr) (n cp : Nat) : Value := .agg #[.int .i64 a, .int .i64 k, .int .i64 v, .int .i64 r, .string h, .slice ao n cp]
theorem HiIs.dec {h : ByteArray} {hi : En} (x : h = hi.enc) (ho : hi.ok = true) : decE (bl h) = some hi := by
  rw [x, bl_enc, decE_lay ho]
theorem enc_ne {hi : En} : ¬ hi.enc = (⟨#[]⟩ : ByteArray) := by
  intro e
  have h1 : bl hi.enc = [] := by rw [e]
  rw [bl_enc] at h1
  have h2 : (txL hi.key).length = 0 := by
    have := congrArg List.length h1
    unfold En.lay at this
    simp only [List.length_append, List.length_nil] at this
    omega
  unfold txL at h2
  have h3 : 0 < (sev hi.key.size).length := by unfold sev sevF; split <;> simp
  simp only [List.length_append] at h2
  omega
/-- The boxes of a page and of an entry that is answered. -/
theorem hd_new (w : World) (v0 v1 v2 v3 v4 v5 : Value) : Pag ((w.alloc (.cells #[v0, v1, v2, v3, v4, v5] 30)).alloc (.cells #[.string ⟨#[]⟩, .int .i64 0, .int .i64 0] 74)) w.heap.size v0 v1 v2 v3 v4 v5 ∧ Ev ((w.alloc (.cells #[v0, v1, v2, v3, v4, v5] 30)).alloc (.cells #[.string ⟨#[]⟩, .int .i64 0, .int .i64 0] 74)) (w.heap.size + 1) noE ∧ Only (fun _ => False) w ((w.alloc (.cells #[v0, v1, v2, v3, v4, v5] 30)).alloc (.cells #[.string ⟨#[]⟩, .int .i64 0, .int .i64 0] 74)) := by
  refine ⟨(Pag.new w v0 v1 v2 v3 v4 v5).more (onlyA _ _), ?_, o2 (onlyA _ _) (onlyA _ _)⟩
  have e1 := Ev.zero (w.alloc (.cells #[v0, v1, v2, v3, v4, v5] 30))
  rw [World.size_alloc] at e1
  exact e1
set_option maxHeartbeats 1600000 in
theorem readHead_ok (w : World) (a v r : Int) (h : ByteArray) (hi : En) (ao : Option Addr) (n cp : Nat) (hv : 0 ≤ v ∧ v ≤ 255) (hr : 0 ≤ r ∧ r ≤ 65535) (hh : HiIs h hi) :
    Calls Tryz.prog 193 #[pgv a 3 v r h ao n cp] w fun e w' => e = .returned (.tuple #[hi.agg, .bool true]) ∧ Only (fun _ => False) w w' := by
  have HX := hide (hd_new w (.int .i64 a) (.int .i64 3) (.int .i64 v) (.int .i64 r) (.string h) (.slice ao n cp))
  have HN : Hid (∀ W, Calls Tryz.prog 192 #[.int .i64 r] W fun e w' => e = .returned (.bool true) ∧ w' = W) := fun W => by
    have := isNumber_any r W
    rwa [show nm r = true by unfold nm; simp; omega] at this
  have t1 : ¬ v < 0 := by omega
  have t2 : ¬ (255 : Int) < v := by omega
  clear hv hr
  unfold pgv
  rcases hh with ⟨rfl, rfl⟩ | ⟨hx, ho⟩
  · go_enter Tryz.func193, Tryz.ntmps193
    go_upto_region 1 with fail
    obtain ⟨W0, hW0⟩ : ∃ x, (w.alloc (.cells #[.int .i64 a, .int .i64 3, .int .i64 v, .int .i64 r, .string ⟨#[]⟩, .slice ao n cp] 30)).alloc (.cells #[.string ⟨#[]⟩, .int .i64 0, .int .i64 0] 74) = x := ⟨_, rfl⟩
    rw [hW0] at HX ⊢
    clear hW0
    obtain ⟨p0, p1, p2, p3, p4, p5, _⟩ := HX.out.1
    obtain ⟨q0, q1, q2, g0, g1, g2, ql⟩ := HX.out.2.1
    go_wp2_with fail
    refine (HN.out _).mono ?_
    rintro x w1 ⟨rfl, h1⟩
    obtain rfl := h1.symm
    go_wp2_with fail
    refine bodyPost_ret (results_ev rfl rfl (HX.out.2.1.all noE)) rfl ?_
    exact ⟨rfl, HX.out.2.2.trans (Only.three _ _ _ _ _) (fun i hi e => by omega)⟩
  · have HD : Hid (∀ W, Calls Tryz.prog 120 #[.string h] W fun e w' => e = .returned (.tuple #[.agg #[.string hi.key, .int .i64 hi.page, .int .i64 hi.slot], .int .i64 0]) ∧ Only (fun _ => False) W w') := fun W => by
      have := decode_any h W
      rw [HiIs.dec hx ho] at this
      exact this
    have hne := ba_neN (s := h) (t := ⟨#[]⟩) (by rw [hx]; exact enc_ne)
    have hne' : ¬ h.toList = [] := by
      have h2 : ¬ h.toList = (⟨#[]⟩ : ByteArray).toList := by simpa using hne
      rw [ByteArray.toList_eq ⟨#[]⟩] at h2
      exact h2
    have hn1 : (h.toList == []) = false := by simpa using hne'
    have hn2 : h.toList.isEmpty = false := by
      cases e : h.toList with
      | nil => exact absurd e hne'
      | cons _ _ => rfl
    clear hx ho hne
    go_enter Tryz.func193, Tryz.ntmps193
    go_upto_region 1 with fail
    obtain ⟨W0, hW0⟩ : ∃ x, (w.alloc (.cells #[.int .i64 a, .int .i64 3, .int .i64 v, .int .i64 r, .string h, .slice ao n cp] 30)).alloc (.cells #[.string ⟨#[]⟩, .int .i64 0, .int .i64 0] 74) = x := ⟨_, rfl⟩
    rw [hW0] at HX ⊢
    clear hW0
    obtain ⟨p0, p1, p2, p3, p4, p5, _⟩ := HX.out.1
    go_wp2_with fail
    refine (HN.out _).mono ?_
    rintro x w1 ⟨rfl, h1⟩
    obtain rfl := h1.symm
    go_wp2_with fail
    refine (HD.out _).mono ?_
    rintro x w2 ⟨rfl, ho⟩
    have HE2 := hide (HX.out.2.1.more ho)
    have HO2 := hide (o2 HX.out.2.2 ho)
    clear ho p0 p1 p2 p3 p4 p5 HX
    go_upto_region 6 with fail
    have HE3 := hide (HE2.out.more (onlyA w2 (.cells #[.string hi.key, .int .i64 hi.page, .int .i64 hi.slot] 74)))
    have HO3 := hide (o2 HO2.out (onlyA w2 (.cells #[.string hi.key, .int .i64 hi.page, .int .i64 hi.slot] 74)))
    have HV3 := hide (Ev.new w2 hi)
    clear HE2 HO2
    obtain ⟨W3, hW3⟩ : ∃ x, w2.alloc (.cells #[.string hi.key, .int .i64 hi.page, .int .i64 hi.slot] 74) = x := ⟨_, rfl⟩
    rw [hW3] at HE3 HO3 HV3 ⊢
    clear hW3
    obtain ⟨q0, q1, q2, g0, g1, g2, ql⟩ := HE3.out
    obtain ⟨d0, d1, d2, _⟩ := HV3.out
    go_wp2_with fail
    refine bodyPost_ret (results_ev rfl rfl (HE3.out.all hi)) rfl ?_
    exact ⟨rfl, HO3.out.trans (Only.three _ _ _ _ _) (fun i hi e => by omega)⟩
theorem readHead_bad (w : World) (a k v r : Int) (h : ByteArray) (ao : Option Addr) (n cp : Nat) (hk : ¬ k = 3) :
    Calls Tryz.prog 193 #[pgv a k v r h ao n cp] w fun e w' => e = .returned (.tuple #[noE.agg, .bool false]) ∧ Only (fun _ => False) w w' := by
  have HX := hide (hd_new w (.int .i64 a) (.int .i64 k) (.int .i64 v) (.int .i64 r) (.string h) (.slice ao n cp))
  have t1 : (k != 3) = true := by simpa using hk
  clear hk
  unfold pgv
  go_enter Tryz.func193, Tryz.ntmps193
  go_upto_region 1 with fail
  obtain ⟨W0, hW0⟩ : ∃ x, (w.alloc (.cells #[.int .i64 a, .int .i64 k, .int .i64 v, .int .i64 r, .string h, .slice ao n cp] 30)).alloc (.cells #[.string ⟨#[]⟩, .int .i64 0, .int .i64 0] 74) = x := ⟨_, rfl⟩
  rw [hW0] at HX ⊢
  clear hW0
  obtain ⟨p0, p1, p2, p3, p4, p5, _⟩ := HX.out.1
  obtain ⟨q0, q1, q2, g0, g1, g2, ql⟩ := HX.out.2.1
  go_wp2_with fail
  refine bodyPost_ret (results_ev rfl rfl (HX.out.2.1.all noE)) rfl ?_
  exact ⟨rfl, HX.out.2.2.trans (Only.three _ _ _ _ _) (fun i hi e => by omega)⟩
end Go.Proofs.YtpnbhddmdfcjdaaGreat
