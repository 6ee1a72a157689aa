/- Parts. -/
import Derived.Test.YtpnbhddmdfcjdaaGreatK12
set_option maxRecDepth 100000
namespace Go.Proofs.YtpnbhddmdfcjdaaGreat
open Go.RowKit
set_option maxRecDepth 100000 in
set_option maxHeartbeats 1600000 in
theorem put_some (w : World) (a k v r : Int) (h : ByteArray) (B b o cp : Nat) (l : List ByteArray) (i : Nat) (it : ByteArray) (hS : Strs w B (some ⟨b, o, none⟩) l) (hF : Fit (some ⟨b, o, none⟩) l.length cp) (hh : h.size ≤ 140737488355328) (hit : it.size ≤ 140737488355328) (hi : i ≤ l.length) (hlm : l.length ≤ 8796093021952) :
    Calls Tryz.prog 115 #[.agg #[.int .i64 a, .int .i64 k, .int .i64 v, .int .i64 r, .string h, .slice (some ⟨b, o, none⟩) l.length cp], .int .i64 (i : Int), .string it] w fun e w' =>
      Or3 w w' e (255 < (l.take i ++ it :: l.drop i).length ∨ 512 < 20 + h.size + isz (l.take i ++ it :: l.drop i)) ⟨a, k, v, r, h, l.take i ++ it :: l.drop i⟩ := by
  have hcp := hF.le
  have hbig := hF.big
  unfold maxLen at hbig
  obtain ⟨A2, hA2⟩ : ∃ A2, (if cp = i then some (⟨b, o, none⟩ : Addr) else some ⟨b, o + i, none⟩) = A2 := ⟨_, rfl⟩
  have HCAT := hide (put_cat w a k v r h B b o cp l i it hS hF hit hi hlm A2 (fun hk => by rw [← hA2, if_neg (by omega)]) (by rw [← hA2]; split <;> simp))
  clear hS hF
  obtain ⟨nl, hnl⟩ : ∃ nl, l.take i ++ it :: l.drop i = nl := ⟨_, rfl⟩
  rw [hnl] at HCAT ⊢
  clear hnl
  have hi0 : (0 : Int) ≤ (i : Int) := by omega
  have hi1 : ¬ ((l.length : Int) < (i : Int)) := by omega
  go_enter Tryz.func115, Tryz.ntmps115
  go_upto_region 3 with fail
  go_cut [29] (fun t wc => ∃ B5 ao5 cp5, t = .slice ao5 nl.length cp5 ∧ Hid (Aft w wc a k v r h (.slice ao5 nl.length cp5) B5 ao5 cp5 nl))
  case first =>
    go_region_with (
      go_at_call 164
      refine (HCAT.out _ (Only.drew _ _)).mono ?_
      rintro e w5 ⟨B5, ao5, cp5, rfl, p5, g5, HA⟩)
    all_goals (go_wp2_with fail; go_meet; exact ⟨B5, ao5, cp5, rfl, hide (HA.out.store _)⟩)
  case rest =>
    obtain ⟨B5, ao5, cp5, rfl, HA⟩ := hcut
    obtain ⟨p0, p1, p2, p3, p4, p5, g0, g1, g2, g3, g4, g5, gl⟩ := HA.out.one
    go_wp2_with fail
    refine (fitting_any _ a k v r h B5 cp5 ao5 nl HA.out.strs hh).mono ?_
    rintro e w6 ⟨rfl, ho6⟩
    have HA6 := hide (HA.out.more ho6)
    obtain ⟨q0, q1, q2, q3, q4, q5, t0, t1, t2, t3, t4, t5, tl⟩ := HA6.out.two
    have HQ6 := hide HA6.out.two
    clear ho6 p0 p1 p2 p3 p4 p5 g0 g1 g2 g3 g4 g5 gl
    by_cases hc : 255 < nl.length ∨ 512 < 20 + h.size + isz nl
    · rw [if_pos hc]
      have HC := hide hc
      clear hc
      go_wp2_with fail
      refine bodyPost_ret (results_page rfl rfl (Pag.six HQ6.out _ _ _ _ _ _)) rfl ?_
      exact Or3.yes HC.out (Res.none 3 (HA6.out.res _ _ _ _ _ _ 0 _ rfl).2)
    · rw [if_neg hc]
      have HC := hide hc
      clear hc
      go_wp2_with fail
      refine bodyPost_ret (results_page rfl rfl (Pag.six HQ6.out _ _ _ _ _ _)) rfl ?_
      exact Or3.no HC.out (HA6.out.res _ _ _ _ _ _ 0 _ rfl).1
end Go.Proofs.YtpnbhddmdfcjdaaGreat
