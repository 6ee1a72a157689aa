/- Parts. -/
import Derived.Test.YtpnbhddmdfcjdaaGreatK22
import Derived.Test.YtpnbhddmdfcjdaaGreatK23
set_option maxRecDepth 100000
namespace Go.Proofs.YtpnbhddmdfcjdaaGreat
open Go.RowKit
theorem put_cat1 (w : World) (a k v r : Int) (h : ByteArray) (A : Addr) (cp : Nat) (hbig : cp ≤ maxLen) (it : ByteArray) (hit : it.size ≤ 140737488355328) (W : World)
    (hW : Only (fun _ => False) (((boxes w a k v r h (.slice (some A) 0 cp)).alloc (.cells #[.string it] 9)).alloc (.cells #[.slice (some A) 0 cp, .slice (some ⟨w.heap.size + 1 + 1, 0, none⟩) 1 1, .slice (some A) 0 cp] 28)) W) :
    Calls Tryz.prog 164 #[.slice (some ⟨w.heap.size + 1 + 1 + 1, 0, none⟩) 3 3] W fun e w' => ∃ B5 ao5 cp5, e = .returned (.slice ao5 [it].length cp5) ∧ w'.cell? ⟨w.heap.size, 5, none⟩ = some (.slice (some A) 0 cp) ∧ w'.frozen? ⟨w.heap.size, 5, none⟩ = false ∧ Hid (Aft w w' a k v r h (.slice (some A) 0 cp) B5 ao5 cp5 [it]) := by
  have hB1 := boxes_one w a k v r h (.slice (some A) 0 cp)
  have hB2 := boxes_two w a k v r h (.slice (some A) 0 cp)
  obtain ⟨W0, hW0⟩ : ∃ W0, boxes w a k v r h (.slice (some A) 0 cp) = W0 := ⟨_, rfl⟩
  have hz := boxes_size w a k v r h (.slice (some A) 0 cp)
  have ho0 := boxes_only w a k v r h (.slice (some A) 0 cp)
  rw [hW0] at hW hz ho0 hB1 hB2
  have hS1 := Strs.one W0 it hit
  rw [hz] at hS1
  have hS3 := (hS1.more (onlyA _ _)).more hW
  have hlt : w.heap.size + 1 + 1 + 1 < ((W0.alloc (.cells #[.string it] 9)).alloc (.cells #[.slice (some A) 0 cp, .slice (some ⟨w.heap.size + 1 + 1, 0, none⟩) 1 1, .slice (some A) 0 cp] 28)).heap.size := by simp; omega
  have hz1 : (W0.alloc (.cells #[.string it] 9)).heap.size = w.heap.size + 1 + 1 + 1 := by simp; omega
  have hc : ∀ j (x : Value), #[Value.slice (some A) 0 cp, .slice (some ⟨w.heap.size + 1 + 1, 0, none⟩) 1 1, .slice (some A) 0 cp][j]? = some x → W.cell? ⟨w.heap.size + 1 + 1 + 1, j, none⟩ = some x := by
    intro j x hx
    rw [hW.cell (p := ⟨w.heap.size + 1 + 1 + 1, j, none⟩) hlt (fun h => h), ← hz1]
    simpa using hx
  have f0 : Fit (some A) 0 cp := ⟨(fun h => by cases h), Nat.zero_le _, hbig⟩
  have key := cat3 W (w.heap.size + 1 + 1 + 1) (some A) (some ⟨w.heap.size + 1 + 1, 0, none⟩) (some A) cp 1 cp 0 (w.heap.size + 1 + 1) 0 0 1 0 [] [it] []
    rfl rfl rfl (hc 0 _ rfl) (hc 1 _ rfl) (hc 2 _ rfl) (Strs.nil _ _ _) hS3 (Strs.nil _ _ _) f0 ⟨(fun h => by cases h), by omega, (by unfold maxLen; omega)⟩ f0 (Nat.lt_of_lt_of_le hlt hW.size) (by omega)
  refine Calls.mono key ?_
  rintro e w5 ⟨v5, rfl, hl5, ho5⟩
  have e3 : ([] : List ByteArray) ++ [it] ++ [] = [it] := rfl
  rw [e3] at hl5
  obtain ⟨B5, ao5, cp5, rfl, hS5, hF5, hB5, _⟩ := hl5.strs (by simp) (fun s hs => by simp at hs; rw [hs]; exact hit)
  have hoo := o2 (o2 (onlyA W0 (.cells #[.string it] 9)) (onlyA _ _)) (o2 hW ho5)
  have hP := hB1.more hoo
  have hWs := hW.size
  exact ⟨B5, ao5, cp5, rfl, hP.c5, hP.f5, ⟨hP, hB2.more hoo, hS5, hF5, o2 ho0 hoo, fun h => by have := hB5 h; omega⟩⟩
set_option maxRecDepth 100000 in
set_option maxHeartbeats 1600000 in
theorem put_emp (w : World) (a k v r : Int) (h : ByteArray) (A : Addr) (cp : Nat) (hbig : cp ≤ maxLen) (it : ByteArray) (hh : h.size ≤ 140737488355328) (hit : it.size ≤ 140737488355328) :
    Calls Tryz.prog 115 #[.agg #[.int .i64 a, .int .i64 k, .int .i64 v, .int .i64 r, .string h, .slice (some A) 0 cp], .int .i64 0, .string it] w fun e w' =>
      Or3 w w' e (255 < [it].length ∨ 512 < 20 + h.size + isz [it]) ⟨a, k, v, r, h, [it]⟩ := by
  have HCAT := hide (put_cat1 w a k v r h A cp hbig it hit)
  obtain ⟨nl, hnl⟩ : ∃ nl, [it] = nl := ⟨_, rfl⟩
  rw [hnl] at HCAT ⊢
  clear hnl
  have hadd : A.add 0 = A := by unfold Addr.add; simp
  have hcp0 : (0 : Int) ≤ (cp : Int) := by omega
  unfold maxLen at hbig
  go_enter Tryz.func115, Tryz.ntmps115
  go_upto_region 3 with fail
  go_cut [29] (fun t wc => ∃ B5 ao5 cp5, t = .slice ao5 nl.length cp5 ∧ Hid (Aft w wc a k v r h (.slice ao5 nl.length cp5) B5 ao5 cp5 nl))
  case first =>
    go_region_with (
      go_at_call 164
      refine (HCAT.out _ (Only.drew _ _)).mono ?_
      rintro e w5 ⟨B5, ao5, cp5, rfl, p5, g5, HA⟩)
    all_goals (go_wp2_with fail; go_meet; exact ⟨B5, ao5, cp5, rfl, hide (HA.out.store _)⟩)
  case rest =>
    obtain ⟨B5, ao5, cp5, rfl, HA⟩ := hcut
    obtain ⟨p0, p1, p2, p3, p4, p5, g0, g1, g2, g3, g4, g5, gl⟩ := HA.out.one
    go_wp2_with fail
    refine (fitting_any _ a k v r h B5 cp5 ao5 nl HA.out.strs hh).mono ?_
    rintro e w6 ⟨rfl, ho6⟩
    have HA6 := hide (HA.out.more ho6)
    obtain ⟨q0, q1, q2, q3, q4, q5, t0, t1, t2, t3, t4, t5, tl⟩ := HA6.out.two
    have HQ6 := hide HA6.out.two
    clear ho6 p0 p1 p2 p3 p4 p5 g0 g1 g2 g3 g4 g5 gl
    by_cases hc : 255 < nl.length ∨ 512 < 20 + h.size + isz nl
    · rw [if_pos hc]
      have HC := hide hc
      clear hc
      go_wp2_with fail
      refine bodyPost_ret (results_page rfl rfl (Pag.six HQ6.out _ _ _ _ _ _)) rfl ?_
      exact Or3.yes HC.out (Res.none 3 (HA6.out.res _ _ _ _ _ _ 0 _ rfl).2)
    · rw [if_neg hc]
      have HC := hide hc
      clear hc
      go_wp2_with fail
      refine bodyPost_ret (results_page rfl rfl (Pag.six HQ6.out _ _ _ _ _ _)) rfl ?_
      exact Or3.no HC.out (HA6.out.res _ _ _ _ _ _ 0 _ rfl).1
theorem put_any (w : World) (a k v r : Int) (h : ByteArray) (B cp : Nat) (ao : Option Addr) (l : List ByteArray) (i : Nat) (it : ByteArray) (hS : Strs w B ao l) (hF : Fit ao l.length cp) (hh : h.size ≤ 140737488355328) (hit : it.size ≤ 140737488355328) (hi : i ≤ l.length) (hlm : l.length ≤ 8796093021952) :
    Calls Tryz.prog 115 #[.agg #[.int .i64 a, .int .i64 k, .int .i64 v, .int .i64 r, .string h, .slice ao l.length cp], .int .i64 (i : Int), .string it] w fun e w' =>
      Or3 w w' e (255 < (l.take i ++ it :: l.drop i).length ∨ 512 < 20 + h.size + isz (l.take i ++ it :: l.drop i)) ⟨a, k, v, r, h, l.take i ++ it :: l.drop i⟩ := by
  by_cases h0 : l.length = 0
  · have e : l = [] := List.eq_nil_of_length_eq_zero h0
    subst e
    have e2 : i = 0 := by simpa using hi
    subst e2
    cases ao with
    | none =>
      have e3 := hF.nil rfl
      subst e3
      exact put_none w a k v r h it hh hit
    | some A => exact put_emp w a k v r h A cp hF.big it hh hit
  · obtain ⟨o, e, _⟩ := hS.at_ (by omega)
    subst e
    exact put_some w a k v r h B B o cp l i it hS hF hh hit hi hlm
end Go.Proofs.YtpnbhddmdfcjdaaGreat
