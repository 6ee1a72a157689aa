/- Parts. -/
import Derived.Test.YtpnbhddmdfcjdaaGreatK12
set_option maxRecDepth 100000
namespace Go.Proofs.YtpnbhddmdfcjdaaGreat
open Go.RowKit
theorem put_cat0 (w : World) (a k v r : Int) (h : ByteArray) (it : ByteArray) (hit : it.size ≤ 140737488355328) (W : World)
    (hW : Only (fun _ => False) (((boxes w a k v r h (.slice none 0 0)).alloc (.cells #[.string it] 9)).alloc (.cells #[.slice none 0 0, .slice (some ⟨w.heap.size + 1 + 1, 0, none⟩) 1 1, .slice none 0 0] 28)) W) :
    Calls Tryz.prog 164 #[.slice (some ⟨w.heap.size + 1 + 1 + 1, 0, none⟩) 3 3] W fun e w' => ∃ B5 ao5 cp5, e = .returned (.slice ao5 [it].length cp5) ∧ w'.cell? ⟨w.heap.size, 5, none⟩ = some (.slice none 0 0) ∧ w'.frozen? ⟨w.heap.size, 5, none⟩ = false ∧ Hid (Aft w w' a k v r h (.slice none 0 0) B5 ao5 cp5 [it]) := by
  have hB1 := boxes_one w a k v r h (.slice none 0 0)
  have hB2 := boxes_two w a k v r h (.slice none 0 0)
  obtain ⟨W0, hW0⟩ : ∃ W0, boxes w a k v r h (.slice none 0 0) = W0 := ⟨_, rfl⟩
  have hz := boxes_size w a k v r h (.slice none 0 0)
  have ho0 := boxes_only w a k v r h (.slice none 0 0)
  rw [hW0] at hW hz ho0 hB1 hB2
  have hS1 := Strs.one W0 it hit
  rw [hz] at hS1
  have hS3 := (hS1.more (onlyA _ _)).more hW
  have hlt : w.heap.size + 1 + 1 + 1 < ((W0.alloc (.cells #[.string it] 9)).alloc (.cells #[.slice none 0 0, .slice (some ⟨w.heap.size + 1 + 1, 0, none⟩) 1 1, .slice none 0 0] 28)).heap.size := by simp; omega
  have hz1 : (W0.alloc (.cells #[.string it] 9)).heap.size = w.heap.size + 1 + 1 + 1 := by simp; omega
  have hc : ∀ j (x : Value), #[Value.slice none 0 0, .slice (some ⟨w.heap.size + 1 + 1, 0, none⟩) 1 1, .slice none 0 0][j]? = some x → W.cell? ⟨w.heap.size + 1 + 1 + 1, j, none⟩ = some x := by
    intro j x hx
    rw [hW.cell (p := ⟨w.heap.size + 1 + 1 + 1, j, none⟩) hlt (fun h => h), ← hz1]
    simpa using hx
  have f0 : Fit none 0 0 := ⟨fun _ => rfl, Nat.le_refl _, (by unfold maxLen; omega)⟩
  have key := cat3 W (w.heap.size + 1 + 1 + 1) none (some ⟨w.heap.size + 1 + 1, 0, none⟩) none 0 1 0 0 (w.heap.size + 1 + 1) 0 0 1 0 [] [it] []
    rfl rfl rfl (hc 0 _ rfl) (hc 1 _ rfl) (hc 2 _ rfl) (Strs.nil _ _ _) hS3 (Strs.nil _ _ _) f0 ⟨(fun h => by cases h), by omega, (by unfold maxLen; omega)⟩ f0 (Nat.lt_of_lt_of_le hlt hW.size) (by omega)
  refine Calls.mono key ?_
  rintro e w5 ⟨v5, rfl, hl5, ho5⟩
  have e3 : ([] : List ByteArray) ++ [it] ++ [] = [it] := rfl
  rw [e3] at hl5
  obtain ⟨B5, ao5, cp5, rfl, hS5, hF5, hB5, _⟩ := hl5.strs (by simp) (fun s hs => by simp at hs; rw [hs]; exact hit)
  have hoo := o2 (o2 (onlyA W0 (.cells #[.string it] 9)) (onlyA _ _)) (o2 hW ho5)
  have hP := hB1.more hoo
  have hWs := hW.size
  exact ⟨B5, ao5, cp5, rfl, hP.c5, hP.f5, ⟨hP, hB2.more hoo, hS5, hF5, o2 ho0 hoo, fun h => by have := hB5 h; omega⟩⟩
set_option maxRecDepth 100000 in
set_option maxHeartbeats 1600000 in
theorem put_none (w : World) (a k v r : Int) (h : ByteArray) (it : ByteArray) (hh : h.size ≤ 140737488355328) (hit : it.size ≤ 140737488355328) :
    Calls Tryz.prog 115 #[.agg #[.int .i64 a, .int .i64 k, .int .i64 v, .int .i64 r, .string h, .slice none 0 0], .int .i64 0, .string it] w fun e w' =>
      Or3 w w' e (255 < [it].length ∨ 512 < 20 + h.size + isz [it]) ⟨a, k, v, r, h, [it]⟩ := by
  have HCAT := hide (put_cat0 w a k v r h it hit)
  obtain ⟨nl, hnl⟩ : ∃ nl, [it] = nl := ⟨_, rfl⟩
  rw [hnl] at HCAT ⊢
  clear hnl
  go_enter Tryz.func115, Tryz.ntmps115
  go_upto_region 3 with fail
  go_cut [29] (fun t wc => ∃ B5 ao5 cp5, t = .slice ao5 nl.length cp5 ∧ Hid (Aft w wc a k v r h (.slice ao5 nl.length cp5) B5 ao5 cp5 nl))
  case first =>
    go_region_with (
      go_at_call 164
      refine (HCAT.out _ (Only.drew _ _)).mono ?_
      rintro e w5 ⟨B5, ao5, cp5, rfl, p5, g5, HA⟩)
    all_goals (go_wp2_with fail; go_meet; exact ⟨B5, ao5, cp5, rfl, hide (HA.out.store _)⟩)
  case rest =>
    obtain ⟨B5, ao5, cp5, rfl, HA⟩ := hcut
    obtain ⟨p0, p1, p2, p3, p4, p5, g0, g1, g2, g3, g4, g5, gl⟩ := HA.out.one
    go_wp2_with fail
    refine (fitting_any _ a k v r h B5 cp5 ao5 nl HA.out.strs hh).mono ?_
    rintro e w6 ⟨rfl, ho6⟩
    have HA6 := hide (HA.out.more ho6)
    obtain ⟨q0, q1, q2, q3, q4, q5, t0, t1, t2, t3, t4, t5, tl⟩ := HA6.out.two
    have HQ6 := hide HA6.out.two
    clear ho6 p0 p1 p2 p3 p4 p5 g0 g1 g2 g3 g4 g5 gl
    by_cases hc : 255 < nl.length ∨ 512 < 20 + h.size + isz nl
    · rw [if_pos hc]
      have HC := hide hc
      clear hc
      go_wp2_with fail
      refine bodyPost_ret (results_page rfl rfl (Pag.six HQ6.out _ _ _ _ _ _)) rfl ?_
      exact Or3.yes HC.out (Res.none 3 (HA6.out.res _ _ _ _ _ _ 0 _ rfl).2)
    · rw [if_neg hc]
      have HC := hide hc
      clear hc
      go_wp2_with fail
      refine bodyPost_ret (results_page rfl rfl (Pag.six HQ6.out _ _ _ _ _ _)) rfl ?_
      exact Or3.no HC.out (HA6.out.res _ _ _ _ _ _ 0 _ rfl).1
end Go.Proofs.YtpnbhddmdfcjdaaGreat
