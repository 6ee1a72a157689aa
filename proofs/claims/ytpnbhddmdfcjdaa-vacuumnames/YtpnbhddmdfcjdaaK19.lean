/- Parts. -/
import Derived.Test.YtpnbhddmdfcjdaaK18
set_option maxRecDepth 100000
namespace Go.Proofs.Ytpnbhddmdfcjdaa
open Go.RowKit
set_option maxRecDepth 100000 in
set_option maxHeartbeats 1600000 in
theorem with_some (w : World) (a k v r : Int) (h : ByteArray) (B cp : Nat) (ao : Option Addr) (l : List ByteArray) (i : Nat) (it : ByteArray) (hS : Strs w B ao l) (hh : h.size ≤ 140737488355328) (hit : it.size ≤ 140737488355328) (hi : i < l.length) :
    Calls Try.prog 31 #[.agg #[.int .i64 a, .int .i64 k, .int .i64 v, .int .i64 r, .string h, .slice ao l.length cp], .int .i64 (i : Int), .string it] w fun e w' =>
      Or3 w w' e (255 < (l.set i it).length ∨ 512 < 20 + h.size + isz (l.set i it)) ⟨a, k, v, r, h, l.set i it⟩ := by
  have hlen := hS.len
  have HS := hide hS
  clear hS
  have HB0 := hide (boxes_only w a k v r h (.slice ao l.length cp))
  have HB1 := hide (boxes_one w a k v r h (.slice ao l.length cp))
  have HB2 := hide (boxes_two w a k v r h (.slice ao l.length cp))
  have HBZ := hide (boxes_size w a k v r h (.slice ao l.length cp))
  have hi0 : (0 : Int) ≤ (i : Int) := by omega
  have hi1 : (i : Int) < (l.length : Int) := by omega
  obtain ⟨nl, hnl⟩ : ∃ nl, l.set i it = nl := ⟨_, rfl⟩
  rw [hnl]
  have HNL := hide hnl
  have HLL : Hid (nl.length = l.length) := by unfold Hid; rw [← hnl, List.length_set]
  clear hnl
  go_enter Try.func31, Try.ntmps31
  go_wp2_with fail
  refine (hasItem_any _ a k v r (i : Int) h cp l.length ao).mono ?_
  rintro e w1 ⟨rfl, ho1⟩
  have hd : decide (0 ≤ (i : Int) ∧ (i : Int) < (l.length : Int)) = true := decide_eq_true ⟨hi0, hi1⟩
  rw [hd]
  clear hd
  obtain ⟨p0, p1, p2, p3, p4, p5, g0, g1, g2, g3, g4, g5, gl⟩ := HB1.out.more ho1
  have HO1 := hide ho1
  clear ho1
  go_wp2_with fail
  refine (clone_any _ B cp ao l (HS.out.more (o2 HB0.out HO1.out))).mono ?_
  rintro e w2 ⟨v2, rfl, hl2, ho2⟩
  have HO2 := hide (o2 HO1.out ho2)
  clear p0 p1 p2 p3 p4 p5 g0 g1 g2 g3 g4 g5 gl
  obtain ⟨p0, p1, p2, p3, p4, p5, g0, g1, g2, g3, g4, g5, gl⟩ := HB1.out.more HO2.out
  obtain ⟨q0, q1, q2, q3, q4, q5, t0, t1, t2, t3, t4, t5, tl⟩ := HB2.out.more HO2.out
  rcases hl2.2 with ⟨_, hz⟩ | ⟨g, cap, cur, rfl, hgb, hgh, hnc, hcm, hcs, htk⟩
  · omega
  · have hbz := HBZ.out
    have hs1 : (boxes w a k v r h (.slice ao l.length cp)).heap.size ≤ w1.heap.size := HO1.out.size
    have hne : ¬ w.heap.size = g := by omega
    have hne2 : ¬ w.heap.size + 1 = g := by omega
    have hci := World.ownsRow.cellAt hl2 i (by omega)
    rw [show (scells l)[i]? = some (.string l[i]) by simp [scells, hi]] at hci
    have hfi := World.ownsRow.frozenAt hl2 i
    have HL2 := hide hl2
    have HA2 : Hid (Aft w w2 a k v r h (.slice ao l.length cp) g (some ⟨g, 0, none⟩) cap l) := by
      obtain ⟨B5, ao5, cp5, hv, hS5, hF5, hB5, hO5⟩ := hl2.strs hlen HS.out.size
      cases hv
      rcases hO5 with hO5 | hO5
      · cases hO5
      · cases hO5
        exact ⟨HB1.out.more HO2.out, HB2.out.more HO2.out, hS5, hF5, o2 HB0.out HO2.out, fun _ => by omega⟩
    have HGB := hide hgb
    clear hl2 hgb hgh hcs htk hbz hs1 ho2
    obtain ⟨s, hs⟩ : ∃ s, l[i] = s := ⟨_, rfl⟩
    rw [hs] at hci
    clear hs
    have HA : Hid (Aft w (w2.setCell ⟨w.heap.size, 5, none⟩ (.slice (some ⟨g, 0, none⟩) l.length cap)) a k v r h (.slice (some ⟨g, 0, none⟩) l.length cap) g (some ⟨g, 0, none⟩) cap l) := HA2.out.store _
    have HA4 := hide (HA.out.setItem (base := w1.heap.size) (HL2.out.kept (Only.setCell (S := fun k => k = w.heap.size) w2 ⟨w.heap.size, 5, none⟩ (.slice (some ⟨g, 0, none⟩) l.length cap) rfl) (fun k hk e => by simp [Value.ownBlock] at hk; omega)) i it hit (by omega))
    rw [HNL.out] at HA4
    go_wp2_with fail
    have hf := fitting_any _ a k v r h g cap (some ⟨g, 0, none⟩) nl HA4.out.strs hh
    rw [HLL.out] at hf
    refine Calls.mono hf ?_
    clear hf
    rintro e w6 ⟨rfl, ho6⟩
    have HA6 := hide (HA4.out.more ho6)
    clear p0 p1 p2 p3 p4 p5 g0 g1 g2 g3 g4 g5 gl q0 q1 q2 q3 q4 q5 t0 t1 t2 t3 t4 t5 tl ho6 hci hfi hne hne2
    obtain ⟨q0, q1, q2, q3, q4, q5, t0, t1, t2, t3, t4, t5, tl⟩ := HA6.out.two
    have hrs := fun (v0 v1 v2 v3 v4 v5 : Value) (c : Int) (w7 : World) => HA6.out.res v0 v1 v2 v3 v4 v5 c w7
    rw [HLL.out] at hrs
    have HRS := hide hrs
    clear hrs
    by_cases hc : 255 < l.length ∨ 512 < 20 + h.size + isz nl
    · rw [if_pos hc]
      have HC : Hid (255 < nl.length ∨ 512 < 20 + h.size + isz nl) := by unfold Hid; rw [HLL.out]; exact hc
      clear hc
      go_wp2_with fail
      refine bodyPost_ret (results_page rfl rfl (Pag.six HA6.out.two _ _ _ _ _ _)) rfl ?_
      exact Or3.yes HC.out (Res.none 3 (HRS.out _ _ _ _ _ _ 0 _ rfl).2)
    · rw [if_neg hc]
      have HC : Hid (¬ (255 < nl.length ∨ 512 < 20 + h.size + isz nl)) := by unfold Hid; rw [HLL.out]; exact hc
      clear hc
      go_wp2_with fail
      refine bodyPost_ret (results_page rfl rfl (Pag.six HA6.out.two _ _ _ _ _ _)) rfl ?_
      exact Or3.no HC.out (HRS.out _ _ _ _ _ _ 0 _ rfl).1
end Go.Proofs.Ytpnbhddmdfcjdaa
