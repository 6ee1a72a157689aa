/- Parts. -/
import Derived.Test.YtpnbhddmdfcjdaaGreatK06
set_option maxRecDepth 100000
namespace Go.Proofs.YtpnbhddmdfcjdaaGreat
open Go.RowKit
set_option maxRecDepth 100000 in
set_option maxHeartbeats 1600000 in
theorem with_some (w : World) (a k v r : Int) (h : ByteArray) (B cp : Nat) (ao : Option Addr) (l : List ByteArray) (i : Nat) (it : ByteArray) (hS : Strs w B ao l) (hh : h.size ≤ 140737488355328) (hit : it.size ≤ 140737488355328) (hi : i < l.length) :
    Calls Tryz.prog 47 #[.agg #[.int .i64 a, .int .i64 k, .int .i64 v, .int .i64 r, .string h, .slice ao l.length cp], .int .i64 (i : Int), .string it] w fun e w' =>
      Or3 w w' e (255 < (l.set i it).length ∨ 512 < 20 + h.size + isz (l.set i it)) ⟨a, k, v, r, h, l.set i it⟩ := by
  have hlen := hS.len
  have HS := hide hS
  clear hS
  have HB0 := hide (boxes_only w a k v r h (.slice ao l.length cp))
  have HB1 := hide (boxes_one w a k v r h (.slice ao l.length cp))
  have HB2 := hide (boxes_two w a k v r h (.slice ao l.length cp))
  have HBZ := hide (boxes_size w a k v r h (.slice ao l.length cp))
  have hi0 : (0 : Int) ≤ (i : Int) := by omega
  have hi1 : (i : Int) < (l.length : Int) := by omega
  obtain ⟨nl, hnl⟩ : ∃ nl, l.set i it = nl := ⟨_, rfl⟩
  rw [hnl]
  have HNL := hide hnl
  have HLL : Hid (nl.length = l.length) := by unfold Hid; rw [← hnl, List.length_set]
  clear hnl
  go_enter Tryz.func47, Tryz.ntmps47
  go_wp2_with fail
  refine (hasItem_any _ a k v r (i : Int) h cp l.length ao).mono ?_
  rintro e w1 ⟨rfl, ho1⟩
  have hd : decide (0 ≤ (i : Int) ∧ (i : Int) < (l.length : Int)) = true := decide_eq_true ⟨hi0, hi1⟩
  rw [hd]
  clear hd
  obtain ⟨p0, p1, p2, p3, p4, p5, g0, g1, g2, g3, g4, g5, gl⟩ := HB1.out.more ho1
  have HO1 := hide ho1
  clear ho1
  go_wp2_with fail
  refine (clone_any _ B cp ao l (HS.out.more (o2 HB0.out HO1.out))).mono ?_
  rintro e w2 ⟨v2, rfl, hl2, ho2⟩
  have HO2 := hide (o2 HO1.out ho2)
  clear p0 p1 p2 p3 p4 p5 g0 g1 g2 g3 g4 g5 gl
  obtain ⟨p0, p1, p2, p3, p4, p5, g0, g1, g2, g3, g4, g5, gl⟩ := HB1.out.more HO2.out
  obtain ⟨q0, q1, q2, q3, q4, q5, t0, t1, t2, t3, t4, t5, tl⟩ := HB2.out.more HO2.out
  rcases hl2.2 with ⟨_, hz⟩ | ⟨g, cap, cur, rfl, hgb, hgh, hnc, hcm, hcs, htk⟩
  · omega
  · have hbz := HBZ.out
    have hs1 : (boxes w a k v r h (.slice ao l.length cp)).heap.size ≤ w1.heap.size := HO1.out.size
    have hne : ¬ w.heap.size = g := by omega
    have hne2 : ¬ w.heap.size + 1 = g := by omega
    have hci := World.ownsRow.cellAt hl2 i (by omega)
    rw [show (scells l)[i]? = some (.string l[i]) by simp [scells, hi]] at hci
    have hfi := World.ownsRow.frozenAt hl2 i
    have HL2 := hide hl2
    have HA2 : Hid (Aft w w2 a k v r h (.slice ao l.length cp) g (some ⟨g, 0, none⟩) cap l) := by
      obtain ⟨B5, ao5, cp5, hv, hS5, hF5, hB5, hO5⟩ := hl2.strs hlen HS.out.size
      cases hv
      rcases hO5 with hO5 | hO5
      · cases hO5
      · cases hO5
        exact ⟨HB1.out.more HO2.out, HB2.out.more HO2.out, hS5, hF5, o2 HB0.out HO2.out, fun _ => by omega⟩
    have HGB := hide hgb
    clear hl2 hgb hgh hcs htk hbz hs1 ho2
    obtain ⟨s, hs⟩ : ∃ s, l[i] = s := ⟨_, rfl⟩
    rw [hs] at hci
    clear hs
    have HA : Hid (Aft w (w2.setCell ⟨w.heap.size, 5, none⟩ (.slice (some ⟨g, 0, none⟩) l.length cap)) a k v r h (.slice (some ⟨g, 0, none⟩) l.length cap) g (some ⟨g, 0, none⟩) cap l) := HA2.out.store _
    have HA4 := hide (HA.out.setItem (base := w1.heap.size) (HL2.out.kept (Only.setCell (S := fun k => k = w.heap.size) w2 ⟨w.heap.size, 5, none⟩ (.slice (some ⟨g, 0, none⟩) l.length cap) rfl) (fun k hk e => by simp [Value.ownBlock] at hk; omega)) i it hit (by omega))
    rw [HNL.out] at HA4
    go_wp2_with fail
    have hf := fitting_any _ a k v r h g cap (some ⟨g, 0, none⟩) nl HA4.out.strs hh
    rw [HLL.out] at hf
    refine Calls.mono hf ?_
    clear hf
    rintro e w6 ⟨rfl, ho6⟩
    have HA6 := hide (HA4.out.more ho6)
    clear p0 p1 p2 p3 p4 p5 g0 g1 g2 g3 g4 g5 gl q0 q1 q2 q3 q4 q5 t0 t1 t2 t3 t4 t5 tl ho6 hci hfi hne hne2
    obtain ⟨q0, q1, q2, q3, q4, q5, t0, t1, t2, t3, t4, t5, tl⟩ := HA6.out.two
    have hrs := fun (v0 v1 v2 v3 v4 v5 : Value) (c : Int) (w7 : World) => HA6.out.res v0 v1 v2 v3 v4 v5 c w7
    rw [HLL.out] at hrs
    have HRS := hide hrs
    clear hrs
    by_cases hc : 255 < l.length ∨ 512 < 20 + h.size + isz nl
    · rw [if_pos hc]
      have HC : Hid (255 < nl.length ∨ 512 < 20 + h.size + isz nl) := by unfold Hid; rw [HLL.out]; exact hc
      clear hc
      go_wp2_with fail
      refine bodyPost_ret (results_page rfl rfl (Pag.six HA6.out.two _ _ _ _ _ _)) rfl ?_
      exact Or3.yes HC.out (Res.none 3 (HRS.out _ _ _ _ _ _ 0 _ rfl).2)
    · rw [if_neg hc]
      have HC : Hid (¬ (255 < nl.length ∨ 512 < 20 + h.size + isz nl)) := by unfold Hid; rw [HLL.out]; exact hc
      clear hc
      go_wp2_with fail
      refine bodyPost_ret (results_page rfl rfl (Pag.six HA6.out.two _ _ _ _ _ _)) rfl ?_
      exact Or3.no HC.out (HRS.out _ _ _ _ _ _ 0 _ rfl).1
/-- A version as a value. -/
def Tu.agg (t : Tu) : Value := .agg #[.int .i64 t.xmin, .int .i64 t.xmax, .bool t.frozen, .string t.key, .string t.value]
theorem isKey_any (k : ByteArray) (w : World) : Calls Tryz.prog 48 #[.string k] w fun e w' => e = .returned (.bool (okK k)) ∧ w' = w := by
  have hk : okK k = (decide ((1 : Int) ≤ k.size) && decide ((k.size : Int) ≤ 24)) := by
    unfold okK
    rw [Bool.eq_iff_iff]
    simp only [Bool.and_eq_true, decide_eq_true_eq]
    omega
  rw [hk]
  by_cases h1 : (1 : Int) ≤ k.size
  · go_enter Tryz.func48, Tryz.ntmps48
    go_wp2
    go_ret
    exact ⟨by simp [h1], rfl⟩
  · go_enter Tryz.func48, Tryz.ntmps48
    go_wp2
    go_ret
    exact ⟨by simp; omega, rfl⟩
theorem uright_any (k : ByteArray) (w : World) : Calls Tryz.prog 105 #[.string k] w fun e w' => e = .returned (.bool (okK k)) ∧ w' = w := by
  have hk : okK k = (decide ((1 : Int) ≤ k.size) && decide ((k.size : Int) ≤ 24)) := by
    unfold okK
    rw [Bool.eq_iff_iff]
    simp only [Bool.and_eq_true, decide_eq_true_eq]
    omega
  rw [hk]
  by_cases h1 : (1 : Int) ≤ k.size
  · go_enter Tryz.func105, Tryz.ntmps105
    go_wp2
    go_ret
    exact ⟨by simp [h1], rfl⟩
  · go_enter Tryz.func105, Tryz.ntmps105
    go_wp2
    go_ret
    exact ⟨by simp; omega, rfl⟩
theorem umark_any (b : Bool) (w : World) : Calls Tryz.prog 51 #[.bool b] w fun e w' => e = .returned (.string ⟨#[mkB b]⟩) ∧ w' = w := by
  cases b
  all_goals
    go_enter Tryz.func51, Tryz.ntmps51
    go_wp2
    go_ret
    exact ⟨rfl, rfl⟩
theorem ufree_any (w : World) : Calls Tryz.prog 19 #[] w fun e w' => e = .returned (.string ⟨#[]⟩) ∧ w' = w := by
  go_enter Tryz.func19, Tryz.ntmps19
  go_wp2
  go_ret
  exact ⟨rfl, rfl⟩
theorem ba_eqU {s t : ByteArray} (h : s = t) : (s.toList == t.toList) = true := by simp [h]
theorem ba_neU {s t : ByteArray} (h : ¬ s = t) : (s.toList == t.toList) = false := by
  cases e : (s.toList == t.toList) with
  | false => rfl
  | true =>
    refine absurd ?_ h
    have e' : s.toList = t.toList := by simpa using e
    rw [ByteArray.toList_eq, ByteArray.toList_eq] at e'
    exact ByteArray.ext (Array.toList_inj.1 e')
theorem one_ne {a b : UInt8} (h : ¬ a = b) : ¬ (⟨#[a]⟩ : ByteArray) = ⟨#[b]⟩ := by
  intro e
  injection e with e
  simp at e
  exact h e
theorem isMark_any (a : UInt8) (w : World) : Calls Tryz.prog 96 #[.string ⟨#[a]⟩] w fun e w' => e = .returned (.bool (a == 1 || a == 3)) ∧ w' = w := by
  by_cases h1 : a = 1
  · subst h1
    go_enter Tryz.func96, Tryz.ntmps96
    go_wp2
    go_ret
    exact ⟨rfl, rfl⟩
  · have e1 : ((⟨#[a]⟩ : ByteArray).toList == (⟨#[1]⟩ : ByteArray).toList) = false := ba_neU (one_ne h1)
    by_cases h3 : a = 3
    · subst h3
      go_enter Tryz.func96, Tryz.ntmps96
      go_wp2
      go_ret
      exact ⟨rfl, rfl⟩
    · have e3 : ((⟨#[a]⟩ : ByteArray).toList == (⟨#[3]⟩ : ByteArray).toList) = false := ba_neU (one_ne h3)
      go_enter Tryz.func96, Tryz.ntmps96
      go_wp2
      go_ret
      exact ⟨ret_bool (by simp_all), rfl⟩
set_option maxRecDepth 100000 in
set_option maxHeartbeats 1600000 in
theorem isVersion_any (t : Tu) (w : World) (h0 : -9223372036854775808 ≤ t.xmin ∧ t.xmin < 9223372036854775808) (h1 : -9223372036854775808 ≤ t.xmax ∧ t.xmax < 9223372036854775808) :
    Calls Tryz.prog 50 #[t.agg] w fun e w' => e = .returned (.bool t.ok) ∧ Only (fun _ => False) w w' := by
  obtain ⟨a, b, f, k, v⟩ := t
  have hk : Tu.ok ⟨a, b, f, k, v⟩ = (decide (1 ≤ a) && (decide (a ≤ 1024) && (decide (0 ≤ b) && (decide (b ≤ 1024) && (okK k && decide ((v.size : Int) ≤ 64)))))) := by
    unfold okK Tu.ok
    rw [Bool.eq_iff_iff]
    simp only [Bool.and_eq_true, decide_eq_true_eq]
    omega
  rw [hk]
  unfold Tu.agg
  simp only at h0 h1 ⊢
  clear hk
  obtain ⟨q, hq⟩ : ∃ q, okK k = q := ⟨_, rfl⟩
  have hc := fun W => isKey_any k W
  rw [hq] at hc
  rw [hq]
  clear hq
  by_cases c1 : 1 ≤ a
  · by_cases c2 : a ≤ 1024
    · by_cases c3 : 0 ≤ b
      · by_cases c4 : b ≤ 1024
        · cases q
          all_goals
            go_enter Tryz.func50, Tryz.ntmps50
            go_wp2_with (go_at_call 48; refine (hc _).mono ?_; rintro e w' ⟨rfl, hw⟩; obtain rfl := hw.symm; clear hw)
            go_ret
            exact ⟨by simp [c1, c2, c3, c4], onlyA _ _⟩
        · go_enter Tryz.func50, Tryz.ntmps50
          go_wp2
          go_ret
          exact ⟨by simp; omega, onlyA _ _⟩
      · go_enter Tryz.func50, Tryz.ntmps50
        go_wp2
        go_ret
        exact ⟨by simp; omega, onlyA _ _⟩
    · go_enter Tryz.func50, Tryz.ntmps50
      go_wp2
      go_ret
      exact ⟨by simp; omega, onlyA _ _⟩
  · go_enter Tryz.func50, Tryz.ntmps50
    go_wp2
    go_ret
    exact ⟨by simp; omega, onlyA _ _⟩
end Go.Proofs.YtpnbhddmdfcjdaaGreat
