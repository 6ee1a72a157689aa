/- Walk of SnapFirst. -/
import Derived.Test.YtolfmodgkkjnbaaGreatSLawH
namespace Go.Proofs.YtolfmodgkkjnbaaGreat
open Go.RowKit

theorem max_of (g : Int → Int) : ∀ l : List Int, l ≠ [] → ∃ x ∈ l, ∀ o ∈ l, g o ≤ g x
  | [], h => absurd rfl h
  | [a], _ => ⟨a, by simp, fun o ho => by simp at ho; subst ho; exact Int.le_refl _⟩
  | a :: b :: t, _ => by
    obtain ⟨x, hx, hm⟩ := max_of g (b :: t) (by simp)
    by_cases h : g x ≤ g a
    · exact ⟨a, by simp, fun o ho => by
        rcases List.mem_cons.1 ho with rfl | ho
        · exact Int.le_refl _
        · exact Int.le_trans (hm o ho) h⟩
    · exact ⟨x, List.mem_cons_of_mem _ hx, fun o ho => by
        rcases List.mem_cons.1 ho with rfl | ho
        · omega
        · exact hm o ho⟩
/-- An id within a quarter of the ring ahead of next. -/
def Near (m next x : Int) : Prop := Idd m x ∧ xgap m x next ≤ m / 4
theorem near_bef {m next x y : Int} (hn : Idd m next) (hx : Near m next x) (hy : Near m next y) (h : xgap m y next ≤ xgap m x next) : xbef m y x = false := by
  have h1 := hx.2
  have h2 := hy.2
  have e1 := ring_gap hx.1 hn
  have e2 := ring_gap hy.1 hn
  have e3 := ring_gap hy.1 hx.1
  have b0 := hn.1
  have b1 := hx.1.2
  have b2 := hy.1.2
  have b3 := hn.2
  obtain ⟨m1, m2, m3⟩ := b0
  unfold xbef
  rw [e3]
  rw [e1, e2] at h
  rw [e1] at h1
  rw [e2] at h2
  apply decide_eq_false
  split <;> split at h <;> split at h <;> split at h1 <;> split at h2 <;> omega
theorem near_hor {m next : Int} {l : List Int} (h0 : next ∈ l) (h : ∀ x ∈ l, Near m next x) : hor m l ∈ l ∧ ∀ o ∈ l, xbef m o (hor m l) = false := by
  have hn := (h next h0).1
  obtain ⟨x, hx, hm⟩ := max_of (fun o => xgap m o next) l (by intro e; rw [e] at h0; cases h0)
  have hf : hfst m l x = true := by
    unfold hfst
    rw [Bool.not_eq_true', List.any_eq_false]
    intro o ho
    rw [near_bef hn (h x hx) (h o ho) (hm o ho)]
    simp
  unfold hor
  cases hq : l.find? (hfst m l) with
  | none =>
    have := List.find?_eq_none.1 hq x hx
    exact absurd hf this
  | some y =>
    have hy := List.find?_some hq
    refine ⟨List.mem_of_find?_eq_some hq, fun o ho => ?_⟩
    unfold hfst at hy
    rw [Bool.not_eq_true', List.any_eq_false] at hy
    have := hy o ho
    simpa using this
theorem xadd_nil {m x : Int} : (xadd m x 0 = 0 ↔ ¬ Idd m x) := by
  unfold xadd
  by_cases h : Idd m x
  · rw [if_pos h]
    have := emod_bd (m := m) (n := x - 1 + 0) h.1.1
    constructor
    · intro e; omega
    · intro e; exact absurd h e
  · rw [if_neg h]; exact ⟨fun _ => h, fun _ => rfl⟩
theorem hall_next (next : Int) (run : List Int) (L : List (Int × List Int)) (k : Nat) : next ∈ hto next run L k := by
  induction k with
  | zero => simp [hto]
  | succ k ih => rw [hto]; exact List.mem_append.2 (.inl ih)
set_option maxRecDepth 100000 in
set_option maxHeartbeats 3200000 in
theorem first_law (w : World) (m next : Int) (B cp : Nat) (ao : Option Addr) (run : List Int) (B2 cp2 : Nat) (ao2 : Option Addr) (L : List (Int × List Int)) (hm : I64 m) (hn : I64 next) (hR : Ns w B ao run) (hf : ao = none → cp = 0) (hS : Sps w B2 ao2 L) (hW : ∀ s ∈ L, ∀ x ∈ s.2, I64 x) (hroom : (hall next run L).length ≤ 17592186044416) :
    Calls Tryz.prog 6 #[.int .i64 m, .int .i64 next, .agg #[.slice ao run.length cp, .slice ao2 L.length cp2]] w fun e w' => e = .returned (.bool true) ∧ Only (fun _ => False) w w' := by
  have hlen := hS.len
  have HM := hide hm
  have HNN := hide hn
  have HWF := hide (hto_wf (next := next) (run := run) (L := L) hn hR.wf (fun s hs => ⟨hS.wf s hs, hW s hs⟩))
  have HROOM := hide hroom
  have HHOR := hide (fun W (ho : Only (fun _ => False) w W) => horizon_any W m next B cp ao run B2 cp2 ao2 L hm hn (hR.more ho) hf (hS.more ho) hW hroom)
  have hrl : 1 + run.length ≤ 17592186044416 := by
    have := hto_le (next := next) (run := run) (L := L) (Nat.zero_le L.length)
    unfold hall at hroom
    rw [hto, List.length_cons] at this
    omega
  obtain ⟨W0, hW0⟩ : ∃ W, w.alloc (.cells #[.slice ao run.length cp, .slice ao2 L.length cp2] 46) = W := ⟨_, rfl⟩
  have hO0 : Only (fun _ => False) w W0 := by rw [← hW0]; exact onlyA _ _
  have kx0 : W0.cell? ⟨w.heap.size, 0, none⟩ = some (.slice ao run.length cp) := by rw [← hW0]; simp
  have kx1 : W0.cell? ⟨w.heap.size, 1, none⟩ = some (.slice ao2 L.length cp2) := by rw [← hW0]; simp
  have hbl : w.heap.size < W0.heap.size := by rw [← hW0]; simp
  obtain ⟨v1, w1, hr1, hl1, ho1⟩ := append_ns (W0.alloc (.cells #[.int .i64 next] 3)) 25 W0.heap.size _ [next] (Lz.one W0 W0.heap.size (Nat.le_refl _) next) B cp ao run (hR.more (o2 hO0 (onlyA _ _))) hf (by simpa using hrl) (by simp)
  have HR1 := hide hr1
  have HL1 : Hid (HL W0 w1 v1 (hto next run L 0)) := by
    refine ⟨hl1, (onlyA W0 _).trans ho1 (fun i hi e => ?_)⟩
    simp [Value.ownBlock] at e
    omega
  have HS := hide (hS.more hO0)
  have HO0 := hide hO0
  have HBL := hide hbl
  have KX0 := hide kx0
  have KX1 := hide kx1
  have kz0 : (W0.alloc (.cells #[.int .i64 next] 3)).cell? ⟨w.heap.size, 0, none⟩ = some (.slice ao run.length cp) := ((onlyA W0 (.cells #[.int .i64 next] 3)).cell (p := ⟨w.heap.size, 0, none⟩) hbl (fun h => h)).trans kx0
  clear hm hn hR hf hS hW hroom hrl hr1 hl1 ho1 hO0 kx0 kx1 hbl
  go_enter Tryz.func6, Tryz.ntmps6
  go_wp2_with (at_builtin; go_must (refine Lib.wpList_append_run _ rfl _ _ _ _ rfl _ _ rfl rfl _ _ HR1.out ?_))
  clear HR1 hW0 kz0
  go_loopw [7, 8] (fun v y wr => ∃ (j : Nat), j ≤ L.length ∧ y = .int .i64 (j : Int) ∧ Hid (HL W0 wr v (hto next run L j))) (fun _ y _ => L.length - (intOf y).toNat)
  case atStart => exact ⟨0, by omega, rfl, HL1⟩
  case round =>
    obtain ⟨j, hj, rfl, HQ⟩ := hrel
    have kx1 := (HQ.out.only.cell (p := ⟨w.heap.size, 1, none⟩) HBL.out (fun h => h)).trans KX1.out
    by_cases hlt : j < L.length
    · obtain ⟨o, e1, c1⟩ := HS.out.at_ (by omega)
      have hBl := HS.out.lt (by omega)
      obtain ⟨k1, B3, ao3, cp3, k2, k3, k4⟩ := c1 j hlt
      have K1 := hide k1
      have K2 := hide k2
      replace k1 := (HQ.out.only.cell (p := ⟨B2, o + j * 2, none⟩) hBl (fun h => h)).trans k1
      have HX := hide (hto_next (next := next) (run := run) (L := L) hlt)
      have HZ : Hid ((hto next run L (j + 1)).length ≤ 17592186044416) := Nat.le_trans (hto_le (by omega)) HROOM.out
      obtain ⟨s, hs⟩ : ∃ s, L[j] = s := ⟨_, rfl⟩
      rw [hs] at k1 k2 k3 HX K1 K2
      rw [HX.out] at HZ
      have HI : Hid (I64 s.1) := HS.out.wf s (by rw [← hs]; exact List.getElem_mem hlt)
      clear c1 hs
      have hlen2 : (hto next run L j).length + 1 + s.2.length ≤ 17592186044416 := by have := HZ.out; simp at this; omega
      have hoB : Only (fun _ => False) wr (wr.alloc (.cells #[.int .i64 s.1] 3)) := onlyA _ _
      have hbb := HQ.out.only.size
      obtain ⟨v2, w2, hr2, hl2, ho2⟩ := append_ns (wr.alloc (.cells #[.int .i64 s.1] 3)) 25 W0.heap.size u7 (hto next run L j) (HQ.out.own.more hoB) wr.heap.size 1 (some ⟨wr.heap.size, 0, none⟩) [s.1] (Ns.one wr s.1 HI.out) (fun h => by cases h) (by simp; omega) (by simp; omega)
      have q1 := HQ.out.app hoB hl2 ho2
      have hbC : W0.heap.size ≤ w2.heap.size := q1.only.size
      have hk3 : Ns w2 B3 ao3 s.2 := k3.more q1.only
      obtain ⟨v3, w3, hr3, hl3, ho3⟩ := append_ns w2 25 W0.heap.size v2 _ hl2 B3 cp3 ao3 s.2 hk3 k4 (by simp; omega) hbC
      have HQ3 : Hid (HL W0 w3 v3 (hto next run L (j + 1))) := by unfold Hid; rw [HX.out]; exact q1.app (Only.refl _ _) hl3 ho3
      have HR2 := hide hr2
      have HR3 := hide hr3
      have m1 := (q1.only.cell (p := ⟨w.heap.size, 1, none⟩) HBL.out (fun h => h)).trans KX1.out
      have m2 := (q1.only.cell (p := ⟨B2, o + j * 2 + 1, none⟩) hBl (fun h => h)).trans K2.out
      rw [e1] at kx1 m1
      have hjl : (j : Int) < (L.length : Int) := by omega
      clear hr2 hr3 hl2 hl3 ho2 ho3 q1 hoB hk3 k3 k4 k2 hbb hbC hlen2 HZ HX HQ HI hBl K1 K2 e1
      go_upto_region 6 with (at_builtin; go_must (refine Lib.wpList_append_run _ rfl _ _ _ _ rfl _ _ rfl rfl _ _ HR2.out ?_))
      clear kx1 k1
      go_wp2_with (at_builtin; go_must (refine Lib.wpList_append_run _ rfl _ _ _ _ rfl _ _ rfl rfl _ _ HR3.out ?_))
      go_roundw
      case rel => exact ⟨j + 1, by omega, by go_num, HQ3⟩
      case measure => simp [intOf]; omega
    · have e : j = L.length := by omega
      subst e
      obtain ⟨l, hl⟩ : ∃ l, hto next run L L.length = l := ⟨_, rfl⟩
      have HNX : Hid (next ∈ l) := by unfold Hid; rw [← hl]; exact hall_next _ _ _ _
      have HWL : Hid (∀ x ∈ l, I64 x) := by unfold Hid; rw [← hl]; exact HWF.out _
      have hll : l.length ≤ 17592186044416 := by rw [← hl]; exact HROOM.out
      have HE : Hid (hall next run L = l) := hl
      rw [hl] at HQ
      obtain ⟨B4, ao4, cp4, rfl, hn4, _, _⟩ := HQ.out.own.ns (by omega) HWL.out
      have HN := hide hn4
      have HO := hide (o2 HO0.out HQ.out.only)
      have HQO := hide HQ.out.only
      have HORW := hide (HHOR.out _ HO.out)
      rw [HE.out] at HORW
      clear hn4 HQ hl HS HROOM HWF HHOR
      go_wp2_with fail
      clear kx1
      go_loop [9] (fun y => ∃ (j : Nat), j ≤ l.length ∧ y = .int .i64 (j : Int) ∧ Hid (∀ x ∈ l.take j, Near m next x)) (fun y => l.length - (intOf y).toNat)
      case atStart => exact ⟨0, by omega, rfl, (fun n hn => by simp at hn)⟩
      case round =>
        obtain ⟨j, hj, rfl, HQ⟩ := hrel
        by_cases hlt : j < l.length
        · obtain ⟨o, e1, c1⟩ := HN.out.at_ (by omega)
          have k1 := c1 j hlt
          obtain ⟨z, hz⟩ : ∃ z, l[j] = z := ⟨_, rfl⟩
          have HT : Hid (l.take (j + 1) = l.take j ++ [z]) := by unfold Hid; rw [List.take_succ_eq_append_getElem hlt, hz]
          have HZ : Hid (I64 z) := by unfold Hid; rw [← hz]; exact HWL.out _ (List.getElem_mem hlt)
          rw [hz] at k1
          clear c1 hz
          subst e1
          have hjl : (j : Int) < (l.length : Int) := by omega
          have CA := hide (xadd_any m z 0 wr HM.out HZ.out ⟨by omega, by omega⟩)
          have CG := hide (xgap_any m z next wr HM.out HZ.out HNN.out)
          obtain ⟨g, hg⟩ : ∃ g, xgap m z next = g := ⟨_, rfl⟩
          have hgb := xgap_bd (m := m) (a := z) (b := next)
          rw [hg] at CG hgb
          have HG := hide hg
          by_cases hI : Idd m z
          · have ha := fun h => (xadd_nil (m := m) (x := z)).1 h hI
            obtain ⟨a, haa⟩ : ∃ a, xadd m z 0 = a := ⟨_, rfl⟩
            rw [haa] at CA ha
            have ga : (a == 0) = false := by simp [show a ≠ 0 from fun h => ha h]
            have h16 := hI.1.1
            have h1024 := hI.1.2.1
            have HI := hide hI
            clear ha haa hI hg
            by_cases hq : m / 4 < g
            · have hd : decide (m / 4 < g) = true := decide_eq_true hq
              go_wp2_with (first
                | (go_at_call 24; refine CA.out.mono ?_; rintro e w' ⟨rfl, hw⟩; obtain rfl := hw.symm; clear hw)
                | (go_at_call 25; refine CG.out.mono ?_; rintro e w' ⟨rfl, hw⟩; obtain rfl := hw.symm; clear hw))
              refine (sawake_any _).mono ?_
              rintro e w5 ⟨rfl, ho⟩
              have HO5 := hide (o2 HO.out ho)
              clear ho
              go_wp2_with fail
              go_ret
              exact ⟨rfl, HO5.out⟩
            · have hd : decide (m / 4 < g) = false := decide_eq_false hq
              go_wp2_with (first
                | (go_at_call 24; refine CA.out.mono ?_; rintro e w' ⟨rfl, hw⟩; obtain rfl := hw.symm; clear hw)
                | (go_at_call 25; refine CG.out.mono ?_; rintro e w' ⟨rfl, hw⟩; obtain rfl := hw.symm; clear hw))
              go_round
              case rel =>
                refine ⟨j + 1, by omega, by go_num, ?_⟩
                unfold Hid
                rw [HT.out]
                intro n hn
                rcases List.mem_append.1 hn with hn | hn
                · exact HQ.out n hn
                · simp at hn; subst hn; exact ⟨HI.out, by rw [HG.out]; omega⟩
              case measure => simp [intOf]; omega
          · have ha := (xadd_nil (m := m) (x := z)).2 hI
            rw [ha] at CA
            clear ha hI hg
            go_wp2_with (first
              | (go_at_call 24; refine CA.out.mono ?_; rintro e w' ⟨rfl, hw⟩; obtain rfl := hw.symm; clear hw))
            refine (sawake_any _).mono ?_
            rintro e w5 ⟨rfl, ho⟩
            have HO5 := hide (o2 HO.out ho)
            clear ho
            go_wp2_with fail
            go_ret
            exact ⟨rfl, HO5.out⟩
        · have e : l.take j = l := List.take_of_length_le (by omega)
          rw [e] at HQ
          have HH := hide (near_hor HNX.out HQ.out)
          have HNE : Hid (I64 (hor m l)) := HWL.out _ HH.out.1
          obtain ⟨h, hh⟩ : ∃ h, hor m l = h := ⟨_, rfl⟩
          rw [hh] at HH HORW HNE
          have kx0 := (HQO.out.cell (p := ⟨w.heap.size, 0, none⟩) HBL.out (fun h => h)).trans KX0.out
          have kx1 := (HQO.out.cell (p := ⟨w.heap.size, 1, none⟩) HBL.out (fun h => h)).trans KX1.out
          have hjn : ¬ (j : Int) < (l.length : Int) := by omega
          clear e HQ hh HNX
          go_wp2_with fail
          refine HORW.out.mono ?_
          rintro e w5 ⟨rfl, ho⟩
          have HN := hide (HN.out.more ho)
          have HO := hide (o2 HO.out ho)
          clear ho kx0 kx1 HORW
          go_wp2_with fail
          go_loop [11, 12] (fun t y => ∃ (j : Nat) (b : Bool), j ≤ l.length ∧ y = .int .i64 (j : Int) ∧ t = .bool b ∧ Hid (b = true ↔ h ∈ l.take j)) (fun _ y => l.length - (intOf y).toNat)
          case atStart => exact ⟨0, false, by omega, rfl, rfl, by unfold Hid; simp⟩
          case round =>
            obtain ⟨j, b, hj, rfl, rfl, HQ⟩ := hrel
            by_cases hlt : j < l.length
            · obtain ⟨o, e1, c1⟩ := HN.out.at_ (by omega)
              have k1 := c1 j hlt
              obtain ⟨z, hz⟩ : ∃ z, l[j] = z := ⟨_, rfl⟩
              have HT : Hid (l.take (j + 1) = l.take j ++ [z]) := by unfold Hid; rw [List.take_succ_eq_append_getElem hlt, hz]
              have hmem : z ∈ l := by rw [← hz]; exact List.getElem_mem hlt
              have CB := hide (xbefore_any m z h w5 HM.out (HWL.out z hmem) HNE.out)
              rw [HH.out.2 z hmem] at CB
              rw [hz] at k1
              clear c1 hz hmem
              subst e1
              have hjl : (j : Int) < (l.length : Int) := by omega
              by_cases he : z = h
              · subst he
                have g : (z == z) = true := by simp
                cases b <;> (
                  go_wp2_with (first
                    | (go_at_call 27; refine CB.out.mono ?_; rintro e w' ⟨rfl, hw⟩; obtain rfl := hw.symm; clear hw))
                  go_round
                  case rel => exact ⟨j + 1, true, by omega, by go_num, rfl, by unfold Hid; rw [HT.out]; simp⟩
                  case measure => simp [intOf]; omega)
              · have g : (z == h) = false := by simp [he]
                cases b with
                | true =>
                  have HYS : Hid (h ∈ l.take j) := HQ.out.1 rfl
                  go_wp2_with (first
                    | (go_at_call 27; refine CB.out.mono ?_; rintro e w' ⟨rfl, hw⟩; obtain rfl := hw.symm; clear hw))
                  go_round
                  case rel => exact ⟨j + 1, true, by omega, by go_num, rfl, by unfold Hid; rw [HT.out]; simp [HYS.out]⟩
                  case measure => simp [intOf]; omega
                | false =>
                  have HNO : Hid (h ∉ l.take j) := fun hh => by have := HQ.out.2 hh; cases this
                  go_wp2_with (first
                    | (go_at_call 27; refine CB.out.mono ?_; rintro e w' ⟨rfl, hw⟩; obtain rfl := hw.symm; clear hw))
                  go_round
                  case rel => exact ⟨j + 1, false, by omega, by go_num, rfl, by unfold Hid; rw [HT.out]; simp [HNO.out, Ne.symm he]⟩
                  case measure => simp [intOf]; omega
            · have e : l.take j = l := List.take_of_length_le (by omega)
              rw [e] at HQ
              have hb := HQ.out.2 HH.out.1
              subst hb
              have hjn : ¬ (j : Int) < (l.length : Int) := by omega
              go_wp2_with fail
              refine (sawake_any _).mono ?_
              rintro e w6 ⟨rfl, ho⟩
              have HO := hide (o2 HO.out ho)
              clear ho
              go_wp2_with fail
              go_ret
              exact ⟨rfl, HO.out⟩
end Go.Proofs.YtolfmodgkkjnbaaGreat
