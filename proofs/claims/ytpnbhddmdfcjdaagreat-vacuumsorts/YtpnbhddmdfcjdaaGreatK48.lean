/- Parts. -/
import Derived.Test.YtpnbhddmdfcjdaaGreatK44
import Derived.Test.YtpnbhddmdfcjdaaGreatK47
import Derived.ProofKit
import Derived.OpenShut
import Derived.ShutString
import Derived.SizedLaws
import Derived.Deep.Strs
import Derived.Deep.Draws
set_option maxRecDepth 100000
namespace Go.Proofs.YtpnbhddmdfcjdaaGreat
open Go.RowKit
noncomputable def clX (pg : Int) (G : List En) : Rc := open Classical in if G = [] then Rc.none else clR pg (slG G)
noncomputable def clB (G : List En) : Bool := open Classical in if G = [] then false else true
theorem vclean_any (w : World) (pg : Int) (base : Nat) (v0 v1 v2 : Value) (K : Wk) (h : WkAt w base v0 v1 v2 K) (l0 : K.gn.length ≤ 2199023255552) (hr : (slG K.gn).Pairwise (· < ·)) :
    Calls Tryz.prog 12 #[.int .i64 pg, .agg #[v0, v1, v2]] w fun e w' => ∃ L, e = .returned (.tuple #[.agg ((clX pg K.gn).cells L), .bool (clB K.gn)]) ∧ RcAt w' (clX pg K.gn) L ∧ Only (fun _ => False) w w' := by
  obtain ⟨a0, n0, c0, rfl⟩ := h.fr.frm
  obtain ⟨a1, n1, c1, rfl⟩ := h.of.frm
  obtain ⟨a2, c2, rfl⟩ := h.gn.form
  unfold clX clB
  by_cases q : K.gn = []
  · rw [if_pos q, if_pos q, q]
    exact (vclean_no w pg a0 a1 a2 n0 c0 n1 c1 c2).mono (fun e w' ⟨h1, h2⟩ => ⟨nlL, h1, rcAt_none _, h2⟩)
  · rw [if_neg q, if_neg q]
    exact (vclean_yes w pg base a0 a1 a2 n0 c0 n1 c1 c2 K.gn h.gn (by omega) hr q).mono (fun e w' ⟨L, h1, h2, _, h3⟩ => ⟨L, h1, h2, h3⟩)
theorem rclean_any (w : World) (pg : Int) (base : Nat) (v0 v1 v2 : Value) (K : Wk) (h : WkAt w base v0 v1 v2 K) (l0 : K.gn.length ≤ 2199023255552) (hr : (slG K.gn).Pairwise (· < ·)) :
    Calls Tryz.prog 13 #[.int .i64 pg, .agg #[v0, v1, v2]] w fun e w' => ∃ L, e = .returned (.tuple #[.agg ((clX pg K.gn).cells L), .bool (clB K.gn)]) ∧ RcAt w' (clX pg K.gn) L ∧ Only (fun _ => False) w w' := by
  obtain ⟨a0, n0, c0, rfl⟩ := h.fr.frm
  obtain ⟨a1, n1, c1, rfl⟩ := h.of.frm
  obtain ⟨a2, c2, rfl⟩ := h.gn.form
  unfold clX clB
  by_cases q : K.gn = []
  · rw [if_pos q, if_pos q, q]
    exact (rclean_no w pg a0 a1 a2 n0 c0 n1 c1 c2).mono (fun e w' ⟨h1, h2⟩ => ⟨nlL, h1, rcAt_none _, h2⟩)
  · rw [if_neg q, if_neg q]
    exact rclean_yes w pg base a0 a1 a2 n0 c0 n1 c1 c2 K.gn h.gn l0 hr q
/-- Records that have a kind, a page, slots and more, and nothing else. -/
def gR (k p : Int) (S M : List Int) : Rc := ⟨0, 0, 0, k, 0, p, 0, 0, 0, 0, ⟨#[]⟩, S, M, [], [], []⟩
theorem frX_g (pg : Int) (K : Wk) : ∃ k p S M, frX pg K = gR k p S M := by
  unfold frX
  split
  · exact ⟨0, 0, [], [], rfl⟩
  · exact ⟨10, pg, K.fr, K.of, rfl⟩
theorem clX_g (pg : Int) (G : List En) : ∃ k p S M, clX pg G = gR k p S M := by
  unfold clX
  split
  · exact ⟨0, 0, [], [], rfl⟩
  · exact ⟨9, pg, slG G, [], rfl⟩
set_option maxRecDepth 100000 in
set_option maxHeartbeats 800000 in
theorem sameIntsZ_eq (w : World) (B1 B2 : Nat) (a1 a2 : Option Addr) (c1 c2 : Nat) (L : List Int) (h1 : Zs w B1 a1 L) (h2 : Zs w B2 a2 L) :
    Calls Tryz.prog 35 #[.slice a1 L.length c1, .slice a2 L.length c2] w fun e w' => e = .returned (.bool true) ∧ Only (fun _ => False) w w' := by
  have hlen := h1.len
  have H1 := hide h1
  have H2 := hide h2
  clear h1 h2
  go_enter Tryz.func35, Tryz.ntmps35
  go_wp2_with fail
  go_loopw [5] (fun y wr => ∃ (j : Nat), j ≤ L.length ∧ y = .int .i64 (j : Int) ∧ Hid (Only (fun _ => False) w wr)) (fun y _ => L.length - (intOf y).toNat)
  case atStart => exact ⟨0, by omega, rfl, hide (Only.refl _ _)⟩
  case round =>
    obtain ⟨j, hj, rfl, HO⟩ := hrel
    by_cases hlt : j < L.length
    · obtain ⟨o1, e1, q1⟩ := (H1.out.more HO.out).at_ (by omega)
      obtain ⟨o2', e2, q2⟩ := (H2.out.more HO.out).at_ (by omega)
      have k1 := q1 j hlt
      have k2 := q2 j hlt
      obtain ⟨z, hz⟩ : ∃ z, L[j] = z := ⟨_, rfl⟩
      rw [hz] at k1 k2
      have hj0 : (0 : Int) ≤ (j : Int) := by omega
      have hj1 : (j : Int) < (L.length : Int) := by omega
      have HLT := hide hlt
      clear q1 q2 hz
      subst e1
      subst e2
      go_wp2_with fail
      go_region
      go_wp2_with fail
      go_roundw
      case rel => exact ⟨j + 1, HLT.out, by go_num, hide (HO.out.trans (Only.drew _ _) (fun _ _ h => h))⟩
      case measure => have := HLT.out; simp [intOf]; omega
    · go_wp2_with fail
      go_ret
      exact ⟨rfl, HO.out⟩
theorem rec_two (w : World) (R : Rc) (L M : Loc) : Rb ((w.alloc (.cells (R.cells L) 47)).alloc (.cells (R.cells M) 47)) w.heap.size R L ∧ Rb ((w.alloc (.cells (R.cells L) 47)).alloc (.cells (R.cells M) 47)) (w.heap.size + 1) R M ∧ Only (fun _ => False) w ((w.alloc (.cells (R.cells L) 47)).alloc (.cells (R.cells M) 47)) := by
  refine ⟨(Rb.new w R L).more (onlyA _ _), ?_, o2 (onlyA _ _) (onlyA _ _)⟩
  have h := Rb.new (w.alloc (.cells (R.cells L) 47)) R M
  rw [World.size_alloc] at h
  exact h
set_option maxRecDepth 100000 in
set_option maxHeartbeats 3200000 in
theorem record_eq (w : World) (k p : Int) (S M : List Int) (L N : Loc) (h1 : RcAt w (gR k p S M) L) (h2 : RcAt w (gR k p S M) N) :
    Calls Tryz.prog 14 #[.agg ((gR k p S M).cells L), .agg ((gR k p S M).cells N)] w fun e w' => e = .returned (.bool true) ∧ Only (fun _ => False) w w' := by
  have HX := hide (rec_two w (gR k p S M) L N)
  have HS : Hid (∀ W, Only (fun _ => False) w W → Calls Tryz.prog 35 #[.slice L.a1 S.length L.c1, .slice N.a1 S.length N.c1] W fun e w' => e = .returned (.bool true) ∧ Only (fun _ => False) W w') := fun W ho => sameIntsZ_eq W L.b1 N.b1 L.a1 N.a1 L.c1 N.c1 S (h1.slots.more ho) (h2.slots.more ho)
  have HM : Hid (∀ W, Only (fun _ => False) w W → Calls Tryz.prog 35 #[.slice L.a2 M.length L.c2, .slice N.a2 M.length N.c2] W fun e w' => e = .returned (.bool true) ∧ Only (fun _ => False) W w') := fun W ho => sameIntsZ_eq W L.b2 N.b2 L.a2 N.a2 L.c2 N.c2 M (h1.more.more ho) (h2.more.more ho)
  clear h1 h2
  go_enter Tryz.func14, Tryz.ntmps14
  go_upto_region 1 with fail
  obtain ⟨W0, hW0⟩ : ∃ x, (w.alloc (.cells ((gR k p S M).cells L) 47)).alloc (.cells ((gR k p S M).cells N) 47) = x := ⟨_, rfl⟩
  rw [hW0] at HX ⊢
  clear hW0
  obtain ⟨b3, hb3⟩ : ∃ b, w.heap.size + 1 = b := ⟨_, rfl⟩
  rw [hb3] at HX ⊢
  obtain ⟨b2, hb2⟩ : ∃ b, w.heap.size = b := ⟨_, rfl⟩
  rw [hb2] at HX ⊢
  clear hb2 hb3
  have CELLS : Hid (∀ W, Only (fun _ => False) W0 W → (W.cell? ⟨b2, 0, none⟩ = some (.int .i64 0) ∧ W.cell? ⟨b2, 3, none⟩ = some (.int .u8 k) ∧ W.cell? ⟨b2, 4, none⟩ = some (.int .i64 0) ∧ W.cell? ⟨b2, 5, none⟩ = some (.int .i64 p) ∧ W.cell? ⟨b2, 11, none⟩ = some (.slice L.a1 S.length L.c1) ∧ W.cell? ⟨b2, 12, none⟩ = some (.slice L.a2 M.length L.c2) ∧ W.cell? ⟨b2, 13, none⟩ = some (.slice L.a3 0 L.c3)) ∧ (W.cell? ⟨b3, 3, none⟩ = some (.int .u8 k) ∧ W.cell? ⟨b3, 4, none⟩ = some (.int .i64 0) ∧ W.cell? ⟨b3, 5, none⟩ = some (.int .i64 p) ∧ W.cell? ⟨b3, 11, none⟩ = some (.slice N.a1 S.length N.c1) ∧ W.cell? ⟨b3, 12, none⟩ = some (.slice N.a2 M.length N.c2))) := fun W ho => by
    have r := HX.out.1.more ho
    have s := HX.out.2.1.more ho
    exact ⟨⟨r.cell 0 _ rfl, r.cell 3 _ rfl, r.cell 4 _ rfl, r.cell 5 _ rfl, r.cell 11 _ rfl, r.cell 12 _ rfl, r.cell 13 _ rfl⟩, s.cell 3 _ rfl, s.cell 4 _ rfl, s.cell 5 _ rfl, s.cell 11 _ rfl, s.cell 12 _ rfl⟩
  obtain ⟨⟨x0, x3, x4, x5, x11, x12, x13⟩, y3, y4, y5, y11, y12⟩ := CELLS.out W0 (Only.refl _ _)
  go_wp2_with fail
  refine (HS.out _ HX.out.2.2).mono ?_
  rintro e w1 ⟨rfl, ho1⟩
  have HO1 := hide ho1
  clear ho1 x0 x3 x4 x5 x11 x12 x13 y3 y4 y5 y11 y12
  obtain ⟨⟨x0, x3, x4, x5, x11, x12, x13⟩, y3, y4, y5, y11, y12⟩ := CELLS.out w1 HO1.out
  go_wp2_with fail
  refine (HM.out _ (o2 HX.out.2.2 HO1.out)).mono ?_
  rintro e w2 ⟨rfl, ho2⟩
  have HO2 := hide (o2 HO1.out ho2)
  clear ho2 x0 x3 x4 x5 x11 x12 x13 y3 y4 y5 y11 y12
  obtain ⟨⟨x0, x3, x4, x5, x11, x12, x13⟩, y3, y4, y5, y11, y12⟩ := CELLS.out w2 HO2.out
  go_wp2_with fail
  go_ret
  exact ⟨rfl, o2 HX.out.2.2 HO2.out⟩
set_option maxRecDepth 100000 in
set_option maxHeartbeats 1600000 in
theorem tdeadk_any (s : ByteArray) (w : World) (hz : s.size ≤ 140737488355328) :
    Calls Tryz.prog 60 #[.string s] w fun e w' => (∃ K, e = .returned (.tuple #[.string K, .bool (deadK (bl s)).isSome]) ∧ ∀ k, deadK (bl s) = some k → K = k) ∧ Only (fun _ => False) w w' := by
  have hl := bl_len s
  by_cases h0 : s.size = 0
  · have es : s = ⟨#[]⟩ := bl_inj (List.eq_nil_of_length_eq_zero (by omega))
    subst es
    clear h0 hl hz
    go_enter Tryz.func60, Tryz.ntmps60
    go_wp2_with fail
    go_ret2
    exact ⟨⟨_, rfl, fun k h => by cases h⟩, Only.refl _ _⟩
  · have hz0 : 0 < s.size := by omega
    obtain ⟨a, r, h1, h2⟩ := get_first s hz0
    have hne : s.toList.isEmpty = false := by
      rw [ByteArray.toList_eq]
      cases e : s.data.toList with
      | nil => rw [show s.data.toList = bl s from rfl, h1] at e; cases e
      | cons a r => rfl
    by_cases h4 : a = 4
    · have n4 : ((s[0].toNat : Int) != 4) = false := by rw [h2, h4]; rfl
      have t1 : (1 : Int) ≤ (s.size : Int) := by omega
      obtain ⟨D, hD⟩ : ∃ D, s.extract 1 s.size = D := ⟨_, rfl⟩
      have bD : bl D = (bl s).drop 1 := by rw [← hD, ext_blU]; exact List.take_of_length_le (by simp)
      have HSZ : Hid (D.size ≤ maxLen - 100) := by
        have e := bl_len D
        rw [bD, List.length_drop] at e
        unfold Hid maxLen
        omega
      obtain ⟨P, hP⟩ : ∃ P, stx 24 (bl D) 0 = P := ⟨_, rfl⟩
      obtain ⟨K, hK⟩ : ∃ K, str P.1 = K := ⟨_, rfl⟩
      obtain ⟨E, hE⟩ : ∃ E, endE P.2.1 P.2.2 = E := ⟨_, rfl⟩
      obtain ⟨O, hO⟩ : ∃ O, okK K = O := ⟨_, rfl⟩
      have HOK : Hid (∀ W, Calls Tryz.prog 105 #[.string K] W fun e w' => e = .returned (.bool O) ∧ w' = W) := fun W => by
        rw [← hO]
        exact uright_any K W
      have HDE : Hid (deadK (bl s) = if E = 0 ∧ O = true then some K else none) := by
        have e0 : rdT 24 ((bl s).drop 1) = P := by rw [← hP, bD]; rfl
        have e4 : (bl s).head? = some 4 := by rw [h1, h4]; rfl
        unfold Hid deadK endD
        rw [e0, hE, hK, hO, e4]
        simp
      have HP := hide hP
      have HK := hide hK
      have HE := hide hE
      have HD := hide hD
      have HRN := hide (Xs.new w D)
      have HON := hide (onlyA w (.cells #[.string D, .int .i64 0, .int .i64 0] 111))
      clear hD hP hK hE hO bD h1 h2 h4 h0 hl hz
      go_enter Tryz.func60, Tryz.ntmps60
      go_wp2_with fail
      rw [HD.out]
      refine (xtext_st _ _ D (bl D) 0 24 HRN.out HSZ.out).mono ?_
      rintro e w1 ⟨rfl, hr1, ho1⟩
      rw [HP.out] at hr1 ⊢
      rw [HK.out]
      have HR1 := hide hr1
      have HO1 : Hid (Only (fun _ => False) w w1) := HON.out.trans ho1 (fun i hi e => by omega)
      clear hr1 ho1
      go_wp2_with fail
      refine (xend_st _ _ D P.2.1 P.2.2 HR1.out).mono ?_
      rintro e w2 ⟨rfl, ho2⟩
      rw [HE.out]
      have HO2 := hide (o2 HO1.out ho2)
      clear ho2
      by_cases he : E = 0
      · subst he
        have HX : Hid (deadK (bl s) = if O = true then some K else none) := by unfold Hid; rw [HDE.out]; simp
        go_wp2_with fail
        refine (HOK.out _).mono ?_
        rintro e w3 ⟨rfl, hw⟩
        obtain rfl := hw.symm
        clear hw
        cases O
        · go_wp2_with fail
          go_ret2
          exact ⟨⟨K, by rw [HX.out]; rfl, fun k h => by rw [HX.out] at h; cases h⟩, HO2.out⟩
        · go_wp2_with fail
          go_ret2
          exact ⟨⟨K, by rw [HX.out]; rfl, fun k h => by rw [HX.out] at h; simpa using h⟩, HO2.out⟩
      · have he' : (E == 0) = false := by simpa using he
        have HX : Hid (deadK (bl s) = none) := by unfold Hid; rw [HDE.out, if_neg (fun h => he h.1)]
        clear he
        go_wp2_with fail
        go_ret2
        exact ⟨⟨K, by rw [HX.out]; rfl, fun k h => by rw [HX.out] at h; cases h⟩, HO2.out⟩
    · have n4 : ((s[0].toNat : Int) != 4) = true := by rw [h2]; simpa using u8_ne h4
      have HX : Hid (deadK (bl s) = none) := by
        unfold Hid deadK
        rw [if_neg (fun h => ?_)]
        rw [h1] at h
        exact h4 (by simpa using h.1)
      clear h1 h2 h4 h0 hl hz
      go_enter Tryz.func60, Tryz.ntmps60
      go_wp2_with fail
      go_ret2
      exact ⟨⟨⟨#[]⟩, by rw [HX.out]; rfl, fun k h => by rw [HX.out] at h; cases h⟩, Only.refl _ _⟩
set_option maxRecDepth 100000 in
set_option maxHeartbeats 1600000 in
theorem tkey_any (s : ByteArray) (w : World) (hz : s.size ≤ 140737488355328) :
    Calls Tryz.prog 30 #[.string s] w fun e w' => e = .returned (outK (keyT (bl s))) ∧ Only (fun _ => False) w w' := by
  have HC := hide (tdecode_any s w hz)
  have HDK : Hid (∀ W, Calls Tryz.prog 60 #[.string s] W fun e w' => (∃ K, e = .returned (.tuple #[.string K, .bool (deadK (bl s)).isSome]) ∧ ∀ k, deadK (bl s) = some k → K = k) ∧ Only (fun _ => False) W w') := fun W => tdeadk_any s W hz
  unfold keyT
  cases hd : decT (bl s) with
  | none =>
    rw [hd, outT_none] at HC
    simp only
    obtain ⟨o, ho⟩ : ∃ o, deadK (bl s) = o := ⟨_, rfl⟩
    rw [ho] at HDK ⊢
    clear hd ho hz
    go_enter Tryz.func30, Tryz.ntmps30
    go_wp2_with fail
    refine HC.out.mono ?_
    rintro e w1 ⟨rfl, ho1⟩
    have HO1 := hide ho1
    clear ho1
    go_wp2_with fail
    refine (HDK.out _).mono ?_
    rintro e w2 ⟨⟨K, rfl, hK⟩, ho2⟩
    have HO2 := hide (o2 (o2 HO1.out (onlyA _ _)) ho2)
    have HKK := hide hK
    clear ho2 hK
    cases o with
    | none =>
      simp only [Option.isSome_none]
      go_wp2_with fail
      go_ret2
      exact ⟨rfl, HO2.out⟩
    | some k =>
      have e := HKK.out k rfl
      subst e
      simp only [Option.isSome_some]
      clear HKK
      go_wp2_with fail
      go_ret2
      exact ⟨rfl, HO2.out⟩
  | some t =>
    rw [hd, outT_some] at HC
    simp only
    rw [outK_some]
    clear hd HDK hz
    go_enter Tryz.func30, Tryz.ntmps30
    go_wp2_with fail
    refine HC.out.mono ?_
    rintro e w1 ⟨rfl, ho1⟩
    have HO1 := hide ho1
    clear ho1
    go_wp2_with fail
    go_ret2
    exact ⟨rfl, o2 HO1.out (onlyA _ _)⟩
set_option maxRecDepth 100000 in
set_option maxHeartbeats 1600000 in
theorem tstate_any (s : ByteArray) (w : World) (hz : s.size ≤ 140737488355328) :
    Calls Tryz.prog 29 #[.string s] w fun e w' => e = .returned (.int .u8 (stT (bl s))) ∧ Only (fun _ => False) w w' := by
  have HC := hide (tdecode_any s w hz)
  have HDK : Hid (∀ W, Calls Tryz.prog 60 #[.string s] W fun e w' => (∃ K, e = .returned (.tuple #[.string K, .bool (deadK (bl s)).isSome]) ∧ ∀ k, deadK (bl s) = some k → K = k) ∧ Only (fun _ => False) W w') := fun W => tdeadk_any s W hz
  have he : s.toList.isEmpty = decide (bl s = []) := by
    rw [ByteArray.toList_eq]
    show (bl s).isEmpty = _
    cases bl s <;> rfl
  unfold stT
  obtain ⟨o, ho⟩ : ∃ o, decT (bl s) = o := ⟨_, rfl⟩
  obtain ⟨b, hb⟩ : ∃ b, (deadK (bl s)).isSome = b := ⟨_, rfl⟩
  rw [ho] at HC ⊢
  rw [hb] at HDK ⊢
  clear ho hb hz
  cases o with
  | none =>
    rw [outT_none] at HC
    by_cases h0 : bl s = []
    · rw [decide_eq_true h0] at he
      rw [if_pos h0]
      clear h0
      cases b
      all_goals
        go_enter Tryz.func29, Tryz.ntmps29
        go_wp2_with fail
        refine HC.out.mono ?_
        rintro e w1 ⟨rfl, ho1⟩
        have HO1 := hide ho1
        clear ho1
        go_wp2_with fail
        refine (HDK.out _).mono ?_
        rintro e w2 ⟨⟨K, rfl, hK⟩, ho2⟩
        have HO2 := hide (o2 (o2 HO1.out (onlyA _ _)) ho2)
        clear ho2 hK
        go_wp2_with fail
        go_ret
        exact ⟨rfl, HO2.out⟩
    · rw [decide_eq_false h0] at he
      rw [if_neg h0]
      clear h0
      cases b
      all_goals
        go_enter Tryz.func29, Tryz.ntmps29
        go_wp2_with fail
        refine HC.out.mono ?_
        rintro e w1 ⟨rfl, ho1⟩
        have HO1 := hide ho1
        clear ho1
        go_wp2_with fail
        refine (HDK.out _).mono ?_
        rintro e w2 ⟨⟨K, rfl, hK⟩, ho2⟩
        have HO2 := hide (o2 (o2 HO1.out (onlyA _ _)) ho2)
        clear ho2 hK
        go_wp2_with fail
        go_ret
        exact ⟨rfl, HO2.out⟩
  | some t =>
    rw [outT_some] at HC
    clear he
    go_enter Tryz.func29, Tryz.ntmps29
    go_wp2_with fail
    refine HC.out.mono ?_
    rintro e w1 ⟨rfl, ho1⟩
    have HO1 := hide ho1
    clear ho1
    go_wp2_with fail
    refine (HDK.out _).mono ?_
    rintro e w2 ⟨⟨K, rfl, hK⟩, ho2⟩
    have HO2 := hide (o2 (o2 HO1.out (onlyA _ _)) ho2)
    clear ho2 hK
    go_wp2_with fail
    go_ret
    exact ⟨rfl, HO2.out⟩
end Go.Proofs.YtpnbhddmdfcjdaaGreat
namespace Go.Proofs.YtpnbhddmdfcjdaaGreat
open Go.ChangeShapes Go.WideShapes Go.ChangeAt Go.RowKit Go.Deep
theorem Tryz.laidOut : laidOutB Tryz.prog = true := by kernel_rfl
theorem Tryz.cellsInt : Tryz.prog.cellsOf 3 = 1 := by kernel_rfl
theorem Tryz.cellsBool : Tryz.prog.cellsOf 4 = 1 := by kernel_rfl
theorem Tryz.cellsSt : Tryz.prog.cellsOf 58 = 1 := by kernel_rfl
theorem Tryz.cellsInts : Tryz.prog.cellsOf 25 = 1 := by kernel_rfl
theorem Tryz.cellsSaid : Tryz.prog.cellsOf 60 = 2 := by kernel_rfl
theorem Tryz.cellsSaids : Tryz.prog.cellsOf 22 = 1 := by kernel_rfl
theorem Tryz.cellsSPage : Tryz.prog.cellsOf 24 = 3 := by kernel_rfl
theorem Tryz.cellsStr : Tryz.prog.cellsOf 9 = 1 := by kernel_rfl
theorem Tryz.cellsStrs : Tryz.prog.cellsOf 28 = 1 := by kernel_rfl
theorem Tryz.bytesStr : Tryz.prog.bytesOf 9 = 16 := by kernel_rfl
theorem cell_spot {w : World} {a : Addr} {v : Value} (h : w.cell? a = some v) : a = ⟨a.block, a.off, none⟩ := by
  obtain ⟨b, o, s⟩ := a
  cases s with
  | none => rfl
  | some q =>
    unfold World.cell? at h
    split at h
    · simp at h
    · simp at h
theorem weightsAll_mem {H : Type} {P : Program} {e : TypeId} {d : DataW H} {l : List (DataW H)} {n : Nat} (hd : d ∈ l) (hn : n ∈ d.weights P e) : n ∈ DataW.weightsAll P e l := by
  induction l with
  | nil => cases hd
  | cons x t ih =>
    rw [DataW.weightsAll, List.mem_append]
    rcases List.mem_cons.1 hd with rfl | h
    · exact .inl hn
    · exact .inr (ih h)
theorem strs_of_trod {H : Type} {enc : TypeId × Value → H} {W : World} {c : Value} {x : DataW H × List MemPlace} {n : Nat} (h : DataW.trod enc Tryz.prog W 0 (fun _ => true) true n 28 [c] = some x) (hw : ∀ m ∈ x.1.weights Tryz.prog 28, m ≤ reachBytes) :
    ∃ (B : Nat) (ao : Option Addr) (cp : Nat) (l : List ByteArray), c = .slice ao l.length cp ∧ Strs W B ao l ∧ Fit ao l.length cp ∧ l.length ≤ 8796093021952 := by
  rcases open_strs Tryz.underlying28 Tryz.underlying9 Tryz.cellsStr h with ⟨hcs, _⟩ | ⟨ad, len, cap, m, Sx, hcs, _, hl, hm, hmm, hx, hc⟩
  · simp at hcs
    subst hcs
    exact ⟨0, none, 0, [], rfl, Strs.nil _ _ _, ⟨fun _ => rfl, by simp, (by unfold maxLen; omega)⟩, by simp⟩
  · simp at hcs hmm
    subst hcs
    subst hmm
    rw [hx] at hw
    simp only [DataW.weights, Tryz.underlying28, Tryz.bytesStr] at hw
    have hwb := hw ((((List.range len).map fun i => DataW.lit (H := H) (.string (Sx i).data.toList)).length + ((List.range (m - len)).map fun j => DataW.lit (H := H) (.string (Sx (len + j)).data.toList)).length) * 16) (by simp)
    simp only [List.length_map, List.length_range] at hwb
    have hlen : ((List.range len).map Sx).length = len := by simp
    have hwr : reachBytes = 140737488351232 := by decide
    refine ⟨ad.block, some ad, m, (List.range len).map Sx, by rw [hlen], ⟨fun h0 => ?_, fun h0 => ?_, by rw [hlen]; omega, fun s hs => ?_⟩, ⟨(fun h => by cases h), (by rw [hlen]; exact hl), hm⟩, by rw [hlen]; omega⟩
    · rw [hlen] at h0
      have c0 := (hc 0 (by omega)).1
      have e0 : ad.add 0 = ad := by unfold Addr.add; split <;> simp_all
      rw [e0] at c0
      have ha := cell_spot c0
      refine ⟨ad.off, by rw [← ha], fun j hj => ?_⟩
      rw [hlen] at hj
      have cj := (hc j (by omega)).1
      rw [ha, add_at] at cj
      rw [cj]
      simp
    · rw [hlen] at h0
      have c0 := (hc 0 (by omega)).1
      have e0 : ad.add 0 = ad := by unfold Addr.add; split <;> simp_all
      rw [e0] at c0
      exact World.block_lt_of_cell? W _ c0
    · obtain ⟨i, hi, rfl⟩ := List.mem_map.1 hs
      have hmem : (DataW.lit (H := H) (.string (Sx i).data.toList)) ∈ (List.range len).map fun i => DataW.lit (H := H) (.string (Sx i).data.toList) := List.mem_map.2 ⟨i, hi, rfl⟩
      have := hw (Sx i).data.toList.length (by
        refine List.mem_cons_of_mem _ (List.mem_append.2 (.inl (weightsAll_mem hmem ?_)))
        simp [DataW.weights])
      rw [show (Sx i).data.toList.length = (Sx i).size from bl_len _] at this
      omega
theorem sized_mem {H : Type} {ts : List TypeId} {ds : List (DataW H)} (h : (DataW.weightsEach Tryz.prog ts ds).all (· ≤ reachBytes) = true) {j : Nat} {t : TypeId} {d : DataW H} (ht : ts[j]? = some t) (hd : ds[j]? = some d) : ∀ n ∈ d.weights Tryz.prog t, n ≤ reachBytes := by
  intro n hn
  have := List.all_eq_true.1 h _ (DataW.weights_mem_each ht hd n hn)
  simpa using this
theorem Tryz.cellsSnapshot : Tryz.prog.cellsOf 27 = 2 := by kernel_rfl
theorem sadd_at (b o j : Nat) : (⟨b, o, none⟩ : Addr).add j = ⟨b, o + j, none⟩ := by simp [Addr.add]
theorem sadd_nought (a : Addr) : a.add 0 = a := by simp [Addr.add]
set_option maxRecDepth 100000 in
theorem ns_of_trod {H : Type} {enc : TypeId × Value → H} {W : World} {c : Value} {x : DataW H × List MemPlace} {n : Nat} (h : DataW.trod enc Tryz.prog W 0 (fun _ => true) true n 25 [c] = some x) :
    ∃ (B : Nat) (ao : Option Addr) (cp : Nat) (l : List Int), c = .slice ao l.length cp ∧ Nz W B ao l ∧ (ao = none → cp = 0) := by
  rcases open_slice Tryz.underlying25 h with ⟨hcs, hx⟩ | ⟨a', len, cap, m, n, D, Pl, hcs, hb, hl, hm, hmm, hx, hit⟩
  · simp at hcs
    subst hcs
    exact ⟨0, none, 0, [], rfl, Nz.nil _ _ _, fun _ => rfl⟩
  · simp at hcs
    subst hcs
    have hlm : len ≤ m := by rw [hmm]; split <;> omega
    have one : ∀ i, i < len → ∃ z : Int, W.cell? (a'.add i) = some (.int .i64 z) ∧ I64 z := fun i hi => by
      obtain ⟨cs', h1, h2⟩ := hit i (by omega)
      rw [Tryz.cellsInt] at h1
      obtain ⟨_, hlen, hcell⟩ := World.cells?_some h1
      match cs', hlen with
      | [v0], _ =>
        obtain ⟨z, e0, _, wz⟩ := DataW.trod_int Tryz.underlying3 h2
        simp at e0
        subst e0
        have c0 := hcell 0 (by omega)
        rw [sadd_nought, Nat.mul_one] at c0
        have b0 := bounds_i64 wz
        exact ⟨z, by simpa using c0, b0.1, by omega⟩
    obtain ⟨q, hq⟩ := choose_lt (n := len) one
    have hlen : ((List.range len).map q).length = len := by simp
    have hmx : maxLen = 9223372036854775807 := rfl
    refine ⟨a'.block, some a', cap, (List.range len).map q, by rw [hlen], ⟨fun h0 => ?_, fun x hx => ?_, fun h0 => ?_, by rw [hlen]; omega⟩, fun h => by cases h⟩
    · rw [hlen] at h0
      have c0 := (hq 0 (by omega)).1
      rw [sadd_nought] at c0
      have ha := cell_spot c0
      refine ⟨a'.off, by rw [← ha], fun j hj => ?_⟩
      rw [hlen] at hj
      have cj := (hq j (by omega)).1
      rw [ha, sadd_at] at cj
      rw [cj]
      simp
    · obtain ⟨i, hi, rfl⟩ := List.mem_map.1 hx
      exact (hq i (by simpa using hi)).2
    · rw [hlen] at h0
      have c0 := (hq 0 (by omega)).1
      rw [sadd_nought] at c0
      exact World.block_lt_of_cell? W _ c0
set_option maxRecDepth 100000 in
theorem said_of_trod {H : Type} {enc : TypeId × Value → H} {W : World} {sp : Nat → Bool} {hd : Bool} {cs : List Value} {x : DataW H × List MemPlace} {n : Nat} (h : DataW.trod enc Tryz.prog W 0 sp hd n 60 cs = some x) (hl : cs.length = 2) :
    ∃ q : Int × Nat, cs = [.int .i64 q.1, .int .u8 (q.2 : Int)] ∧ I64 q.1 ∧ q.2 < 256 := by
  obtain ⟨y0, y1, m, _, _, g0, g1⟩ := trod_struct2 Tryz.underlying60 h
  match cs, hl with
  | [v0, v1], _ =>
    simp [Tryz.cellsInt, Tryz.cellsSt] at g0 g1
    obtain ⟨z, e1, _, wz⟩ := DataW.trod_int Tryz.underlying3 g0
    obtain ⟨s, e2, _, ws⟩ := DataW.trod_int Tryz.underlying58 g1
    simp at e1 e2
    subst e1 e2
    have b0 := bounds_u8 ws
    have b1 := bounds_i64 wz
    have hs : ((s.toNat : Nat) : Int) = s := by omega
    exact ⟨(z, s.toNat), by simp only [hs], ⟨b1.1, by show z < _; omega⟩, by show s.toNat < 256; omega⟩
set_option maxRecDepth 100000 in
theorem saids_of_trod {H : Type} {enc : TypeId × Value → H} {W : World} {c : Value} {x : DataW H × List MemPlace} {fuel : Nat} (h : DataW.trod enc Tryz.prog W 0 (fun _ => true) true fuel 22 [c] = some x) :
    ∃ (B : Nat) (ao : Option Addr) (n cap : Nat) (X : Nat → Int) (S : Nat → Nat), c = .slice ao n cap ∧ Sds W B ao n X S := by
  rcases open_slice Tryz.underlying22 h with ⟨hcs, hx⟩ | ⟨a', len, cap, m, n, D, Pl, hcs, hb, hl, hm, hmm, hx, hit⟩
  · simp at hcs
    subst hcs
    exact ⟨0, none, 0, 0, fun _ => 0, fun _ => 0, rfl, ⟨fun h => by omega, fun j h => by omega, fun h => by omega, by omega⟩⟩
  · simp at hcs
    subst hcs
    have hlm : len ≤ m := by rw [hmm]; split <;> omega
    have each : ∀ i, i < len → ∃ q : Int × Nat, W.cell? (a'.add (i * 2)) = some (.int .i64 q.1) ∧ W.cell? (a'.add (i * 2 + 1)) = some (.int .u8 (q.2 : Int)) ∧ I64 q.1 ∧ q.2 < 256 := by
      intro i hi
      obtain ⟨cs', h1, h2⟩ := hit i (by omega)
      rw [Tryz.cellsSaid] at h1
      obtain ⟨_, hlen, hcell⟩ := World.cells?_some h1
      obtain ⟨q, e, k1, k2⟩ := said_of_trod h2 hlen
      subst e
      have c0 := hcell 0 (by omega)
      have c1 := hcell 1 (by omega)
      rw [add_add] at c0 c1
      exact ⟨q, by simpa using c0, by simpa using c1, k1, k2⟩
    obtain ⟨q, hq⟩ := choose_lt (n := len) each
    have hlen : len < 9223372036854775808 := by
      have hmx : maxLen = 9223372036854775807 := rfl
      omega
    by_cases h0 : len = 0
    · subst h0
      exact ⟨0, some a', 0, cap, fun _ => 0, fun _ => 0, rfl, ⟨fun h => by omega, fun j h => by omega, fun h => by omega, by omega⟩⟩
    · have z0 := (hq 0 (by omega)).1
      rw [Nat.zero_mul, sadd_nought] at z0
      have e : a' = ⟨a'.block, a'.off, none⟩ := cell_spot z0
      have hbl := World.block_lt_of_cell? W _ z0
      obtain ⟨bb, oo, ss⟩ := a'
      simp at e
      subst e
      refine ⟨bb, some ⟨bb, oo, none⟩, len, cap, fun i => (q i).1, fun i => (q i).2, rfl, ⟨fun _ => ⟨oo, rfl, fun j hj => ?_⟩, fun j hj => (hq j hj).2.2, fun _ => hbl, hlen⟩⟩
      obtain ⟨c0, c1, _⟩ := hq j hj
      rw [sadd_at] at c0 c1
      exact ⟨c0, c1⟩
set_option maxRecDepth 100000 in
theorem open_spage {H : Type} {enc : TypeId × Value → H} {W : World} {base : Nat} {v : Value} {d : DataW H} {ps : List MemPlace} (hok : Value.okWide Tryz.prog W .any base 24 v) (h : DataW.Trod enc Tryz.prog W 0 (fun _ => true) true 24 v d ps) :
    ∃ (m fr : Int) (B : Nat) (ao : Option Addr) (n cap : Nat) (X : Nat → Int) (S : Nat → Nat), v = .agg #[.int .i64 m, .int .i64 fr, .slice ao n cap] ∧ I64 m ∧ I64 fr ∧ Sds W B ao n X S := by
  obtain ⟨cs, rfl, hs⟩ := okWide_struct Tryz.underlying24 hok
  obtain ⟨fuel, hf⟩ := h
  rw [Tryz.cellsSPage] at hs
  obtain ⟨y0, y1, y2, n, _, _, g0, g1, g2⟩ := trod_struct3 Tryz.underlying24 hf
  obtain ⟨c0, c1, c2, rfl⟩ : ∃ c0 c1 c2, cs = #[c0, c1, c2] := by
    obtain ⟨l⟩ := cs
    match l, hs with
    | [a, b, c], _ => exact ⟨a, b, c, rfl⟩
  simp [Value.cells, Tryz.cellsInt, Tryz.cellsSaids] at g0 g1 g2
  obtain ⟨x, e0, _, w0⟩ := DataW.trod_int Tryz.underlying3 g0
  obtain ⟨y, e1, _, w1⟩ := DataW.trod_int Tryz.underlying3 g1
  obtain ⟨B, ao, k, cap, X, S, e2, hS⟩ := saids_of_trod g2
  simp at e0 e1
  subst e0 e1 e2
  have b0 := bounds_i64 w0
  have b1 := bounds_i64 w1
  exact ⟨x, y, B, ao, k, cap, X, S, rfl, ⟨b0.1, by omega⟩, ⟨b1.1, by omega⟩, hS⟩
set_option maxRecDepth 100000 in
theorem page_of_trod {H : Type} {enc : TypeId × Value → H} {W : World} {c0 c1 c2 c3 c4 c5 : Value} {x : DataW H × List MemPlace} {n : Nat} (h : DataW.trod enc Tryz.prog W 0 (fun _ => true) true n 30 [c0, c1, c2, c3, c4, c5] = some x) (hw : ∀ m ∈ x.1.weights Tryz.prog 30, m ≤ reachBytes) :
    ∃ (p : Pg) (B : Nat) (ao : Option Addr) (cp : Nat), c0 = .int .i64 p.lsn ∧ c1 = .int .i64 p.kind ∧ c2 = .int .i64 p.level ∧ c3 = .int .i64 p.right ∧ c4 = .string p.high ∧ c5 = .slice ao p.items.length cp ∧ Strs W B ao p.items ∧ Fit ao p.items.length cp := by
  obtain ⟨xs, n', _, hx, _, hlen, hfs⟩ := DataW.trod_struct Tryz.underlying30 h
  match xs, hlen with
  | [y0, y1, y2, y3, y4, y5], _ =>
    have g0 := hfs 0 _ rfl
    have g1 := hfs 1 _ rfl
    have g2 := hfs 2 _ rfl
    have g3 := hfs 3 _ rfl
    have g4 := hfs 4 _ rfl
    have g5 := hfs 5 _ rfl
    simp [Tryz.cellsInt, Tryz.cellsStr, Tryz.cellsStrs] at g0 g1 g2 g3 g4 g5
    obtain ⟨a, e0, _, w0⟩ := DataW.trod_int Tryz.underlying3 g0
    obtain ⟨k, e1, _, w1⟩ := DataW.trod_int Tryz.underlying3 g1
    obtain ⟨u, e2, _, w2⟩ := DataW.trod_int Tryz.underlying3 g2
    obtain ⟨r, e3, _, w3⟩ := DataW.trod_int Tryz.underlying3 g3
    obtain ⟨h, e4, f4, _⟩ := DataW.trod_string Tryz.underlying9 g4
    simp at e0 e1 e2 e3 e4
    rw [hx] at hw
    simp only [DataW.weights, Tryz.underlying30] at hw
    have hw5 : ∀ m ∈ y5.1.weights Tryz.prog 28, m ≤ reachBytes := fun m hm => hw m (DataW.weights_mem_each (j := 5) (t := 28) (d := y5.1) rfl rfl m hm)
    obtain ⟨B, ao, cp, l, e5, hS, hF, hL⟩ := strs_of_trod g5 hw5
    exact ⟨⟨a, k, u, r, h, l⟩, B, ao, cp, e0, e1, e2, e3, e4, e5, hS, hF⟩
set_option maxRecDepth 100000 in
theorem open_view {H : Type} {enc : TypeId × Value → H} {W : World} {base : Nat} {v : Value} {d : DataW H} {ps : List MemPlace} (hok : Value.okWide Tryz.prog W .any base 32 v) (h : DataW.Trod enc Tryz.prog W 0 (fun _ => true) true 32 v d ps)
    (hw : ∀ m ∈ d.weights Tryz.prog 32, m ≤ reachBytes) : ∃ (V : Vw) (q : Lo), v = .agg #[.int .i64 V.m, .int .i64 V.next, .slice q.aA V.act.length q.cA, .int .i64 V.own, .slice q.aR V.run.length q.cR, .int .i64 V.pg.lsn, .int .i64 V.pg.kind, .int .i64 V.pg.level, .int .i64 V.pg.right, .string V.pg.high, .slice q.aP V.pg.items.length q.cP] ∧ Sn W V q := by
  obtain ⟨cs, rfl, hs⟩ := okWide_struct Tryz.underlying32 hok
  obtain ⟨fuel, hf⟩ := h
  rw [Tryz.cellsView] at hs
  obtain ⟨xs, n, _, hx, _, hlen, hfs⟩ := DataW.trod_struct Tryz.underlying32 hf
  obtain ⟨c0, c1, c2, c3, c4, c5, c6, c7, c8, c9, c10, rfl⟩ : ∃ c0 c1 c2 c3 c4 c5 c6 c7 c8 c9 c10, cs = #[c0, c1, c2, c3, c4, c5, c6, c7, c8, c9, c10] := by
    obtain ⟨l⟩ := cs
    match l, hs with
    | [c0, c1, c2, c3, c4, c5, c6, c7, c8, c9, c10], _ => exact ⟨c0, c1, c2, c3, c4, c5, c6, c7, c8, c9, c10, rfl⟩
  match xs, hlen with
  | [y0, y1, y2, y3, y4], _ =>
    simp only [Prod.mk.injEq] at hx
    have g0 := hfs 0 _ rfl
    have g1 := hfs 1 _ rfl
    have g2 := hfs 2 _ rfl
    have g3 := hfs 3 _ rfl
    have g4 := hfs 4 _ rfl
    simp [Value.cells, Tryz.cellsInt, Tryz.cellsInts, Tryz.cellsSnapshot, Tryz.cellsPage] at g0 g1 g2 g3 g4
    obtain ⟨a, e0, _, w0⟩ := DataW.trod_int Tryz.underlying3 g0
    obtain ⟨z0, z1, n2, _, _, k0, k1⟩ := trod_struct2 Tryz.underlying27 g1
    simp [Tryz.cellsInt, Tryz.cellsInts] at k0 k1
    obtain ⟨b, e1, _, w1⟩ := DataW.trod_int Tryz.underlying3 k0
    obtain ⟨BA, aA, cA, lA, e2, hA, _⟩ := ns_of_trod k1
    obtain ⟨c, e3, _, w3⟩ := DataW.trod_int Tryz.underlying3 g2
    obtain ⟨BR, aR, cR, lR, e4, hR, _⟩ := ns_of_trod g3
    rw [hx.1] at hw
    simp only [DataW.weights, Tryz.underlying32] at hw
    have hw4 : ∀ m ∈ y4.1.weights Tryz.prog 30, m ≤ reachBytes := fun m hm => hw m (DataW.weights_mem_each (j := 4) (t := 30) (d := y4.1) rfl rfl m hm)
    obtain ⟨p, BP, aP, cP, f0, f1, f2, f3, f4, f5, hP, hF⟩ := page_of_trod g4 hw4
    simp at e0 e1 e3
    subst e0 e1 e2 e3 e4 f0 f1 f2 f3 f4 f5
    have b0 := bounds_i64 w0
    have b1 := bounds_i64 w1
    have b3 := bounds_i64 w3
    exact ⟨⟨a, b, lA, c, lR, p⟩, ⟨BA, aA, cA, BR, aR, cR, BP, aP, cP⟩, rfl, ⟨hA, hR, hP, hF, ⟨b0.1, by show a < _; omega⟩, ⟨b1.1, by show b < _; omega⟩, ⟨b3.1, by show c < _; omega⟩⟩⟩
theorem slice_reachI {H : Type} {enc : TypeId × Value → H} {W : World} {t e : TypeId} {c : Value} {x : DataW H × List MemPlace} {n : Nat} (ht : Tryz.prog.underlying t = some (.slice e)) (h : DataW.trod enc Tryz.prog W 0 (fun _ => true) true n t [c] = some x) (hw : ∀ m ∈ x.1.weights Tryz.prog t, m ≤ reachBytes) :
    c = .slice none 0 0 ∨ ∃ (a : Addr) (len cap m : Nat) (D : Nat → DataW H) (Pl : Nat → List MemPlace), c = .slice (some a) len cap ∧ len ≤ cap ∧ cap ≤ maxLen ∧ cap * Tryz.prog.bytesOf e ≤ reachBytes ∧
      (∀ i, i < cap → ∃ cs', W.cells? 0 (a.add (i * Tryz.prog.cellsOf e)) (Tryz.prog.cellsOf e) = some cs' ∧ DataW.trod enc Tryz.prog W 0 (fun _ => true) true m e cs' = some (D i, Pl i)) ∧
      (∀ i, i < len → ∀ k ∈ (D i).weights Tryz.prog e, k ≤ reachBytes) := by
  rcases open_slice ht h with ⟨hcs, hx⟩ | ⟨a', len', cap', m, n', D, Pl, hcs, hb', hl, hm, hmm, hx, hit⟩
  · simp at hcs
    exact .inl hcs
  · simp at hcs hmm
    subst hmm
    rw [hx] at hw
    simp only [DataW.weights, ht] at hw
    have hwb := hw ((((List.range len').map D).length + ((List.range (m - len')).map fun j => D (len' + j)).length) * Tryz.prog.bytesOf e) (by simp)
    simp only [List.length_map, List.length_range] at hwb
    have e1 : len' + (m - len') = m := by omega
    rw [e1] at hwb
    refine .inr ⟨a', len', m, n', D, Pl, hcs, hl, hm, hwb, hit, fun i hi k hk => ?_⟩
    refine hw k (List.mem_cons_of_mem _ (List.mem_append.2 (.inl (weightsAll_mem (d := D i) (List.mem_map.2 ⟨i, List.mem_range.2 hi, rfl⟩) hk))))
theorem Tryz.cellsSlotT : Tryz.prog.cellsOf 64 = 7 := by kernel_rfl
theorem Tryz.bytesSlotT : Tryz.prog.bytesOf 64 = 80 := by kernel_rfl
theorem Tryz.cellsTupleI : Tryz.prog.cellsOf 62 = 5 := by kernel_rfl
set_option maxRecDepth 100000 in
theorem tuple_of_trodI {H : Type} {enc : TypeId × Value → H} {W : World} {c0 c1 c2 c3 c4 : Value} {x : DataW H × List MemPlace} {n : Nat} (h : DataW.trod enc Tryz.prog W 0 (fun _ => true) true n 62 [c0, c1, c2, c3, c4] = some x) :
    ∃ t : Tu, c0 = .int .i64 t.xmin ∧ c1 = .int .i64 t.xmax ∧ c2 = .bool t.frozen ∧ c3 = .string t.key ∧ c4 = .string t.value ∧ I64 t.xmin ∧ I64 t.xmax := by
  obtain ⟨xs, n, _, hx, _, hlen, hfs⟩ := DataW.trod_struct Tryz.underlying62 h
  match xs, hlen with
  | [y0, y1, y2, y3, y4], _ =>
    have g0 := hfs 0 _ rfl
    have g1 := hfs 1 _ rfl
    have g2 := hfs 2 _ rfl
    have g3 := hfs 3 _ rfl
    have g4 := hfs 4 _ rfl
    simp [Tryz.cellsInt, Tryz.cellsStr, Tryz.cellsBool] at g0 g1 g2 g3 g4
    obtain ⟨a, e0, _, w0⟩ := DataW.trod_int Tryz.underlying3 g0
    obtain ⟨b, e1, _, w1⟩ := DataW.trod_int Tryz.underlying3 g1
    obtain ⟨c, e2, _⟩ := DataW.trod_bool Tryz.underlying4 g2
    obtain ⟨k, e3, _, _⟩ := DataW.trod_string Tryz.underlying9 g3
    obtain ⟨u, e4, _, _⟩ := DataW.trod_string Tryz.underlying9 g4
    simp at e0 e1 e2 e3 e4
    have b0 := bounds_i64 w0
    have b1 := bounds_i64 w1
    exact ⟨⟨a, b, c, k, u⟩, e0, e1, e2, e3, e4, ⟨b0.1, by show a < _; omega⟩, ⟨b1.1, by show b < _; omega⟩⟩
set_option maxRecDepth 100000 in
theorem slot_of_trod {H : Type} {enc : TypeId × Value → H} {W : World} {cs : List Value} {x : DataW H × List MemPlace} {n : Nat} (h : DataW.trod enc Tryz.prog W 0 (fun _ => true) true n 64 cs = some x) (hl : cs.length = 7) (hw : ∀ m ∈ x.1.weights Tryz.prog 64, m ≤ reachBytes) :
    ∃ s : Sv, cs = s.cl ∧ I64 s.kind ∧ I64 s.t.xmin ∧ I64 s.t.xmax ∧ s.raw.size ≤ 140737488355328 := by
  obtain ⟨xs, n, _, hx, _, hlen, hfs⟩ := DataW.trod_struct Tryz.underlying64 h
  match cs, hl with
  | [v0, v1, v2, v3, v4, v5, v6], _ =>
    match xs, hlen with
    | [y0, y1, y2], _ =>
      have g0 := hfs 0 _ rfl
      have g1 := hfs 1 _ rfl
      have g2 := hfs 2 _ rfl
      simp [Tryz.cellsInt, Tryz.cellsStr, Tryz.cellsTupleI] at g0 g1 g2
      obtain ⟨a, e0, _, w0⟩ := DataW.trod_int Tryz.underlying3 g0
      obtain ⟨t, e1, e2, e3, e4, e5, k1, k2⟩ := tuple_of_trodI g1
      obtain ⟨r, e6, f6, _⟩ := DataW.trod_string Tryz.underlying9 g2
      simp at e0 e6
      subst e0 e1 e2 e3 e4 e5 e6
      have b0 := bounds_i64 w0
      rw [hx] at hw
      simp only [DataW.weights, Tryz.underlying64] at hw
      have hr : ∀ m ∈ y2.1.weights Tryz.prog 9, m ≤ reachBytes := fun m hm => hw m (DataW.weights_mem_each (j := 2) (t := 9) (d := y2.1) rfl rfl m hm)
      have hwr : reachBytes = 140737488351232 := by decide
      have hs := hr r.size (by rw [f6]; simp [DataW.weights])
      exact ⟨⟨a, t, r⟩, rfl, ⟨b0.1, by show a < _; omega⟩, k1, k2, by show r.size ≤ _; omega⟩
set_option maxRecDepth 100000 in
theorem open_slots {H : Type} {enc : TypeId × Value → H} {W : World} {base : Nat} {v : Value} {d : DataW H} {ps : List MemPlace} (hok : Value.okWide Tryz.prog W .any base 33 v) (h : DataW.Trod enc Tryz.prog W 0 (fun _ => true) true 33 v d ps)
    (hw : ∀ m ∈ d.weights Tryz.prog 33, m ≤ reachBytes) : ∃ (B : Nat) (ao : Option Addr) (cp : Nat) (l : List Sv), v = .slice ao l.length cp ∧ Svs W B ao l := by
  obtain ⟨fuel, hf⟩ := h
  have hv : v.cells.toList = [v] := by
    rcases okWide_slice Tryz.underlying33 hok with ⟨a, b, c, rfl⟩
    rfl
  rw [hv] at hf
  have none0 : ∀ ao, Svs W 0 ao [] := fun ao => ⟨fun h => absurd h (by simp), fun h => absurd h (by simp), (fun _ h => by cases h), by simp⟩
  rcases slice_reachI Tryz.underlying33 hf hw with rfl | ⟨a, len, cap, m, D, Pl, rfl, hl, hm, hc, hit, hwe⟩
  · exact ⟨0, none, 0, [], rfl, none0 _⟩
  · rw [Tryz.bytesSlotT] at hc
    have hwr : reachBytes = 140737488351232 := by decide
    by_cases hl0 : len = 0
    · subst hl0
      exact ⟨0, some a, cap, [], rfl, none0 _⟩
    have one : ∀ i, i < len → ∃ z : Sv, (∀ j u, z.cl[j]? = some u → W.cell? ((a.add (i * 7)).add j) = some u) ∧ (I64 z.kind ∧ I64 z.t.xmin ∧ I64 z.t.xmax ∧ z.raw.size ≤ 140737488355328) := fun i hi => by
      obtain ⟨cs', h1, h2⟩ := hit i (by omega)
      rw [Tryz.cellsSlotT] at h1
      obtain ⟨_, hlen, hcell⟩ := World.cells?_some h1
      obtain ⟨s, he, hb⟩ := slot_of_trod h2 hlen (hwe i hi)
      refine ⟨s, fun j u hu => ?_, hb⟩
      have hj : j < 7 := by
        have := (List.getElem?_eq_some_iff.1 hu).1
        exact this
      rw [hcell j hj, he, hu]
    have inh : Inhabited Sv := ⟨⟨0, noT, ⟨#[]⟩⟩⟩
    obtain ⟨q, hq⟩ := choose_lt (n := len) one
    have ha : a = ⟨a.block, a.off, none⟩ := by
      have c0 := (hq 0 (by omega)).1 0 _ rfl
      rw [Nat.zero_mul, sadd_nought, sadd_nought] at c0
      exact cell_spot c0
    have hlen : ((List.range len).map q).length = len := by simp
    refine ⟨a.block, some a, cap, (List.range len).map q, by rw [hlen], ⟨fun h0 => ⟨a.off, by rw [← ha], fun j hj i u hu => ?_⟩, fun h0 => ?_, fun z hz => ?_, ?_⟩⟩
    · rw [hlen] at hj
      have hu2 : (q j).cl[i]? = some u := by simpa using hu
      have := (hq j hj).1 i u hu2
      rw [ha, sadd_at, sadd_at] at this
      exact this
    · have c0 := (hq 0 (by omega)).1 0 _ rfl
      rw [ha, sadd_at, sadd_at] at c0
      exact World.block_lt_of_cell? W ⟨a.block, a.off + 0 * 7 + 0, none⟩ c0
    · obtain ⟨j, hj, rfl⟩ := List.mem_map.1 hz
      exact (hq j (List.mem_range.1 hj)).2
    · rw [hlen]
      omega
end Go.Proofs.YtpnbhddmdfcjdaaGreat
