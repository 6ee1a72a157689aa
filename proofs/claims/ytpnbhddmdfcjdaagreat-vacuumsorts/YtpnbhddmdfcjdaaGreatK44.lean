/- Parts. -/
import Derived.Test.YtpnbhddmdfcjdaaGreatK43
set_option maxRecDepth 100000
namespace Go.Proofs.YtpnbhddmdfcjdaaGreat
open Go.RowKit
theorem gsrc_nil (w : World) (ao : Option Addr) : GSrc EIi w ao 0 [] := by
  cases ao with
  | none => exact ⟨rfl, .inl ⟨rfl, rfl⟩⟩
  | some a => exact ⟨rfl, .inr ⟨a, rfl, fun j u hu => by simp at hu⟩⟩
/-- The record that grows, in block b: its slots are T. -/
structure ClSt (W1 wr : World) (b : Nat) (pg : Int) (av : Option Addr) (nv cv : Nat) (T : List Int) : Prop where
  rb : Rb wr b (clR pg T) (lcF av Option.none cv 0 0 0)
  row : IRw wr W1.heap.size (.slice av nv cv) T
  len : T.length = nv
  only : Only (fun k => k = b ∨ W1.heap.size ≤ k) W1 wr
  lt : b < W1.heap.size
theorem ClSt.more {W1 wr w' : World} {b : Nat} {pg : Int} {av : Option Addr} {nv cv : Nat} {T : List Int} (h : ClSt W1 wr b pg av nv cv T) (ho : Only (fun _ => False) wr w') : ClSt W1 w' b pg av nv cv T :=
  ⟨h.rb.more ho, h.row.more ho, h.len, h.only.trans ho (fun _ _ e => e.elim), h.lt⟩
theorem ClSt.put {W1 wr w' : World} {b : Nat} {pg : Int} {av a' : Option Addr} {nv cv n' c' : Nat} {T U : List Int} (h : ClSt W1 wr b pg av nv cv T) (ho : Only (fun k => W1.heap.size ≤ k) wr w') (hr : IRw w' W1.heap.size (.slice a' n' c') U) (hn : U.length = n') : ClSt W1 (w'.setCell ⟨b, 11, none⟩ (.slice a' n' c')) b pg a' n' c' U := by
  have hl := h.lt
  have hs := Only.setCell (S := fun k => k = b) w' ⟨b, 11, none⟩ (.slice a' n' c') rfl
  subst hn
  refine ⟨?_, hr.kept hs (fun k hk e => by have e2 : k = b := e; have := (hr.low k hk).1; omega), rfl, (h.only.trans ho (fun i _ e => .inr e)).trans hs (fun i _ e => .inl e), hl⟩
  exact Rb.slots (k := 9) (N := U) (x := a') (y := c') (B := 0) (h.rb.kept ho (fun e => by have e2 : W1.heap.size ≤ b := e; omega))
theorem clSt_at {W1 wr : World} {b : Nat} {pg : Int} {av : Option Addr} {nv cv : Nat} {T : List Int} (h : ClSt W1 wr b pg av nv cv T) {j : Nat} (hj : j < T.length) : ∃ g, av = some ⟨g, 0, none⟩ ∧ wr.cell? ⟨g, j, none⟩ = some (.int .i64 T[j]) := by
  have hr := h.row
  rw [← h.len] at hr
  obtain ⟨g, e, _, _, _, q⟩ := hr.at_ hj
  have k1 : wr.cell? ⟨g, j * 1 + 0, none⟩ = some (.int .i64 T[j]) := q 0 (.int .i64 T[j]) (by decide) rfl
  rw [Nat.mul_one, Nat.add_zero] at k1
  exact ⟨g, e, k1⟩
set_option maxRecDepth 100000 in
set_option maxHeartbeats 6400000 in
theorem rclean_yes (w : World) (pg : Int) (base : Nat) (a0 a1 a2 : Option Addr) (n0 c0 n1 c1 c2 : Nat) (G : List En) (h : ERows w base (.slice a2 G.length c2) G) (hl : G.length ≤ 2199023255552) (hr : (slG G).Pairwise (· < ·)) (hne : ¬ G = []) :
    Calls Tryz.prog 13 #[.int .i64 pg, .agg #[.slice a0 n0 c0, .slice a1 n1 c1, .slice a2 G.length c2]] w fun e w' => ∃ L, e = .returned (.tuple #[.agg ((clR pg (slG G)).cells L), .bool true]) ∧ RcAt w' (clR pg (slG G)) L ∧ Only (fun _ => False) w w' := by
  have HN := hide (frz_new w (.slice a0 n0 c0) (.slice a1 n1 c1) (.slice a2 G.length c2))
  have HR := hide hr
  have HSL : Hid ((slG G).length = G.length) := by unfold Hid slG; rw [List.length_map]
  have hz : ¬ G.length = 0 := fun q => hne (List.eq_nil_of_length_eq_zero q)
  have HE : Hid (∀ W, Only (fun _ => False) w W → ∀ j (hj : j < G.length), ∃ g, a2 = some ⟨g, 0, none⟩ ∧ W.cell? ⟨g, j * 3 + 2, none⟩ = some (.int .i64 G[j].slot)) := fun W ho j hj => by
    obtain ⟨g, e, _, _, _, q⟩ := (h.more ho).at_ hj
    exact ⟨g, e, q 2 (.int .i64 G[j].slot) (by decide) rfl⟩
  obtain ⟨m2, hm2⟩ : ∃ k, G.length = k := ⟨_, rfl⟩
  have HM2 := hide hm2
  rw [hm2] at HN HSL hz hl ⊢
  clear h hr hne hm2
  have hb0 : ((m2 : Int) == 0) = false := by simpa using hz
  clear hz
  go_enter Tryz.func13, Tryz.ntmps13
  go_upto_region 1 with fail
  rw [frz_cells]
  obtain ⟨W0, hW0⟩ : ∃ x, (w.alloc (.cells #[.slice a0 n0 c0, .slice a1 n1 c1, .slice a2 m2 c2] 39)).alloc (.cells (Rc.none.cells nlL) 47) = x := ⟨_, rfl⟩
  rw [hW0] at HN ⊢
  clear hW0
  obtain ⟨b4, hb4⟩ : ∃ b, w.heap.size + 1 = b := ⟨_, rfl⟩
  rw [hb4] at HN ⊢
  obtain ⟨b3, hb3⟩ : ∃ b, w.heap.size = b := ⟨_, rfl⟩
  rw [hb3] at HN ⊢
  have HBK : Hid (b3 = w.heap.size ∧ b4 = w.heap.size + 1) := ⟨hb3.symm, hb4.symm⟩
  clear hb3 hb4
  have HWB := hide HN.out.1
  have HRB := hide HN.out.2.1
  have HO0 := hide HN.out.2.2
  clear HN
  obtain ⟨z0, z1, z2, _, _, _, _⟩ := HWB.out
  have HZN := hide (Rb.zero W0)
  have HZA : Hid (Only (fun _ => False) W0 (W0.alloc (.cells #[.int .i64 0, .int .i64 0, .int .i64 0, .int .u8 0, .int .i64 0, .int .i64 0, .int .i64 0, .int .i64 0, .int .i64 0, .int .i64 0, .string ⟨#[]⟩, .slice none 0 0, .slice none 0 0, .slice none 0 0, .slice none 0 0, .slice none 0 0] 47))) := onlyA _ _
  go_upto_region 4 with (first
    | (refine wpList_build_rk 9 rfl (.tmp 16) rfl pg rfl ?_; go_frame)
    | (refine wpList_put_rc rfl (.tmp 6) (.tmp 17) rfl W0.heap.size rfl Rc.none ⟨0, 0, 0, 9, 0, pg, 0, 0, 0, 0, ⟨#[]⟩, [], [], [], [], []⟩ nlL (lcF Option.none Option.none 0 0 0 0) rfl HZN.out (fun y1 HS => ?_); go_frame))
  clear z0 z1 z2
  have HA1 : Hid (Only (fun _ => False) W0 y1) := HZA.out.trans HS.out.2 (fun i hi e => by omega)
  have HR1 := hide HS.out.1
  have HB6L : Hid (b4 < W0.heap.size ∧ b3 < W0.heap.size) := ⟨HRB.out.lt, HWB.out.lt⟩
  clear HS
  obtain ⟨b6, hb6⟩ : ∃ b, W0.heap.size = b := ⟨_, rfl⟩
  have HB6 := hide hb6
  rw [hb6] at HR1 HB6L ⊢
  clear hb6
  have HC0 : Hid (ClSt y1 y1 b6 pg Option.none 0 0 ((slG G).take 0)) := ⟨HR1.out, GRow.nil _ _, rfl, Only.refl _ _, HR1.out.lt⟩
  go_wp2_with fail
  go_loopw [7] (fun v wr => ∃ (i : Nat) (av : Option Addr) (cv : Nat), i ≤ m2 ∧ v = .int .i64 (i : Int) ∧ Hid (ClSt y1 wr b6 pg av i cv ((slG G).take i))) (fun v _ => m2 - (intOf v).toNat)
  case atStart => exact ⟨0, _, _, by omega, rfl, HC0⟩
  case round =>
    clear HC0
    obtain ⟨i, av, cv, hi, rfl, HC⟩ := hrel
    have HOW : Hid (Only (fun _ => False) W0 wr) := HA1.out.trans HC.out.only (fun k hk e => by have := HB6.out; have := HR1.out.lt; omega)
    have HW1 := hide (HWB.out.more HOW.out)
    obtain ⟨z0, z1, z2, _, _, _, _⟩ := HW1.out
    by_cases hlt : i < m2
    · have hiG : i < G.length := by rw [HM2.out]; exact hlt
      have hiS : i < (slG G).length := by rw [HSL.out]; exact hlt
      obtain ⟨g2, e2, k2⟩ := HE.out wr (o2 HO0.out HOW.out) i hiG
      have HTK : Hid ((slG G).take (i + 1) = (slG G).take i ++ [G[i].slot]) := by
        unfold Hid slG
        rw [List.take_succ_eq_append_getElem (by rw [List.length_map]; exact hiG)]
        simp
      have HLS : Hid (∀ (k : Nat) (hk : k < ((slG G).take i).length), ((slG G).take i)[k] < G[i].slot) := fun k hk => by
        have hk2 : k < i := by rw [List.length_take] at hk; omega
        have := List.pairwise_iff_getElem.1 HR.out k i (by omega) hiS hk2
        rw [List.getElem_take]
        have e3 : (slG G)[i] = G[i].slot := List.getElem_map En.slot
        rw [← e3]
        exact this
      obtain ⟨ns, hns⟩ : ∃ z, G[i].slot = z := ⟨_, rfl⟩
      rw [hns] at k2 HTK HLS
      subst e2
      have hi0 : (0 : Int) ≤ (i : Int) := by omega
      have hi1 : (i : Int) < (m2 : Int) := by omega
      have HLT := hide hlt
      have HTL : Hid (((slG G).take i).length = i) := HC.out.len
      clear hns hiG
      go_wp2_with fail
      go_loopw [9] (fun u wx => ∃ (k : Nat), k ≤ i ∧ u = .int .i64 (k : Int) ∧ Hid (Only (fun _ => False) wr wx)) (fun u _ => i - (intOf u).toNat)
      case atStart => exact ⟨0, by omega, rfl, hide (Only.refl _ _)⟩
      case round =>
        obtain ⟨k, hk, rfl, HOX⟩ := hrel
        have HC2 := hide (HC.out.more HOX.out)
        have HBND : Hid (i < 2199023255552) := by unfold Hid; omega
        have q11 := HC2.out.rb.cell 11 _ rfl
        rw [show (clR pg ((slG G).take i)).slots.length = i from HTL.out, show (lcF av Option.none cv 0 0 0).a1 = av from rfl, show (lcF av Option.none cv 0 0 0).c1 = cv from rfl] at q11
        have hk0 : (0 : Int) ≤ (k : Int) := by omega
        by_cases hki : k < i
        · have hkl : k < ((slG G).take i).length := by rw [HTL.out]; exact hki
          obtain ⟨g, eav, kc⟩ := clSt_at HC2.out hkl
          have hzl := HLS.out k hkl
          obtain ⟨z, hz⟩ : ∃ z, ((slG G).take i)[k] = z := ⟨_, rfl⟩
          rw [hz] at kc hzl
          have hk1 : (k : Int) < (i : Int) := by omega
          have HKI := hide hki
          subst eav
          clear hz hkl
          go_wp2_with fail
          go_roundw
          case rel => exact ⟨k + 1, HKI.out, by go_num, HOX⟩
          case measure => have := HKI.out; simp [intOf]; omega
        · have hk1 : ¬ (k : Int) < (i : Int) := by omega
          obtain rfl : k = i := by omega
          have hrow : IRw wr y1.heap.size (.slice av ((slG G).take k).length cv) ((slG G).take k) := by rw [HTL.out]; exact HC2.out.row
          rcases hrow.head with ⟨eav, eT, ecv⟩ | ⟨g, eav, _, _, hcv, hmx, _, hcl⟩
          · subst eav ecv
            have hk00 : k = 0 := by have h := HTL.out; rw [eT] at h; exact h.symm
            subst hk00
            clear hrow eT
            go_upto_region 13 with fail
            have HR0 : Hid (IRw wr y1.heap.size (.slice Option.none 0 0) []) := GRow.nil _ _
            obtain ⟨v5, w5, hr5, hg5, ho5, hob5⟩ := irw_app HR0.out (gsrc_nil wr Option.none) (by have := HBND.out; simp only [List.length_nil]; omega) HC2.out.only.size 25 0
            obtain ⟨a5, n5, c5, rfl⟩ := hg5.frm
            simp only [List.nil_append] at hg5
            have HR5 := hide hr5
            have HG5 := hide hg5
            have HO5 : Hid (Only (fun _ => False) wr w5) := ho5.mono (fun i hi e => by cases e)
            clear hr5 hg5 ho5 hob5
            go_upto_region 14 with (at_builtin; go_must (refine Lib.wpList_append_run _ rfl _ _ _ _ rfl _ _ rfl rfl _ _ HR5.out ?_))
            obtain ⟨v6, w6, hr6, hg6, ho6, hob6⟩ := irw_one (w := w5) HG5.out ns (by have := HBND.out; have := (show ([] : List Int).length = 0 from rfl); omega) (Nat.le_trans HC2.out.only.size HO5.out.size) 25 1
            obtain ⟨a6, n6, c6, rfl⟩ := hg6.frm
            have HR6 := hide hr6
            have HG6 := hide hg6
            have HO6 : Hid (Only (fun k => y1.heap.size ≤ k) w5 w6) := ho6.mono (fun k _ e => (HG5.out.low k e.symm).1)
            clear hr6 hg6 ho6 hob6
            go_upto_region 15 with (at_builtin; go_must (refine Lib.wpList_append_run _ rfl _ _ _ _ rfl _ _ rfl rfl _ _ HR6.out ?_))
            have HB66 := hide ((HC2.out.rb.more HO5.out).kept HO6.out (fun e => by have e2 : y1.heap.size ≤ b6 := e; have := HR1.out.lt; omega))
            obtain ⟨v7, w7, hr7, hg7, ho7, hob7⟩ := irw_app HG6.out (gsrc_nil w6 Option.none) (by show 1 + 0 ≤ 4398046511104; omega) (Nat.le_trans (Nat.le_trans HC2.out.only.size HO5.out.size) HO6.out.size) 25 0
            obtain ⟨a7, n7, c7, rfl⟩ := hg7.frm
            simp only [List.append_nil] at hg7
            have HR7 := hide hr7
            have HO7 : Hid (Only (fun k => y1.heap.size ≤ k) w6 w7) := ho7.mono (fun k _ e => (HG6.out.low k e.symm).1)
            have HG7 : Hid (IRw w7 y1.heap.size (.slice a7 n7 c7) ((slG G).take (0 + 1))) := by
              unfold Hid
              rw [HTK.out]
              exact hg7
            have HN7 : Hid (((slG G).take (0 + 1)).length = n7) := by
              obtain ⟨_, _, e⟩ := HG7.out.form
              injection e with _ e2 _
              exact e2.symm
            have HN8 : Hid (n7 = 0 + 1) := by
              have h := HN7.out
              rw [List.length_take, HSL.out] at h
              have := HLT.out
              unfold Hid
              omega
            clear hr7 hg7 ho7 hob7
            obtain ⟨hn8⟩ : Nonempty (PLift (n7 = 0 + 1)) := ⟨⟨HN8.out⟩⟩
            have hn9 := hn8.down
            clear hn8
            subst hn9
            have HO57 : Hid (Only (fun k => y1.heap.size ≤ k) wr w7) := ((HO5.out.mono (fun _ _ e => e.elim)).trans HO6.out (fun _ _ e => e)).trans HO7.out (fun _ _ e => e)
            have HB67 := hide (HB66.out.kept HO7.out (fun e => by have e2 : y1.heap.size ≤ b6 := e; have := HR1.out.lt; omega))
            have HC7 := hide (HC2.out.put HO57.out HG7.out HN7.out)
            have u11 := HB66.out.cell 11 _ rfl
            have u12 := HB67.out.cell 11 _ rfl
            have u13 := HB67.out.frozen 11 (by omega)
            rw [show (clR pg ((slG G).take 0)).slots.length = 0 from HTL.out] at u11 u12
            rw [show (lcF Option.none Option.none 0 0 0 0).a1 = Option.none from rfl, show (lcF Option.none Option.none 0 0 0 0).c1 = 0 from rfl] at u11 u12
            go_wp2_with (at_builtin; go_must (refine Lib.wpList_append_run _ rfl _ _ _ _ rfl _ _ rfl rfl _ _ HR7.out ?_))
            go_roundw
            case rel => exact ⟨0 + 1, a7, c7, HLT.out, by go_num, HC7⟩
            case measure => have := HLT.out; simp [intOf]; omega
          · subst eav
            rw [HTL.out] at hcv
            have hc0 : (k : Int) ≤ (cv : Int) := by omega
            have hcc : (0 : Int) ≤ (cv : Int) := by omega
            have HSRC : Hid (GSrc EIi wr (some ⟨g, 0, none⟩) k ((slG G).take k)) := by
              have h := irw_src hrow
              rw [HTL.out] at h
              exact h
            obtain ⟨A2, hA2⟩ : ∃ A2, (if cv = k then some (⟨g, 0, none⟩ : Addr) else some ⟨g, 0 + k, none⟩) = A2 := ⟨_, rfl⟩
            have hA3 : (if cv = k then some (⟨g, 0, none⟩ : Addr) else some ⟨g, k, none⟩) = A2 := by rw [← hA2, Nat.zero_add]
            clear hrow hcl
            go_upto_region 13 with fail
            have HR0 : Hid (IRw wr y1.heap.size (.slice Option.none 0 0) []) := GRow.nil _ _
            obtain ⟨v5, w5, hr5, hg5, ho5, hob5⟩ := irw_app HR0.out (HSRC.out) (by have := HBND.out; simp only [List.length_nil]; omega) HC2.out.only.size 25 cv
            obtain ⟨a5, n5, c5, rfl⟩ := hg5.frm
            simp only [List.nil_append] at hg5
            have HR5 := hide hr5
            have HG5 := hide hg5
            have HO5 : Hid (Only (fun _ => False) wr w5) := ho5.mono (fun i hi e => by cases e)
            clear hr5 hg5 ho5 hob5
            go_upto_region 14 with (at_builtin; go_must (refine Lib.wpList_append_run _ rfl _ _ _ _ rfl _ _ rfl rfl _ _ HR5.out ?_))
            obtain ⟨v6, w6, hr6, hg6, ho6, hob6⟩ := irw_one (w := w5) HG5.out ns (by have := HBND.out; have := HTL.out; omega) (Nat.le_trans HC2.out.only.size HO5.out.size) 25 1
            obtain ⟨a6, n6, c6, rfl⟩ := hg6.frm
            have HR6 := hide hr6
            have HG6 := hide hg6
            have HO6 : Hid (Only (fun k => y1.heap.size ≤ k) w5 w6) := ho6.mono (fun k _ e => (HG5.out.low k e.symm).1)
            clear hr6 hg6 ho6 hob6
            go_upto_region 15 with (at_builtin; go_must (refine Lib.wpList_append_run _ rfl _ _ _ _ rfl _ _ rfl rfl _ _ HR6.out ?_))
            have HB66 := hide ((HC2.out.rb.more HO5.out).kept HO6.out (fun e => by have e2 : y1.heap.size ≤ b6 := e; have := HR1.out.lt; omega))
            obtain ⟨v7, w7, hr7, hg7, ho7, hob7⟩ := irw_app HG6.out (gsrc_nil w6 A2) (by have := HBND.out; rw [List.length_append, HTL.out]; show k + 1 + 0 ≤ 4398046511104; omega) (Nat.le_trans (Nat.le_trans HC2.out.only.size HO5.out.size) HO6.out.size) 25 (cv - k)
            obtain ⟨a7, n7, c7, rfl⟩ := hg7.frm
            simp only [List.append_nil] at hg7
            have HR7 := hide hr7
            have HO7 : Hid (Only (fun k => y1.heap.size ≤ k) w6 w7) := ho7.mono (fun k _ e => (HG6.out.low k e.symm).1)
            have HG7 : Hid (IRw w7 y1.heap.size (.slice a7 n7 c7) ((slG G).take (k + 1))) := by
              unfold Hid
              rw [HTK.out]
              exact hg7
            have HN7 : Hid (((slG G).take (k + 1)).length = n7) := by
              obtain ⟨_, _, e⟩ := HG7.out.form
              injection e with _ e2 _
              exact e2.symm
            have HN8 : Hid (n7 = k + 1) := by
              have h := HN7.out
              rw [List.length_take, HSL.out] at h
              have := HLT.out
              unfold Hid
              omega
            clear hr7 hg7 ho7 hob7
            obtain ⟨hn8⟩ : Nonempty (PLift (n7 = k + 1)) := ⟨⟨HN8.out⟩⟩
            have hn9 := hn8.down
            clear hn8
            subst hn9
            have HO57 : Hid (Only (fun k => y1.heap.size ≤ k) wr w7) := ((HO5.out.mono (fun _ _ e => e.elim)).trans HO6.out (fun _ _ e => e)).trans HO7.out (fun _ _ e => e)
            have HB67 := hide (HB66.out.kept HO7.out (fun e => by have e2 : y1.heap.size ≤ b6 := e; have := HR1.out.lt; omega))
            have HC7 := hide (HC2.out.put HO57.out HG7.out HN7.out)
            have u11 := HB66.out.cell 11 _ rfl
            have u12 := HB67.out.cell 11 _ rfl
            have u13 := HB67.out.frozen 11 (by omega)
            rw [show (clR pg ((slG G).take k)).slots.length = k from HTL.out] at u11 u12
            rw [show (lcF (some ⟨g, 0, none⟩) Option.none cv 0 0 0).a1 = (some ⟨g, 0, none⟩) from rfl, show (lcF (some ⟨g, 0, none⟩) Option.none cv 0 0 0).c1 = cv from rfl] at u11 u12
            go_wp2_with (at_builtin; go_must (refine Lib.wpList_append_run _ rfl _ _ _ _ rfl _ _ rfl rfl _ _ HR7.out ?_))
            go_roundw
            case rel => exact ⟨k + 1, a7, c7, HLT.out, by go_num, HC7⟩
            case measure => have := HLT.out; simp [intOf]; omega
    · have hi1 : ¬ (i : Int) < (m2 : Int) := by omega
      obtain rfl : i = m2 := by omega
      have HCF : Hid (ClSt y1 wr b6 pg av i cv (slG G)) := by
        have h := HC.out
        rw [List.take_of_length_le (by rw [HSL.out]; exact Nat.le_refl _)] at h
        exact h
      have HRB3 := hide (HRB.out.more HOW.out)
      go_wp2_with (first
        | (refine wpList_load_rc rfl (.tmp 6) rfl b6 rfl (clR pg (slG G)) (lcF av Option.none cv 0 0 0) HCF.out.rb.range ?_; go_frame)
        | (refine wpList_put_rc rfl (.tmp 4) (.tmp 78) rfl b4 rfl Rc.none (clR pg (slG G)) nlL (lcF av Option.none cv 0 0 0) rfl HRB3.out (fun y4 HS => ?_); go_frame))
      refine bodyPost_ret (results_rcI rfl rfl HS.out.1) rfl ?_
      have hbk := HBK.out
      have hb6l := HB6L.out
      have hb6e := HB6.out
      have hltb := HR1.out.lt
      have hsl := HSL.out
      have k5 : IRw y4 y1.heap.size (.slice av (slG G).length cv) (slG G) := by
        have h := HCF.out.row
        rw [hsl]
        exact h.kept HS.out.2 (fun k hk e => by have e2 : k = b4 := e; have := (h.low k hk).1; omega)
      obtain ⟨B5, z5, t5, _⟩ := k5.zs (by omega)
      exact ⟨lcF av Option.none cv 0 B5 0, rfl, rcAt_cln z5 t5, (o2 HO0.out HOW.out).trans HS.out.2 (fun i hi e => by omega)⟩
end Go.Proofs.YtpnbhddmdfcjdaaGreat
