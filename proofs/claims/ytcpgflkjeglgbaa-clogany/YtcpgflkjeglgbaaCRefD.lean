/- The document's Set, Cut and Blank. -/
import Derived.Test.YtcpgflkjeglgbaaCRefC
namespace Go.Proofs.Ytcpgflkjeglgbaa
open Go.RowKit

set_option maxRecDepth 100000 in
set_option maxHeartbeats 1600000 in
theorem kset_err (w : World) (m a k v r x : Int) (h : ByteArray) (cp B : Nat) (ao : Option Addr) (l : List ByteArray) (s : Nat) (hm : I64 m) (hx : I64 x) (hS : Strs w B ao l) (hc : ¬ chk m ⟨a, k, v, r, h, l⟩ = 0) :
    Calls Try.prog 11 #[.int .i64 m, .agg #[.int .i64 a, .int .i64 k, .int .i64 v, .int .i64 r, .string h, .slice ao l.length cp], .int .i64 x, .int .u8 (s : Int)] w fun e w' => Res w w' e .none (chk m ⟨a, k, v, r, h, l⟩) := by
  have HC := hide (fun W (ho : Only (fun _ => False) w W) => taken_err W m a k v r h cp B ao l hm (hS.more ho) hc)
  have hcb := chk_bd m ⟨a, k, v, r, h, l⟩
  obtain ⟨C, hC⟩ : ∃ C, chk m ⟨a, k, v, r, h, l⟩ = C := ⟨_, rfl⟩
  rw [hC] at hc hcb
  simp only [hC] at HC
  have hne : (C != 0) = true := by simp [hc]
  have HO := hide (boxes_only w a k v r h (.slice ao l.length cp))
  have HP := hide (boxes_two w a k v r h (.slice ao l.length cp))
  unfold boxes at HO HP
  rw [hC]
  have hx1 := hx.1
  have hx2 := hx.2
  clear hC hc hm hS hx
  go_enter Try.func11, Try.ntmps11
  go_wp2_with fail
  refine (HC.out _ HO.out).mono ?_
  rintro e w1 ⟨rfl, ho⟩
  have HO1 := hide (o2 HO.out ho)
  have HP1 := hide (HP.out.more ho)
  obtain ⟨q0, q1, q2, q3, q4, q5, t0, t1, t2, t3, t4, t5, tl⟩ := HP.out.more ho
  clear ho
  go_wp2_with fail
  refine bodyPost_ret (results_page rfl rfl (Pag.six HP1.out _ _ _ _ _ _)) rfl ?_
  exact res_none (by omega) HO1.out C _ _ _ _ _ _
set_option maxRecDepth 100000 in
set_option maxHeartbeats 1600000 in
theorem kset_no (w : World) (m a x : Int) (cp B : Nat) (ao : Option Addr) (s0 s1 : ByteArray) (s : Nat) (hx : I64 x) (hM : Md m) (hS : Strs w B ao [s0, s1]) (hO : OkP m ⟨a, 1, 0, 0, ⟨#[]⟩, [s0, s1]⟩) (hs : s < 256) (hno : ¬ (Idd m x ∧ s ≤ 3)) :
    Calls Try.prog 11 #[.int .i64 m, .agg #[.int .i64 a, .int .i64 1, .int .i64 0, .int .i64 0, .string ⟨#[]⟩, .slice ao 2 cp], .int .i64 x, .int .u8 (s : Int)] w fun e w' => Res w w' e .none 1 := by
  have HT := hide (fun W (ho : Only (fun _ => False) w W) => taken_ok W m a cp B ao s0 s1 hM (hS.more ho) hO)
  obtain ⟨f, hf⟩ : ∃ f, lim m s0 = f := ⟨_, rfl⟩
  have hfi : Idd m f := by rw [← hf]; exact hO.idd hM
  have HREL := hide (Rel.first (bl s1) m.toNat)
  have hnb := nb_bd hM
  have hsz : s1.size = nb m := hO.size
  have hm1 := hM.1
  have hm2 := hM.2.1
  obtain ⟨L, hL⟩ : ∃ L, stsTo (bl s1) m.toNat m.toNat = L := ⟨_, rfl⟩
  simp only [hf, hL] at HT
  rw [hL] at HREL
  have hLl : L.length = m.toNat := HREL.out.len
  have HO := hide (boxes_only w a 1 0 0 ⟨#[]⟩ (.slice ao 2 cp))
  have HP := hide (boxes_two w a 1 0 0 ⟨#[]⟩ (.slice ao 2 cp))
  unfold boxes at HO HP
  have HQ := hide (boxes_one w a 1 0 0 ⟨#[]⟩ (.slice ao 2 cp))
  unfold boxes at HQ
  have hx1 := hx.1
  have hx2 := hx.2
  have hn3 : x < 1 ∨ m < x ∨ 3 < s := by
    apply Classical.byContradiction
    intro hn
    exact hno ⟨⟨hM, by omega, by omega⟩, by omega⟩
  clear hx hS hO hM hf hL HREL hLl hfi hno
  by_cases c1 : x < 1
  · go_enter Try.func11, Try.ntmps11
    go_wp2_with fail
    refine (HT.out _ HO.out).mono ?_
    rintro e w1 ⟨B1, cap1, rfl, _, _, ho⟩
    have HO1 := hide (o2 HO.out ho)
    have HP1 := hide (HP.out.more ho)
    obtain ⟨q0, q1, q2, q3, q4, q5, t0, t1, t2, t3, t4, t5, tl⟩ := HP.out.more ho
    clear ho
    go_wp2_with fail
    refine bodyPost_ret (results_page rfl rfl (Pag.six HP1.out _ _ _ _ _ _)) rfl ?_
    exact res_none (by omega) HO1.out 1 _ _ _ _ _ _
  · by_cases c2 : m < x
    · go_enter Try.func11, Try.ntmps11
      go_wp2_with fail
      refine (HT.out _ HO.out).mono ?_
      rintro e w1 ⟨B1, cap1, rfl, _, _, ho⟩
      have HO1 := hide (o2 HO.out ho)
      have HP1 := hide (HP.out.more ho)
      obtain ⟨q0, q1, q2, q3, q4, q5, t0, t1, t2, t3, t4, t5, tl⟩ := HP.out.more ho
      clear ho
      go_wp2_with fail
      refine bodyPost_ret (results_page rfl rfl (Pag.six HP1.out _ _ _ _ _ _)) rfl ?_
      exact res_none (by omega) HO1.out 1 _ _ _ _ _ _
    · have c3 : (3 : Int) < (s : Int) := by omega
      go_enter Try.func11, Try.ntmps11
      go_wp2_with fail
      refine (HT.out _ HO.out).mono ?_
      rintro e w1 ⟨B1, cap1, rfl, _, _, ho⟩
      have HO1 := hide (o2 HO.out ho)
      have HP1 := hide (HP.out.more ho)
      obtain ⟨q0, q1, q2, q3, q4, q5, t0, t1, t2, t3, t4, t5, tl⟩ := HP.out.more ho
      clear ho
      go_wp2_with fail
      refine bodyPost_ret (results_page rfl rfl (Pag.six HP1.out _ _ _ _ _ _)) rfl ?_
      exact res_none (by omega) HO1.out 1 _ _ _ _ _ _
set_option maxRecDepth 100000 in
set_option maxHeartbeats 1600000 in
theorem kset_ok (w : World) (m a x : Int) (cp B : Nat) (ao : Option Addr) (s0 s1 : ByteArray) (s : Nat) (hI : Idd m x) (hS : Strs w B ao [s0, s1]) (hO : OkP m ⟨a, 1, 0, 0, ⟨#[]⟩, [s0, s1]⟩) (hs : s < 4) :
    Calls Try.prog 11 #[.int .i64 m, .agg #[.int .i64 a, .int .i64 1, .int .i64 0, .int .i64 0, .string ⟨#[]⟩, .slice ao 2 cp], .int .i64 x, .int .u8 (s : Int)] w fun e w' => Res w w' e ⟨a, 1, 0, 0, ⟨#[]⟩, [s0, str (stSet (bl s1) (x - 1).toNat s)]⟩ 0 := by
  have hM := hI.1
  have HT := hide (fun W (ho : Only (fun _ => False) w W) => taken_ok W m a cp B ao s0 s1 hM (hS.more ho) hO)
  obtain ⟨f, hf⟩ : ∃ f, lim m s0 = f := ⟨_, rfl⟩
  have hfi : Idd m f := by rw [← hf]; exact hO.idd hM
  have HREL := hide (Rel.first (bl s1) m.toNat)
  have hnb := nb_bd hM
  have hsz : s1.size = nb m := hO.size
  have hm1 := hM.1
  have hm2 := hM.2.1
  obtain ⟨L, hL⟩ : ∃ L, stsTo (bl s1) m.toNat m.toNat = L := ⟨_, rfl⟩
  simp only [hf, hL] at HT
  rw [hL] at HREL
  have hLl : L.length = m.toNat := HREL.out.len
  have HO := hide (boxes_only w a 1 0 0 ⟨#[]⟩ (.slice ao 2 cp))
  have HP := hide (boxes_two w a 1 0 0 ⟨#[]⟩ (.slice ao 2 cp))
  unfold boxes at HO HP
  have HQ := hide (boxes_one w a 1 0 0 ⟨#[]⟩ (.slice ao 2 cp))
  unfold boxes at HQ
  have hx1 := hI.2.1
  have hx2 := hI.2.2
  have hbl : (bl s1).length = nb m := by rw [bl_len]; exact hsz
  have HR2 := hide (HREL.out.set (i := (x - 1).toNat) (v := s) (by omega) (by rw [hbl]; omega) hs)
  have hok2 : OkP m ⟨a, 1, 0, 0, ⟨#[]⟩, [s0, str (stSet (bl s1) (x - 1).toNat s)]⟩ := hO.set hI hs
  have HTOP : Hid (∀ i : Nat, m.toNat ≤ i → i < 4 * nb m → stAt (stSet (bl s1) (x - 1).toNat s) i = 0) := by
    intro i h1 h2
    have := (top_iff hM).1 hok2.top i (by omega) h2
    exact this
  have hs0 : s0 = str (sev f.toNat) := by rw [← hf]; exact lim_canon hO.lm
  obtain ⟨T', hT'⟩ : ∃ T, stSet (bl s1) (x - 1).toNat s = T := ⟨_, rfl⟩
  rw [hT'] at HR2 HTOP
  rw [hT']
  have hTl : T'.length = nb m := by rw [← hT', stSet_len]; exact hbl
  have HLAID : Hid (∀ W B' cap', StL W B' (L.set (x - 1).toNat s) → Calls Try.prog 29 #[.int .i64 m, .int .i64 f, .slice (some ⟨B', 0, none⟩) L.length cap', .int .i64 a] W fun e w' => LaidQ W w' e ⟨a, 1, 0, 0, ⟨#[]⟩, [s0, str T']⟩) := by
    intro W B' cap' hst
    have q := laid_any W m f a B' cap' (some ⟨B', 0, none⟩) (L.set (x - 1).toNat s) hst.sts hM (by rw [List.length_set, hLl]; omega) (by have := hfi.2; omega) (by have := hfi.2; omega)
    rw [HR2.out.laid hst.four hTl (by omega) HTOP.out, ← hs0] at q
    rw [List.length_set] at q
    exact q
  obtain ⟨T, hT⟩ : ∃ T, str T' = T := ⟨_, rfl⟩
  simp only [hT] at HLAID
  rw [hT]
  obtain ⟨S0, hS0⟩ : ∃ S, s0 = S := ⟨_, rfl⟩
  simp only [hS0] at HLAID
  rw [hS0]
  obtain ⟨j, hj⟩ : ∃ j : Nat, x - 1 = (j : Int) := ⟨(x - 1).toNat, by omega⟩
  have hjn : (x - 1).toNat = j := by omega
  rw [hjn] at HLAID
  have hjl : (j : Int) < (L.length : Int) := by omega
  have hjl2 : j < L.length := by omega
  clear hS hO hM hf hL hI hok2 HREL HR2 HTOP hs0 hT' hTl hT hS0 hjn hbl hfi hsz hLl
  have hs3 : ¬ (3 : Int) < (s : Int) := by omega
  go_enter Try.func11, Try.ntmps11
  go_wp2_with fail
  refine (HT.out _ HO.out).mono ?_
  rintro e w1 ⟨B1, cap1, rfl, hst, hB1, ho⟩
  have HO1 := hide (o2 HO.out ho)
  have HP1 := hide (HP.out.more ho)
  have HQ1 := hide (HQ.out.more ho)
  have HB1 : Hid (w.heap.size + 1 < B1) := by unfold Hid; have := HP.out.lt; omega
  have c0 := hst.c j hjl2
  have f0 := hst.f j hjl2
  obtain ⟨hst2, ho2⟩ := hst.set hjl2 hs
  have HST2 := hide hst2
  have HO4 : Hid (Only (fun _ => False) w _) := HO1.out.trans ho2 (fun i hi e => by have := HB1.out; omega)
  have HP4 := hide (HP1.out.kept ho2 (by have := HB1.out; omega))
  have HQ4 := hide (HQ1.out.kept ho2 (by have := HB1.out; omega))
  clear hst hB1 ho hst2 ho2
  go_upto_region 7 with fail
  obtain ⟨W4, hW4⟩ : ∃ W, w1.setCell ⟨B1, j, none⟩ (.int .u8 (s : Int)) = W := ⟨_, rfl⟩
  rw [hW4] at HST2 HO4 HP4 HQ4 ⊢
  clear hW4 c0 f0
  obtain ⟨r0, r1, r2, r3, r4, r5, _, _, _, _, _, _, _⟩ := HQ4.out
  go_wp2_with fail
  refine (HLAID.out W4 B1 cap1 HST2.out).mono ?_
  rintro e w5 hq
  clear r0 r1 r2 r3 r4 r5
  obtain ⟨B5, ao5, cp5, rfl, hS5, hF5, hB5⟩ := hq.ex
  have HO5 := hide (o2 HO4.out hq.only)
  have HP5 := hide (HP4.out.more hq.only)
  have HS5 := hide hS5
  have HF5 := hide hF5
  have HB5 : Hid (w.heap.size + 1 < B5) := by unfold Hid; have := HP4.out.lt; omega
  clear hS5 hF5 hB5 hq
  obtain ⟨q0, q1, q2, q3, q4, q5, t0, t1, t2, t3, t4, t5, tl⟩ := HP5.out
  simp only [List.length_cons, List.length_nil, Nat.zero_add, Nat.reduceAdd] at HS5 HF5 ⊢
  go_wp2_with fail
  refine bodyPost_ret (results_page rfl rfl (Pag.six HP5.out _ _ _ _ _ _)) rfl ?_
  exact res_end (by omega) ⟨a, 1, 0, 0, ⟨#[]⟩, [S0, T]⟩ HS5.out HF5.out HO5.out (fun _ => HB5.out) 0 _ _ _ _ _ _
theorem kset_any (w : World) (m a k v r x : Int) (h : ByteArray) (cp B : Nat) (ao : Option Addr) (l : List ByteArray) (s : Nat) (hm : I64 m) (hx : I64 x) (hS : Strs w B ao l) (hs : s < 256) :
    Calls Try.prog 11 #[.int .i64 m, .agg #[.int .i64 a, .int .i64 k, .int .i64 v, .int .i64 r, .string h, .slice ao l.length cp], .int .i64 x, .int .u8 (s : Int)] w fun e w' => Res w w' e (setR m ⟨a, k, v, r, h, l⟩ x s) (setC m ⟨a, k, v, r, h, l⟩ x s) := by
  by_cases hc : chk m ⟨a, k, v, r, h, l⟩ = 0
  · obtain ⟨hM, hO⟩ := chk_zero hc
    have h1 := hO.kind
    have h2 := hO.level
    have h3 := hO.right
    have h4 := hO.high
    simp only at h1 h2 h3 h4
    subst h1 h2 h3 h4
    obtain ⟨s0, s1, rfl⟩ := two_of hO.two
    by_cases hno : Idd m x ∧ s ≤ 3
    · have e : setC m ⟨a, 1, 0, 0, ⟨#[]⟩, [s0, s1]⟩ x s = 0 := by unfold setC; rw [if_pos (cid_ok hno.1 hO), if_pos hno.2]
      unfold setR
      rw [if_pos e, e]
      exact kset_ok w m a x cp B ao s0 s1 s hno.1 hS hO (by omega)
    · have e : setC m ⟨a, 1, 0, 0, ⟨#[]⟩, [s0, s1]⟩ x s = 1 := by
        unfold setC
        by_cases hI : Idd m x
        · rw [if_pos (cid_ok hI hO), if_neg (fun h => hno ⟨hI, h⟩)]
        · rw [cid_of_no hc hI, if_neg (by omega)]
      unfold setR
      rw [if_neg (by rw [e]; omega), e]
      exact kset_no w m a x cp B ao s0 s1 s hx hM hS hO hs hno
  · have e : setC m ⟨a, k, v, r, h, l⟩ x s = chk m ⟨a, k, v, r, h, l⟩ := by
      unfold setC
      rw [cid_of_err hc, if_neg hc]
    unfold setR
    rw [if_neg (by rw [e]; exact hc), e]
    exact kset_err w m a k v r x h cp B ao l s hm hx hS hc
set_option maxRecDepth 100000 in
set_option maxHeartbeats 1600000 in
theorem kcut_err (w : World) (m a k v r x : Int) (h : ByteArray) (cp B : Nat) (ao : Option Addr) (l : List ByteArray) (hm : I64 m) (hx : I64 x) (hS : Strs w B ao l) (hc : ¬ chk m ⟨a, k, v, r, h, l⟩ = 0) :
    Calls Try.prog 18 #[.int .i64 m, .agg #[.int .i64 a, .int .i64 k, .int .i64 v, .int .i64 r, .string h, .slice ao l.length cp], .int .i64 x] w fun e w' => Res w w' e .none (chk m ⟨a, k, v, r, h, l⟩) := by
  have HC := hide (fun W (ho : Only (fun _ => False) w W) => taken_err W m a k v r h cp B ao l hm (hS.more ho) hc)
  have hcb := chk_bd m ⟨a, k, v, r, h, l⟩
  obtain ⟨C, hC⟩ : ∃ C, chk m ⟨a, k, v, r, h, l⟩ = C := ⟨_, rfl⟩
  rw [hC] at hc hcb
  simp only [hC] at HC
  have hne : (C != 0) = true := by simp [hc]
  have HO := hide (boxes_only w a k v r h (.slice ao l.length cp))
  have HP := hide (boxes_two w a k v r h (.slice ao l.length cp))
  unfold boxes at HO HP
  rw [hC]
  have hx1 := hx.1
  have hx2 := hx.2
  clear hC hc hm hS hx
  go_enter Try.func18, Try.ntmps18
  go_wp2_with fail
  refine (HC.out _ HO.out).mono ?_
  rintro e w1 ⟨rfl, ho⟩
  have HO1 := hide (o2 HO.out ho)
  have HP1 := hide (HP.out.more ho)
  obtain ⟨q0, q1, q2, q3, q4, q5, t0, t1, t2, t3, t4, t5, tl⟩ := HP.out.more ho
  clear ho
  go_wp2_with fail
  refine bodyPost_ret (results_page rfl rfl (Pag.six HP1.out _ _ _ _ _ _)) rfl ?_
  exact res_none (by omega) HO1.out C _ _ _ _ _ _
set_option maxRecDepth 100000 in
set_option maxHeartbeats 1600000 in
theorem kcut_no (w : World) (m a x : Int) (cp B : Nat) (ao : Option Addr) (s0 s1 : ByteArray) (hx : I64 x) (hM : Md m) (hS : Strs w B ao [s0, s1]) (hO : OkP m ⟨a, 1, 0, 0, ⟨#[]⟩, [s0, s1]⟩) (hno : ¬ Idd m x) :
    Calls Try.prog 18 #[.int .i64 m, .agg #[.int .i64 a, .int .i64 1, .int .i64 0, .int .i64 0, .string ⟨#[]⟩, .slice ao 2 cp], .int .i64 x] w fun e w' => Res w w' e .none 1 := by
  have HT := hide (fun W (ho : Only (fun _ => False) w W) => taken_ok W m a cp B ao s0 s1 hM (hS.more ho) hO)
  obtain ⟨f, hf⟩ : ∃ f, lim m s0 = f := ⟨_, rfl⟩
  have hfi : Idd m f := by rw [← hf]; exact hO.idd hM
  have HREL := hide (Rel.first (bl s1) m.toNat)
  have hnb := nb_bd hM
  have hsz : s1.size = nb m := hO.size
  have hm1 := hM.1
  have hm2 := hM.2.1
  obtain ⟨L, hL⟩ : ∃ L, stsTo (bl s1) m.toNat m.toNat = L := ⟨_, rfl⟩
  simp only [hf, hL] at HT
  rw [hL] at HREL
  have hLl : L.length = m.toNat := HREL.out.len
  have HO := hide (boxes_only w a 1 0 0 ⟨#[]⟩ (.slice ao 2 cp))
  have HP := hide (boxes_two w a 1 0 0 ⟨#[]⟩ (.slice ao 2 cp))
  unfold boxes at HO HP
  have HQ := hide (boxes_one w a 1 0 0 ⟨#[]⟩ (.slice ao 2 cp))
  unfold boxes at HQ
  have hx1 := hx.1
  have hx2 := hx.2
  have hn3 : x < 1 ∨ m < x := by
    apply Classical.byContradiction
    intro hn
    exact hno ⟨hM, by omega, by omega⟩
  clear hx hS hO hM hf hL HREL hLl hfi hno
  by_cases c1 : x < 1
  · go_enter Try.func18, Try.ntmps18
    go_wp2_with fail
    refine (HT.out _ HO.out).mono ?_
    rintro e w1 ⟨B1, cap1, rfl, _, _, ho⟩
    have HO1 := hide (o2 HO.out ho)
    have HP1 := hide (HP.out.more ho)
    obtain ⟨q0, q1, q2, q3, q4, q5, t0, t1, t2, t3, t4, t5, tl⟩ := HP.out.more ho
    clear ho
    go_wp2_with fail
    refine bodyPost_ret (results_page rfl rfl (Pag.six HP1.out _ _ _ _ _ _)) rfl ?_
    exact res_none (by omega) HO1.out 1 _ _ _ _ _ _
  · have c2 : m < x := by omega
    go_enter Try.func18, Try.ntmps18
    go_wp2_with fail
    refine (HT.out _ HO.out).mono ?_
    rintro e w1 ⟨B1, cap1, rfl, _, _, ho⟩
    have HO1 := hide (o2 HO.out ho)
    have HP1 := hide (HP.out.more ho)
    obtain ⟨q0, q1, q2, q3, q4, q5, t0, t1, t2, t3, t4, t5, tl⟩ := HP.out.more ho
    clear ho
    go_wp2_with fail
    refine bodyPost_ret (results_page rfl rfl (Pag.six HP1.out _ _ _ _ _ _)) rfl ?_
    exact res_none (by omega) HO1.out 1 _ _ _ _ _ _
/-- The loop of the document's Cut. -/
structure KutS (m y : Int) (F : List UInt8) (B1 : Nat) (w0 wr : World) (x : Int) (l : List Nat) : Prop where
  id : Idd m x
  st : StL wr B1 l
  only : Only (fun k => k = B1) w0 wr
  rel : ∃ b, Rel m.toNat l b ∧ b.length = nb m ∧ clr m (xgap m x y).toNat x b = F
theorem KutS.last {m y : Int} {F : List UInt8} {B1 : Nat} {w0 wr : World} {x : Int} {l : List Nat} (h : KutS m y F B1 w0 wr x l) (hy : Idd m y) (e : x = y) : Rel m.toNat l F := by
  obtain ⟨b, h1, _, h3⟩ := h.rel
  rw [gap_zero h.id hy e] at h3
  have h3 : b = F := h3
  rw [← h3]
  exact h1
theorem KutS.next {m y : Int} {F : List UInt8} {B1 : Nat} {w0 wr : World} {x : Int} {l : List Nat} (h : KutS m y F B1 w0 wr x l) (hy : Idd m y) (e : ¬ x = y) {j : Nat} (hj : (x - 1).toNat = j) :
    KutS m y F B1 w0 (wr.setCell ⟨B1, j, none⟩ (.int .u8 0)) (xadd m x 1) (l.set j 0) := by
  obtain ⟨b, h1, h2, h3⟩ := h.rel
  obtain ⟨e1, e2⟩ := gap_step h.id hy e
  have hb := nb_bd hy.1
  have hx := h.id.2
  obtain ⟨s1, s2⟩ := h.st.set (j := j) (n := 0) (by rw [h1.len]; omega) (by omega)
  refine ⟨xadd_id h.id, s1, h.only.trans s2 (fun _ _ q => q), stSet b j 0, h1.set (by omega) (by rw [h2]; omega) (by omega), by rw [stSet_len]; exact h2, ?_⟩
  rw [show (xgap m x y).toNat = (xgap m (xadd m x 1) y).toNat + 1 by omega, clr, hj] at h3
  exact h3
set_option maxRecDepth 100000 in
set_option maxHeartbeats 1600000 in
theorem kcut_ok (w : World) (m a y : Int) (cp B : Nat) (ao : Option Addr) (s0 s1 : ByteArray) (hI : Idd m y) (hS : Strs w B ao [s0, s1]) (hO : OkP m ⟨a, 1, 0, 0, ⟨#[]⟩, [s0, s1]⟩) :
    Calls Try.prog 18 #[.int .i64 m, .agg #[.int .i64 a, .int .i64 1, .int .i64 0, .int .i64 0, .string ⟨#[]⟩, .slice ao 2 cp], .int .i64 y] w fun e w' => Res w w' e ⟨a, 1, 0, 0, ⟨#[]⟩, [str (sev y.toNat), str (clr m (xgap m (lim m s0) y).toNat (lim m s0) (bl s1))]⟩ 0 := by
  have hM := hI.1
  have HT := hide (fun W (ho : Only (fun _ => False) w W) => taken_ok W m a cp B ao s0 s1 hM (hS.more ho) hO)
  obtain ⟨f, hf⟩ : ∃ f, lim m s0 = f := ⟨_, rfl⟩
  have hfi : Idd m f := by rw [← hf]; exact hO.idd hM
  have HREL := hide (Rel.first (bl s1) m.toNat)
  have hnb := nb_bd hM
  have hsz : s1.size = nb m := hO.size
  have hm1 := hM.1
  have hm2 := hM.2.1
  obtain ⟨L, hL⟩ : ∃ L, stsTo (bl s1) m.toNat m.toNat = L := ⟨_, rfl⟩
  simp only [hf, hL] at HT
  rw [hL] at HREL
  have hLl : L.length = m.toNat := HREL.out.len
  have HO := hide (boxes_only w a 1 0 0 ⟨#[]⟩ (.slice ao 2 cp))
  have HP := hide (boxes_two w a 1 0 0 ⟨#[]⟩ (.slice ao 2 cp))
  unfold boxes at HO HP
  have HQ := hide (boxes_one w a 1 0 0 ⟨#[]⟩ (.slice ao 2 cp))
  unfold boxes at HQ
  have hx1 := hI.2.1
  have hx2 := hI.2.2
  have hbl : (bl s1).length = nb m := by rw [bl_len]; exact hsz
  have hok2 : OkP m ⟨a, 1, 0, 0, ⟨#[]⟩, [str (sev y.toNat), str (clr m (xgap m (lim m s0) y).toNat (lim m s0) (bl s1))]⟩ := hO.cut hI
  rw [hf] at hok2
  rw [hf]
  obtain ⟨F, hF⟩ : ∃ F, clr m (xgap m f y).toNat f (bl s1) = F := ⟨_, rfl⟩
  have HK0 : Hid (∃ b, Rel m.toNat L b ∧ b.length = nb m ∧ clr m (xgap m f y).toNat f b = F) := ⟨bl s1, HREL.out, hbl, hF⟩
  have hFl : F.length = nb m := by rw [← hF, clr_len]; exact hbl
  rw [hF] at hok2
  rw [hF]
  have HTOP : Hid (∀ i : Nat, m.toNat ≤ i → i < 4 * nb m → stAt F i = 0) := by
    intro i h1 h2
    have := (top_iff hM).1 hok2.top i (by omega) h2
    exact this
  have HLAID : Hid (∀ W B' cap' l, StL W B' l → Rel m.toNat l F → Calls Try.prog 29 #[.int .i64 m, .int .i64 y, .slice (some ⟨B', 0, none⟩) l.length cap', .int .i64 a] W fun e w' => LaidQ W w' e ⟨a, 1, 0, 0, ⟨#[]⟩, [str (sev y.toNat), str F]⟩) := by
    intro W B' cap' l hst hr
    have q := laid_any W m y a B' cap' (some ⟨B', 0, none⟩) l hst.sts hM (by rw [hr.len]; omega) (by omega) (by omega)
    rw [hr.laid hst.four hFl (by omega) HTOP.out] at q
    exact q
  obtain ⟨T, hT⟩ : ∃ T, str F = T := ⟨_, rfl⟩
  simp only [hT] at HLAID
  rw [hT]
  obtain ⟨S0, hS0⟩ : ∃ S, str (sev y.toNat) = S := ⟨_, rfl⟩
  simp only [hS0] at HLAID
  rw [hS0]
  have HI := hide hI
  have HFI := hide hfi
  have hf1 := hfi.2.1
  have hf2 := hfi.2.2
  have HADD := hide (fun W x (h : Idd m x) => xadd_any m x 1 W ⟨by omega, by omega⟩ ⟨by have := h.2; omega, by have := h.2; omega⟩ ⟨by omega, by omega⟩)
  have HLL := hide hLl
  clear hS hO hM hf hL hI hok2 HREL HTOP hF hFl hT hS0 hbl hfi hsz hLl
  go_enter Try.func18, Try.ntmps18
  go_wp2_with fail
  refine (HT.out _ HO.out).mono ?_
  rintro e w1 ⟨B1, cap1, rfl, hst, hB1, ho⟩
  have HO1 := hide (o2 HO.out ho)
  have HP1 := hide (HP.out.more ho)
  have HQ1 := hide (HQ.out.more ho)
  have HB1 : Hid (w.heap.size + 1 < B1) := by unfold Hid; have := HP.out.lt; omega
  have HST := hide hst
  clear hst hB1 ho
  go_wp2_with fail
  go_loopw [11] (fun t wr => ∃ (x : Int) (l : List Nat), t = .int .i64 x ∧ 1 ≤ x ∧ x ≤ m ∧ Hid (l.length = L.length) ∧ Hid (KutS m y F B1 w1 wr x l)) (fun t _ => (xgap m (intOf t) y).toNat)
  case atStart => exact ⟨f, L, rfl, hf1, hf2, rfl, HFI.out, HST.out, Only.refl _ _, HK0.out⟩
  case round =>
    obtain ⟨x, l, rfl, hx3, hx4, hll, HKS⟩ := hrel
    by_cases hxy : x = y
    · have HRF := hide (HKS.out.last HI.out hxy)
      have HSTF := hide HKS.out.st
      have HON := hide HKS.out.only
      have HO4 : Hid (Only (fun _ => False) w wr) := HO1.out.trans HON.out (fun i hi e => by have := HB1.out; omega)
      have HP4 : Hid (Pag wr (w.heap.size + 1) (.int .i64 0) (.int .i64 0) (.int .i64 0) (.int .i64 0) (.string ⟨#[]⟩) (.slice none 0 0)) := HP1.out.kept HON.out (by have := HB1.out; omega)
      have HQ4 : Hid (Pag wr w.heap.size (.int .i64 a) (.int .i64 1) (.int .i64 0) (.int .i64 0) (.string ⟨#[]⟩) (.slice ao 2 cp)) := HQ1.out.kept HON.out (by have := HB1.out; omega)
      have q := HLAID.out wr B1 cap1 l HSTF.out HRF.out
      rw [hll.out] at q
      have HLQ := hide q
      clear q HKS
      subst hxy
      obtain ⟨r0, r1, r2, r3, r4, r5, _, _, _, _, _, _, _⟩ := HQ4.out
      go_wp2_with fail
      refine HLQ.out.mono ?_
      rintro e w5 hq
      clear r0 r1 r2 r3 r4 r5
      obtain ⟨B5, ao5, cp5, rfl, hS5, hF5, hB5⟩ := hq.ex
      have HO5 := hide (o2 HO4.out hq.only)
      have HP5 := hide (HP4.out.more hq.only)
      have HS5 := hide hS5
      have HF5 := hide hF5
      have HB5 : Hid (w.heap.size + 1 < B5) := by unfold Hid; have := HP4.out.lt; omega
      clear hS5 hF5 hB5 hq
      obtain ⟨q0, q1, q2, q3, q4, q5, t0, t1, t2, t3, t4, t5, tl⟩ := HP5.out
      simp only [List.length_cons, List.length_nil, Nat.zero_add, Nat.reduceAdd] at HS5 HF5 ⊢
      go_wp2_with fail
      refine bodyPost_ret (results_page rfl rfl (Pag.six HP5.out _ _ _ _ _ _)) rfl ?_
      exact res_end (by omega) ⟨a, 1, 0, 0, ⟨#[]⟩, [S0, T]⟩ HS5.out HF5.out HO5.out (fun _ => HB5.out) 0 _ _ _ _ _ _
    · obtain ⟨j, hj⟩ : ∃ j : Nat, x - 1 = (j : Int) := ⟨(x - 1).toNat, by omega⟩
      have HN := hide (HKS.out.next HI.out hxy (j := j) (by omega))
      have HSTEP := hide (gap_step HKS.out.id HI.out hxy)
      have HAD := hide (fun W => HADD.out W x HKS.out.id)
      have hid := (xadd_id (n := 1) HKS.out.id).2
      have hjl : (j : Int) < (L.length : Int) := by have := HLL.out; omega
      have c0 := HKS.out.st.c j (by have := hll.out; omega)
      have f0 := HKS.out.st.f j (by have := hll.out; omega)
      obtain ⟨x', hx'⟩ : ∃ x', xadd m x 1 = x' := ⟨_, rfl⟩
      simp only [hx'] at HAD HN HSTEP hid
      clear hx' HKS
      go_wp2_with fail
      refine (HAD.out _).mono ?_
      rintro e w6 ⟨rfl, hw⟩
      rw [← hw] at HN
      clear hw
      go_wp2_with fail
      go_roundw
      case rel => exact ⟨x', l.set j 0, rfl, hid.1, hid.2, by unfold Hid; rw [List.length_set]; exact hll.out, HN⟩
      case measure =>
        have := HSTEP.out
        simp only [intOf]
        omega
theorem kcut_any (w : World) (m a k v r x : Int) (h : ByteArray) (cp B : Nat) (ao : Option Addr) (l : List ByteArray) (hm : I64 m) (hx : I64 x) (hS : Strs w B ao l) :
    Calls Try.prog 18 #[.int .i64 m, .agg #[.int .i64 a, .int .i64 k, .int .i64 v, .int .i64 r, .string h, .slice ao l.length cp], .int .i64 x] w fun e w' => Res w w' e (cutR m ⟨a, k, v, r, h, l⟩ x) (cid m ⟨a, k, v, r, h, l⟩ x) := by
  by_cases hc : chk m ⟨a, k, v, r, h, l⟩ = 0
  · obtain ⟨hM, hO⟩ := chk_zero hc
    have h1 := hO.kind
    have h2 := hO.level
    have h3 := hO.right
    have h4 := hO.high
    simp only at h1 h2 h3 h4
    subst h1 h2 h3 h4
    obtain ⟨s0, s1, rfl⟩ := two_of hO.two
    by_cases hI : Idd m x
    · unfold cutR
      rw [if_pos (cid_ok hI hO), cid_ok hI hO]
      exact kcut_ok w m a x cp B ao s0 s1 hI hS hO
    · unfold cutR
      rw [cid_of_no hc hI, if_neg (by omega)]
      exact kcut_no w m a x cp B ao s0 s1 hx hM hS hO hI
  · unfold cutR
    rw [cid_of_err hc, if_neg hc]
    exact kcut_err w m a k v r x h cp B ao l hm hx hS hc
set_option maxRecDepth 100000 in
set_option maxHeartbeats 1600000 in
theorem kblank_err (w : World) (m f : Int) (hm : I64 m) (hf : I64 f) (hI : ¬ Idd m f) :
    Calls Try.prog 21 #[.int .i64 m, .int .i64 f] w fun e w' => Res w w' e .none 1 := by
  have HR := hide (fun W => right_any m W hm)
  have HP := hide (Pag.zero w)
  have HO := hide (onlyA w (.cells #[.int .i64 0, .int .i64 0, .int .i64 0, .int .i64 0, .string ⟨#[]⟩, .slice none 0 0] 24))
  have hm1 := hm.1
  have hm2 := hm.2
  have hf1 := hf.1
  have hf2 := hf.2
  by_cases hM : Md m
  · simp only [decide_eq_true hM] at HR
    have hn : f < 1 ∨ m < f := by
      apply Classical.byContradiction
      intro h
      exact hI ⟨hM, by omega, by omega⟩
    clear hI hm hf hM
    by_cases c1 : f < 1
    · go_enter Try.func21, Try.ntmps21
      go_wp2_with fail
      refine (HR.out _).mono ?_
      rintro e w1 ⟨rfl, hw⟩
      rw [← hw] at HP HO
      clear hw
      obtain ⟨q0, q1, q2, q3, q4, q5, t0, t1, t2, t3, t4, t5, tl⟩ := HP.out
      go_wp2_with fail
      refine bodyPost_ret (results_page rfl rfl (Pag.six HP.out _ _ _ _ _ _)) rfl ?_
      exact res_none (Nat.le_refl _) HO.out 1 _ _ _ _ _ _
    · have c2 : m < f := by omega
      go_enter Try.func21, Try.ntmps21
      go_wp2_with fail
      refine (HR.out _).mono ?_
      rintro e w1 ⟨rfl, hw⟩
      rw [← hw] at HP HO
      clear hw
      obtain ⟨q0, q1, q2, q3, q4, q5, t0, t1, t2, t3, t4, t5, tl⟩ := HP.out
      go_wp2_with fail
      refine bodyPost_ret (results_page rfl rfl (Pag.six HP.out _ _ _ _ _ _)) rfl ?_
      exact res_none (Nat.le_refl _) HO.out 1 _ _ _ _ _ _
  · simp only [decide_eq_false hM] at HR
    clear hI hm hf hM
    go_enter Try.func21, Try.ntmps21
    go_wp2_with fail
    refine (HR.out _).mono ?_
    rintro e w1 ⟨rfl, hw⟩
    rw [← hw] at HP HO
    clear hw
    obtain ⟨q0, q1, q2, q3, q4, q5, t0, t1, t2, t3, t4, t5, tl⟩ := HP.out
    go_wp2_with fail
    refine bodyPost_ret (results_page rfl rfl (Pag.six HP.out _ _ _ _ _ _)) rfl ?_
    exact res_none (Nat.le_refl _) HO.out 1 _ _ _ _ _ _
set_option maxRecDepth 100000 in
set_option maxHeartbeats 1600000 in
theorem kblank_ok (w : World) (m f : Int) (hI : Idd m f) :
    Calls Try.prog 21 #[.int .i64 m, .int .i64 f] w fun e w' => Res w w' e (blankP m f) 0 := by
  have HR := hide (fun W => right_any m W ⟨by have := hI.1.1; omega, by have := hI.1.2.1; omega⟩)
  simp only [decide_eq_true hI.1] at HR
  have HL := hide (fun W => laid_any W m f 0 0 0 none [] (Sts.nil W 0 none) hI.1 (Nat.zero_le _) (by have := hI.2; omega) (by have := hI.2; have := hI.1.2.1; omega))
  have HP := hide (Pag.zero w)
  have HO := hide (onlyA w (.cells #[.int .i64 0, .int .i64 0, .int .i64 0, .int .i64 0, .string ⟨#[]⟩, .slice none 0 0] 24))
  have hm1 := hI.1.1
  have hm2 := hI.1.2.1
  have hf1 := hI.2.1
  have hf2 := hI.2.2
  have e0 : lsTo (nb m) [] ([] : List Nat).length = List.replicate (nb m) 0 := rfl
  simp only [e0] at HL
  unfold blankP
  obtain ⟨S0, hS⟩ : ∃ S, str (sev f.toNat) = S := ⟨_, rfl⟩
  obtain ⟨T, hZ⟩ : ∃ Z, str (List.replicate (nb m) 0) = Z := ⟨_, rfl⟩
  simp only [hS, hZ] at HL
  rw [hS, hZ]
  simp only [List.length_nil] at HL
  clear hI e0 hS hZ
  go_enter Try.func21, Try.ntmps21
  go_wp2_with fail
  refine (HR.out _).mono ?_
  rintro e w1 ⟨rfl, hw⟩
  rw [← hw] at HP HO
  clear hw
  go_wp2_with fail
  refine (HL.out _).mono ?_
  rintro e w5 hq
  obtain ⟨B5, ao5, cp5, rfl, hS5, hF5, hB5⟩ := hq.ex
  have HO5 := hide (o2 HO.out hq.only)
  have HP5 := hide (HP.out.more hq.only)
  have HS5 := hide hS5
  have HF5 := hide hF5
  have HB5 : Hid (w.heap.size < B5) := by unfold Hid; have := HP.out.lt; omega
  clear hS5 hF5 hB5 hq
  obtain ⟨q0, q1, q2, q3, q4, q5, t0, t1, t2, t3, t4, t5, tl⟩ := HP5.out
  simp only [List.length_cons, List.length_nil, Nat.zero_add, Nat.reduceAdd] at HS5 HF5 ⊢
  go_wp2_with fail
  refine bodyPost_ret (results_page rfl rfl (Pag.six HP5.out _ _ _ _ _ _)) rfl ?_
  exact res_end (Nat.le_refl _) ⟨0, 1, 0, 0, ⟨#[]⟩, [S0, T]⟩ HS5.out HF5.out HO5.out (fun _ => HB5.out) 0 _ _ _ _ _ _
theorem kblank_any (w : World) (m f : Int) (hm : I64 m) (hf : I64 f) :
    Calls Try.prog 21 #[.int .i64 m, .int .i64 f] w fun e w' => Res w w' e (blankR m f) (blankC m f) := by
  unfold blankR blankC
  by_cases h : Idd m f
  · rw [if_pos h, if_pos h]
    exact kblank_ok w m f h
  · rw [if_neg h, if_neg h]
    exact kblank_err w m f hm hf h
end Go.Proofs.Ytcpgflkjeglgbaa
