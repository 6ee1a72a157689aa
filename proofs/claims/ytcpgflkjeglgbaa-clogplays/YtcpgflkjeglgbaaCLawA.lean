/- Walk of ClogApart. -/
import Derived.Test.YtcpgflkjeglgbaaCAwake
namespace Go.Proofs.Ytcpgflkjeglgbaa
open Go.RowKit

theorem st_swap {l : List UInt8} {i j v u : Nat} (hi : i / 4 < l.length) (hj : j / 4 < l.length) (hv : v < 4) (hu : u < 4) (h : i ≠ j) : stSet (stSet l i v) j u = stSet (stSet l j u) i v := by
  refine st_ext (by simp only [stSet_len]) (fun k _ => ?_)
  rw [stAt_set (by rw [stSet_len]; exact hj) hu, stAt_set hi hv, stAt_set (by rw [stSet_len]; exact hi) hv, stAt_set hj hu]
  split <;> split <;> first | rfl | omega
theorem setC_zero {m x : Int} {p : Pg} {s : Nat} (h : setC m p x s = 0) : Idd m x ∧ OkP m p ∧ s < 4 := by
  unfold setC at h
  split at h
  · rename_i h1
    split at h
    · exact ⟨(cid_zero h1).1, (cid_zero h1).2, by omega⟩
    · omega
  · rename_i h1
    exact absurd h h1
theorem setC_bd (m : Int) (p : Pg) (x : Int) (s : Nat) : setC m p x s = 0 ∨ setC m p x s = 1 ∨ setC m p x s = 31 := by
  unfold setC
  split
  · split
    · exact .inl rfl
    · exact .inr (.inl rfl)
  · exact cid_bd m p x
-- {A
set_option maxRecDepth 100000 in
set_option maxHeartbeats 1600000 in
theorem apart_mod (w : World) (m xa xb : Int) (ca cb : Bool) (sa sb : Nat) (hm : I64 m) (hI : ¬ Idd m 1) :
    Calls Try.prog 7 #[.int .i64 m, .agg #[.bool ca, .int .i64 xa, .int .u8 (sa : Int)], .agg #[.bool cb, .int .i64 xb, .int .u8 (sb : Int)]] w fun e w' => e = .returned (.bool true) ∧ Only (fun _ => False) w w' := by
  have HB := hide (fun W => cblank_err W m 1 hm ⟨by omega, by omega⟩ hI)
  have hm1 := hm.1
  have hm2 := hm.2
  clear hm hI
  go_enter Try.func7, Try.ntmps7
  go_wp2_with fail
  obtain ⟨W0, hW0⟩ : ∃ W, (w.alloc (.cells #[.bool ca, .int .i64 xa, .int .u8 (sa : Int)] 27)).alloc (.cells #[.bool cb, .int .i64 xb, .int .u8 (sb : Int)] 27) = W := ⟨_, rfl⟩
  have HO : Hid (Only (fun _ => False) w W0) := by unfold Hid; rw [← hW0]; exact o2 (onlyA _ _) (onlyA _ _)
  have HP_a : Hid (Opx W0 w.heap.size ca xa sa) := by unfold Hid; rw [← hW0]; exact (Opx.new w ca xa sa).more (onlyA _ _)
  have HP_b : Hid (Opx W0 (w.heap.size + 1) cb xb sb) := by
    unfold Hid
    rw [← hW0]
    have := Opx.new (w.alloc (.cells #[.bool ca, .int .i64 xa, .int .u8 (sa : Int)] 27)) cb xb sb
    simpa using this
  rw [hW0]
  clear hW0
  refine (HB.out _).mono ?_
  rintro e w1 ⟨B1, ao1, cp1, rfl, hS1, hF1, ho, hB1⟩
  have HP_a := hide (HP_a.out.more ho)
  have HP_b := hide (HP_b.out.more ho)
  have HO := hide (o2 HO.out ho)
  simp only [Pg.none] at hS1 hF1 ⊢
  have HO := hide (o2 HO.out (onlyA w1 (.cells #[.int .i64 0, .int .i64 0, .int .i64 0, .int .i64 0, .string ⟨#[]⟩, .slice ao1 ([] : List ByteArray).length cp1] 24)))
  simp only [List.length_nil] at HO ⊢
  clear hS1 hF1 hB1 ho HP_a HP_b
  go_wp2_with fail
  refine (cawake_any _).mono ?_
  rintro e w9 ⟨rfl, ho⟩
  have HO := hide (o2 HO.out ho)
  clear ho
  go_wp2_with fail
  go_ret
  exact ⟨rfl, HO.out⟩
set_option maxRecDepth 100000 in
set_option maxHeartbeats 1600000 in
theorem apart_same (w : World) (m xa xb : Int) (ca cb : Bool) (sa sb : Nat) (hM : Idd m 1) (hx : I64 xa) (he : xa = xb) :
    Calls Try.prog 7 #[.int .i64 m, .agg #[.bool ca, .int .i64 xa, .int .u8 (sa : Int)], .agg #[.bool cb, .int .i64 xb, .int .u8 (sb : Int)]] w fun e w' => e = .returned (.bool true) ∧ Only (fun _ => False) w w' := by
  have HB := hide (fun W => cblank_ok W m 1 hM)
  have hm1 := hM.1.1
  have hm2 := hM.1.2.1
  have hx1 := hx.1
  have hx2 := hx.2
  subst he
  clear hM hx
  unfold blankP at HB
  obtain ⟨S, hS⟩ : ∃ S, str (sev (1 : Int).toNat) = S := ⟨_, rfl⟩
  obtain ⟨Z, hZ⟩ : ∃ Z, str (List.replicate (nb m) 0) = Z := ⟨_, rfl⟩
  simp only [hS, hZ] at HB
  clear hS hZ
  go_enter Try.func7, Try.ntmps7
  go_wp2_with fail
  obtain ⟨W0, hW0⟩ : ∃ W, (w.alloc (.cells #[.bool ca, .int .i64 xa, .int .u8 (sa : Int)] 27)).alloc (.cells #[.bool cb, .int .i64 xa, .int .u8 (sb : Int)] 27) = W := ⟨_, rfl⟩
  have HO : Hid (Only (fun _ => False) w W0) := by unfold Hid; rw [← hW0]; exact o2 (onlyA _ _) (onlyA _ _)
  have HP_a : Hid (Opx W0 w.heap.size ca xa sa) := by unfold Hid; rw [← hW0]; exact (Opx.new w ca xa sa).more (onlyA _ _)
  have HP_b : Hid (Opx W0 (w.heap.size + 1) cb xa sb) := by
    unfold Hid
    rw [← hW0]
    have := Opx.new (w.alloc (.cells #[.bool ca, .int .i64 xa, .int .u8 (sa : Int)] 27)) cb xa sb
    simpa using this
  rw [hW0]
  clear hW0
  have HPO : Hid (w.heap.size + 1 < W0.heap.size) := HP_b.out.lt
  refine (HB.out _).mono ?_
  rintro e w1 ⟨B1, ao1, cp1, rfl, hS1, hF1, ho, hB1⟩
  have HP_a := hide (HP_a.out.more ho)
  have HP_b := hide (HP_b.out.more ho)
  have HO := hide (o2 HO.out ho)
  have HP_p := hide (PgB.new hS1 hF1)
  have HN := hide (onlyA w1 (.cells #[.int .i64 0, .int .i64 1, .int .i64 0, .int .i64 0, .string ⟨#[]⟩, .slice ao1 2 cp1] 24))
  have HD1 : Hid (w.heap.size + 1 < w1.heap.size) := by unfold Hid; have := HP_b.out.lt; omega
  have HE1 : Hid (w.heap.size + 1 < B1 ∧ B1 < w1.heap.size) := by unfold Hid; have := hB1 (by simp); have := hS1.lt (by simp); have := HPO.out; omega
  simp only [List.length_cons, List.length_nil, Nat.zero_add, Nat.reduceAdd] at HP_p ⊢
  clear hS1 hF1 hB1 ho
  go_upto_region 2 with fail
  obtain ⟨b1, hb⟩ : ∃ b, w1.heap.size = b := ⟨_, rfl⟩
  obtain ⟨W1, hW⟩ : ∃ W, w1.alloc (.cells #[.int .i64 0, .int .i64 1, .int .i64 0, .int .i64 0, .string ⟨#[]⟩, .slice ao1 2 cp1] 24) = W := ⟨_, rfl⟩
  rw [hW] at HP_p HN ⊢
  rw [hb] at HP_p HD1 HE1 ⊢
  clear hW hb
  have HP_a := hide (HP_a.out.more HN.out)
  have HP_b := hide (HP_b.out.more HN.out)
  have HO := hide (o2 HO.out HN.out)
  obtain ⟨xc0, xc1, xc2, xcl⟩ := HP_a.out
  obtain ⟨yc0, yc1, yc2, ycl⟩ := HP_b.out
  go_wp2_with fail
  refine (cawake_any _).mono ?_
  rintro e w9 ⟨rfl, ho⟩
  have HO := hide (o2 HO.out ho)
  clear ho
  go_wp2_with fail
  go_ret
  exact ⟨rfl, HO.out⟩
set_option maxRecDepth 100000 in
set_option maxHeartbeats 1600000 in
theorem apart_bad (w : World) (m xa xb : Int) (ca cb : Bool) (sa sb : Nat) (hM : Idd m 1) (hx : I64 xa) (hy : I64 xb) (hne : ¬ xa = xb) (ha : sa < 256) (hb : sb < 256) (hc : ¬ (setC m (blankP m 1) xa sa = 0 ∧ setC m (blankP m 1) xb sb = 0)) :
    Calls Try.prog 7 #[.int .i64 m, .agg #[.bool ca, .int .i64 xa, .int .u8 (sa : Int)], .agg #[.bool cb, .int .i64 xb, .int .u8 (sb : Int)]] w fun e w' => e = .returned (.bool true) ∧ Only (fun _ => False) w w' := by
  have HB := hide (fun W => cblank_ok W m 1 hM)
  have hm1 := hM.1.1
  have hm2 := hM.1.2.1
  have hx1 := hx.1
  have hx2 := hx.2
  have hy1 := hy.1
  have hy2 := hy.2
  have HSA := hide (fun W B ao cp (hS : Strs W B ao (blankP m 1).items) => cset_any W m 0 1 0 0 xa ⟨#[]⟩ cp B ao (blankP m 1).items sa ⟨by omega, by omega⟩ hx hS ha)
  have HSB := hide (fun W B ao cp (hS : Strs W B ao (blankP m 1).items) => cset_any W m 0 1 0 0 xb ⟨#[]⟩ cp B ao (blankP m 1).items sb ⟨by omega, by omega⟩ hy hS hb)
  have HCA := hide (setC_bd m (blankP m 1) xa sa)
  have HCB := hide (setC_bd m (blankP m 1) xb sb)
  have e0 : (⟨0, 1, 0, 0, ⟨#[]⟩, (blankP m 1).items⟩ : Pg) = blankP m 1 := rfl
  simp only [e0] at HSA HSB
  obtain ⟨ka, hka⟩ : ∃ k, setC m (blankP m 1) xa sa = k := ⟨_, rfl⟩
  obtain ⟨kb, hkb⟩ : ∃ k, setC m (blankP m 1) xb sb = k := ⟨_, rfl⟩
  obtain ⟨qa, hqa⟩ : ∃ q, setR m (blankP m 1) xa sa = q := ⟨_, rfl⟩
  obtain ⟨qb, hqb⟩ : ∃ q, setR m (blankP m 1) xb sb = q := ⟨_, rfl⟩
  rw [hka, hkb] at hc
  simp only [hka, hqa] at HSA HCA
  simp only [hkb, hqb] at HSB HCB
  clear hka hkb hqa hqb e0
  unfold blankP at HB HSA HSB
  obtain ⟨S, hS⟩ : ∃ S, str (sev (1 : Int).toNat) = S := ⟨_, rfl⟩
  obtain ⟨Z, hZ⟩ : ∃ Z, str (List.replicate (nb m) 0) = Z := ⟨_, rfl⟩
  simp only [hS, hZ] at HB HSA HSB
  simp only [List.length_cons, List.length_nil, Nat.zero_add, Nat.reduceAdd] at HSA HSB
  clear hS hZ hM hx hy
  have hca := HCA.out
  have hcb := HCB.out
  clear HCA HCB
  go_enter Try.func7, Try.ntmps7
  go_wp2_with fail
  obtain ⟨W0, hW0⟩ : ∃ W, (w.alloc (.cells #[.bool ca, .int .i64 xa, .int .u8 (sa : Int)] 27)).alloc (.cells #[.bool cb, .int .i64 xb, .int .u8 (sb : Int)] 27) = W := ⟨_, rfl⟩
  have HO : Hid (Only (fun _ => False) w W0) := by unfold Hid; rw [← hW0]; exact o2 (onlyA _ _) (onlyA _ _)
  have HP_a : Hid (Opx W0 w.heap.size ca xa sa) := by unfold Hid; rw [← hW0]; exact (Opx.new w ca xa sa).more (onlyA _ _)
  have HP_b : Hid (Opx W0 (w.heap.size + 1) cb xb sb) := by
    unfold Hid
    rw [← hW0]
    have := Opx.new (w.alloc (.cells #[.bool ca, .int .i64 xa, .int .u8 (sa : Int)] 27)) cb xb sb
    simpa using this
  rw [hW0]
  clear hW0
  have HPO : Hid (w.heap.size + 1 < W0.heap.size) := HP_b.out.lt
  refine (HB.out _).mono ?_
  rintro e w1 ⟨B1, ao1, cp1, rfl, hS1, hF1, ho, hB1⟩
  have HP_a := hide (HP_a.out.more ho)
  have HP_b := hide (HP_b.out.more ho)
  have HO := hide (o2 HO.out ho)
  have HP_p := hide (PgB.new hS1 hF1)
  have HN := hide (onlyA w1 (.cells #[.int .i64 0, .int .i64 1, .int .i64 0, .int .i64 0, .string ⟨#[]⟩, .slice ao1 2 cp1] 24))
  have HD1 : Hid (w.heap.size + 1 < w1.heap.size) := by unfold Hid; have := HP_b.out.lt; omega
  have HE1 : Hid (w.heap.size + 1 < B1 ∧ B1 < w1.heap.size) := by unfold Hid; have := hB1 (by simp); have := hS1.lt (by simp); have := HPO.out; omega
  simp only [List.length_cons, List.length_nil, Nat.zero_add, Nat.reduceAdd] at HP_p ⊢
  clear hS1 hF1 hB1 ho
  go_upto_region 2 with fail
  obtain ⟨b1, hb⟩ : ∃ b, w1.heap.size = b := ⟨_, rfl⟩
  obtain ⟨W1, hW⟩ : ∃ W, w1.alloc (.cells #[.int .i64 0, .int .i64 1, .int .i64 0, .int .i64 0, .string ⟨#[]⟩, .slice ao1 2 cp1] 24) = W := ⟨_, rfl⟩
  rw [hW] at HP_p HN ⊢
  rw [hb] at HP_p HD1 HE1 ⊢
  clear hW hb
  have HP_a := hide (HP_a.out.more HN.out)
  have HP_b := hide (HP_b.out.more HN.out)
  have HO := hide (o2 HO.out HN.out)
  obtain ⟨xc0, xc1, xc2, xcl⟩ := HP_a.out
  obtain ⟨yc0, yc1, yc2, ycl⟩ := HP_b.out
  go_upto_region 4 with fail
  obtain ⟨zp0, zp1, zp2, zp3, zp4, zp5, zf0, zf1, zf2, zf3, zf4, zf5, zfl⟩ := HP_p.out.pag
  simp only [List.length_cons, List.length_nil, Nat.zero_add, Nat.reduceAdd] at zp5
  go_wp2_with fail
  refine (HSA.out _ _ _ _ HP_p.out.strs).mono ?_
  rintro e w2 ⟨B2, ao2, cp2, rfl, hS2, hF2, ho, hB2⟩
  clear xc0 xc1 xc2 xcl
  clear yc0 yc1 yc2 ycl
  clear zp0 zf0 zp1 zf1 zp2 zf2 zp3 zf3 zp4 zf4 zp5 zf5 zfl
  have HP_a := hide (HP_a.out.more ho)
  have HP_b := hide (HP_b.out.more ho)
  have HP_p := hide (HP_p.out.more ho)
  have HO := hide (o2 HO.out ho)
  have HP_q := hide (PgB.new hS2 hF2)
  have HN := hide (onlyA w2 (.cells #[.int .i64 qa.lsn, .int .i64 qa.kind, .int .i64 qa.level, .int .i64 qa.right, .string qa.high, .slice ao2 qa.items.length cp2] 24))
  have HD2 : Hid (b1 < w2.heap.size) := by unfold Hid; have := HP_p.out.pag.lt; omega
  clear hS2 hF2 hB2 ho
  go_upto_region 5 with fail
  obtain ⟨b2, hb⟩ : ∃ b, w2.heap.size = b := ⟨_, rfl⟩
  obtain ⟨W2, hW⟩ : ∃ W, w2.alloc (.cells #[.int .i64 qa.lsn, .int .i64 qa.kind, .int .i64 qa.level, .int .i64 qa.right, .string qa.high, .slice ao2 qa.items.length cp2] 24) = W := ⟨_, rfl⟩
  rw [hW] at HP_q HN ⊢
  rw [hb] at HP_q HD2 ⊢
  clear hW hb
  have HP_a := hide (HP_a.out.more HN.out)
  have HP_b := hide (HP_b.out.more HN.out)
  have HP_p := hide (HP_p.out.more HN.out)
  have HO := hide (o2 HO.out HN.out)
  obtain ⟨yc0, yc1, yc2, ycl⟩ := HP_b.out
  obtain ⟨zp0, zp1, zp2, zp3, zp4, zp5, zf0, zf1, zf2, zf3, zf4, zf5, zfl⟩ := HP_p.out.pag
  simp only [List.length_cons, List.length_nil, Nat.zero_add, Nat.reduceAdd] at zp5
  go_wp2_with fail
  refine (HSB.out _ _ _ _ HP_p.out.strs).mono ?_
  rintro e w3 ⟨B3, ao3, cp3, rfl, hS3, hF3, ho, hB3⟩
  clear yc0 yc1 yc2 ycl
  clear zp0 zf0 zp1 zf1 zp2 zf2 zp3 zf3 zp4 zf4 zp5 zf5 zfl
  have HP_a := hide (HP_a.out.more ho)
  have HP_b := hide (HP_b.out.more ho)
  have HP_p := hide (HP_p.out.more ho)
  have HP_q := hide (HP_q.out.more ho)
  have HO := hide (o2 HO.out ho)
  have HP_r := hide (PgB.new hS3 hF3)
  have HN := hide (onlyA w3 (.cells #[.int .i64 qb.lsn, .int .i64 qb.kind, .int .i64 qb.level, .int .i64 qb.right, .string qb.high, .slice ao3 qb.items.length cp3] 24))
  have HD3 : Hid (b2 < w3.heap.size) := by unfold Hid; have := HP_q.out.pag.lt; omega
  clear hS3 hF3 hB3 ho
  go_upto_region 6 with fail
  obtain ⟨b3, hb⟩ : ∃ b, w3.heap.size = b := ⟨_, rfl⟩
  obtain ⟨W3, hW⟩ : ∃ W, w3.alloc (.cells #[.int .i64 qb.lsn, .int .i64 qb.kind, .int .i64 qb.level, .int .i64 qb.right, .string qb.high, .slice ao3 qb.items.length cp3] 24) = W := ⟨_, rfl⟩
  rw [hW] at HP_r HN ⊢
  rw [hb] at HP_r HD3 ⊢
  clear hW hb
  have HP_a := hide (HP_a.out.more HN.out)
  have HP_b := hide (HP_b.out.more HN.out)
  have HP_p := hide (HP_p.out.more HN.out)
  have HP_q := hide (HP_q.out.more HN.out)
  have HO := hide (o2 HO.out HN.out)
  clear HP_a HP_b HP_p HP_q HP_r
  by_cases h0 : ka = 0
  · subst h0
    have hkb : (kb != 0) = true := by simp; omega
    clear hc hca
    go_wp2_with fail
    refine (cawake_any _).mono ?_
    rintro e w9 ⟨rfl, ho⟩
    have HO := hide (o2 HO.out ho)
    clear ho
    go_wp2_with fail
    go_ret
    exact ⟨rfl, HO.out⟩
  · have hka : (ka != 0) = true := by simp [h0]
    clear hc
    go_wp2_with fail
    refine (cawake_any _).mono ?_
    rintro e w9 ⟨rfl, ho⟩
    have HO := hide (o2 HO.out ho)
    clear ho
    go_wp2_with fail
    go_ret
    exact ⟨rfl, HO.out⟩
set_option maxRecDepth 100000 in
set_option maxHeartbeats 1600000 in
theorem apart_good (w : World) (m xa xb : Int) (ca cb : Bool) (sa sb : Nat) (hM : Idd m 1) (hx : Idd m xa) (hy : Idd m xb) (hne : ¬ xa = xb) (ha : sa < 4) (hb : sb < 4) :
    Calls Try.prog 7 #[.int .i64 m, .agg #[.bool ca, .int .i64 xa, .int .u8 (sa : Int)], .agg #[.bool cb, .int .i64 xb, .int .u8 (sb : Int)]] w fun e w' => e = .returned (.bool true) ∧ Only (fun _ => False) w w' := by
  have HB := hide (fun W => cblank_ok W m 1 hM)
  have hm1 := hM.1.1
  have hm2 := hM.1.2.1
  have hx1 := hx.2.1
  have hx2 := hx.2.2
  have hy1 := hy.2.1
  have hy2 := hy.2.2
  have k0 := OkP.blank hM
  unfold blankP at HB k0
  have hzl : (List.replicate (nb m) (0 : UInt8)).length = nb m := List.length_replicate
  obtain ⟨S, hS⟩ : ∃ S, str (sev (1 : Int).toNat) = S := ⟨_, rfl⟩
  obtain ⟨Z, hZ⟩ : ∃ Z, List.replicate (nb m) (0 : UInt8) = Z := ⟨_, rfl⟩
  simp only [hS, hZ] at HB k0
  rw [hZ] at hzl
  clear hS hZ
  have hn := nb_bd hM.1
  have ia : (xa - 1).toNat / 4 < Z.length := by omega
  have ib : (xb - 1).toNat / 4 < Z.length := by omega
  have hij : (xa - 1).toNat ≠ (xb - 1).toNat := by omega
  have hsw := st_swap ia ib ha hb hij
  have k1 : OkP m ⟨0, 1, 0, 0, ⟨#[]⟩, [S, str (stSet Z (xa - 1).toNat sa)]⟩ := k0.set hx ha
  have k2 : OkP m ⟨0, 1, 0, 0, ⟨#[]⟩, [S, str (stSet Z (xb - 1).toNat sb)]⟩ := k0.set hy hb
  have k3 : OkP m ⟨0, 1, 0, 0, ⟨#[]⟩, [S, str (stSet (stSet Z (xa - 1).toNat sa) (xb - 1).toNat sb)]⟩ := k1.set hy hb
  have g1 : stAt (stSet (stSet Z (xa - 1).toNat sa) (xb - 1).toNat sb) (xa - 1).toNat = sa := by rw [stAt_set (by rw [stSet_len]; exact ib) hb, if_neg hij, stAt_set ia ha, if_pos rfl]
  have g2 : stAt (stSet (stSet Z (xa - 1).toNat sa) (xb - 1).toNat sb) (xb - 1).toNat = sb := by rw [stAt_set (by rw [stSet_len]; exact ib) hb, if_pos rfl]
  have C1 := hide (fun W B ao cp (hS : Strs W B ao [S, str (Z)]) => cset_ok W m 0 xa cp B ao S (str (Z)) sa hS k0 hx ha)
  have C2 := hide (fun W B ao cp (hS : Strs W B ao [S, str (Z)]) => cset_ok W m 0 xb cp B ao S (str (Z)) sb hS k0 hy hb)
  have C3 := hide (fun W B ao cp (hS : Strs W B ao [S, str (stSet Z (xa - 1).toNat sa)]) => cset_ok W m 0 xb cp B ao S (str (stSet Z (xa - 1).toNat sa)) sb hS k1 hy hb)
  have C4 := hide (fun W B ao cp (hS : Strs W B ao [S, str (stSet Z (xb - 1).toNat sb)]) => cset_ok W m 0 xa cp B ao S (str (stSet Z (xb - 1).toNat sb)) sa hS k2 hx ha)
  have G1 := hide (fun W B ao cp (hS : Strs W B ao [S, str (stSet (stSet Z (xa - 1).toNat sa) (xb - 1).toNat sb)]) => cget_ok W m 0 xa cp B ao S _ hS k3 hx)
  have G2 := hide (fun W B ao cp (hS : Strs W B ao [S, str (stSet (stSet Z (xa - 1).toNat sa) (xb - 1).toNat sb)]) => cget_ok W m 0 xb cp B ao S _ hS k3 hy)
  simp only [bl_str] at C1 C2 C3 C4 G1 G2
  simp only [← hsw] at C4
  simp only [g1] at G1
  simp only [g2] at G2
  obtain ⟨T0, h0⟩ : ∃ T, str Z = T := ⟨_, rfl⟩
  obtain ⟨T1, h1⟩ : ∃ T, str (stSet Z (xa - 1).toNat sa) = T := ⟨_, rfl⟩
  obtain ⟨T2, h2⟩ : ∃ T, str (stSet Z (xb - 1).toNat sb) = T := ⟨_, rfl⟩
  obtain ⟨T3, h3⟩ : ∃ T, str (stSet (stSet Z (xa - 1).toNat sa) (xb - 1).toNat sb) = T := ⟨_, rfl⟩
  simp only [h0, h1, h2, h3] at HB C1 C2 C3 C4 G1 G2
  have HSAME : Hid (∀ W B B' cp cp' ao ao', Strs W B ao [S, T3] → Strs W B' ao' [S, T3] → Calls Try.prog 23 #[.agg #[.int .i64 0, .int .i64 1, .int .i64 0, .int .i64 0, .string ⟨#[]⟩, .slice ao 2 cp], .agg #[.int .i64 0, .int .i64 1, .int .i64 0, .int .i64 0, .string ⟨#[]⟩, .slice ao' 2 cp']] W fun e w' => e = .returned (.bool true) ∧ Only (fun _ => False) W w') := by
    intro W B B' cp cp' ao ao' q1 q2
    have := psame_any W 0 1 0 0 0 1 0 0 ⟨#[]⟩ ⟨#[]⟩ B B' cp cp' ao ao' [S, T3] [S, T3] q1 q2
    simpa using this
  clear h0 h1 h2 h3 g1 g2 k0 k1 k2 k3 hsw hij ia ib hn hzl hM hx hy
  go_enter Try.func7, Try.ntmps7
  go_wp2_with fail
  obtain ⟨W0, hW0⟩ : ∃ W, (w.alloc (.cells #[.bool ca, .int .i64 xa, .int .u8 (sa : Int)] 27)).alloc (.cells #[.bool cb, .int .i64 xb, .int .u8 (sb : Int)] 27) = W := ⟨_, rfl⟩
  have HO : Hid (Only (fun _ => False) w W0) := by unfold Hid; rw [← hW0]; exact o2 (onlyA _ _) (onlyA _ _)
  have HP_a : Hid (Opx W0 w.heap.size ca xa sa) := by unfold Hid; rw [← hW0]; exact (Opx.new w ca xa sa).more (onlyA _ _)
  have HP_b : Hid (Opx W0 (w.heap.size + 1) cb xb sb) := by
    unfold Hid
    rw [← hW0]
    have := Opx.new (w.alloc (.cells #[.bool ca, .int .i64 xa, .int .u8 (sa : Int)] 27)) cb xb sb
    simpa using this
  rw [hW0]
  clear hW0
  have HPO : Hid (w.heap.size + 1 < W0.heap.size) := HP_b.out.lt
  refine (HB.out _).mono ?_
  rintro e w1 ⟨B1, ao1, cp1, rfl, hS1, hF1, ho, hB1⟩
  have HP_a := hide (HP_a.out.more ho)
  have HP_b := hide (HP_b.out.more ho)
  have HO := hide (o2 HO.out ho)
  have HP_p := hide (PgB.new hS1 hF1)
  have HN := hide (onlyA w1 (.cells #[.int .i64 0, .int .i64 1, .int .i64 0, .int .i64 0, .string ⟨#[]⟩, .slice ao1 2 cp1] 24))
  have HD1 : Hid (w.heap.size + 1 < w1.heap.size) := by unfold Hid; have := HP_b.out.lt; omega
  have HE1 : Hid (w.heap.size + 1 < B1 ∧ B1 < w1.heap.size) := by unfold Hid; have := hB1 (by simp); have := hS1.lt (by simp); have := HPO.out; omega
  simp only [List.length_cons, List.length_nil, Nat.zero_add, Nat.reduceAdd] at HP_p ⊢
  clear hS1 hF1 hB1 ho
  go_upto_region 2 with fail
  obtain ⟨b1, hb⟩ : ∃ b, w1.heap.size = b := ⟨_, rfl⟩
  obtain ⟨W1, hW⟩ : ∃ W, w1.alloc (.cells #[.int .i64 0, .int .i64 1, .int .i64 0, .int .i64 0, .string ⟨#[]⟩, .slice ao1 2 cp1] 24) = W := ⟨_, rfl⟩
  rw [hW] at HP_p HN ⊢
  rw [hb] at HP_p HD1 HE1 ⊢
  clear hW hb
  have HP_a := hide (HP_a.out.more HN.out)
  have HP_b := hide (HP_b.out.more HN.out)
  have HO := hide (o2 HO.out HN.out)
  obtain ⟨xc0, xc1, xc2, xcl⟩ := HP_a.out
  obtain ⟨yc0, yc1, yc2, ycl⟩ := HP_b.out
  go_upto_region 4 with fail
  clear xc0 xc1 xc2 xcl
  clear yc0 yc1 yc2 ycl
  have HPO : Hid (b1 < W1.heap.size) := HP_p.out.pag.lt
  obtain ⟨xc0, xc1, xc2, xcl⟩ := HP_a.out
  obtain ⟨zp0, zp1, zp2, zp3, zp4, zp5, zf0, zf1, zf2, zf3, zf4, zf5, zfl⟩ := HP_p.out.pag
  simp only [List.length_cons, List.length_nil, Nat.zero_add, Nat.reduceAdd] at zp5
  go_wp2_with fail
  refine (C1.out _ _ _ _ HP_p.out.strs).mono ?_
  rintro e w2 ⟨B2, ao2, cp2, rfl, hS2, hF2, ho, hB2⟩
  clear xc0 xc1 xc2 xcl
  clear zp0 zf0 zp1 zf1 zp2 zf2 zp3 zf3 zp4 zf4 zp5 zf5 zfl
  have HP_a := hide (HP_a.out.more ho)
  have HP_b := hide (HP_b.out.more ho)
  have HP_p := hide (HP_p.out.more ho)
  have HO := hide (o2 HO.out ho)
  have HP_q := hide (PgB.new hS2 hF2)
  have HN := hide (onlyA w2 (.cells #[.int .i64 0, .int .i64 1, .int .i64 0, .int .i64 0, .string ⟨#[]⟩, .slice ao2 2 cp2] 24))
  have HD2 : Hid (b1 < w2.heap.size) := by unfold Hid; have := HP_p.out.pag.lt; omega
  have HE2 : Hid (b1 < B2 ∧ B2 < w2.heap.size) := by unfold Hid; have := hB2 (by simp); have := hS2.lt (by simp); have := HPO.out; omega
  simp only [List.length_cons, List.length_nil, Nat.zero_add, Nat.reduceAdd] at HP_q ⊢
  clear hS2 hF2 hB2 ho
  go_upto_region 5 with fail
  obtain ⟨b2, hb⟩ : ∃ b, w2.heap.size = b := ⟨_, rfl⟩
  obtain ⟨W2, hW⟩ : ∃ W, w2.alloc (.cells #[.int .i64 0, .int .i64 1, .int .i64 0, .int .i64 0, .string ⟨#[]⟩, .slice ao2 2 cp2] 24) = W := ⟨_, rfl⟩
  rw [hW] at HP_q HN ⊢
  rw [hb] at HP_q HD2 HE2 ⊢
  clear hW hb
  have HP_a := hide (HP_a.out.more HN.out)
  have HP_b := hide (HP_b.out.more HN.out)
  have HP_p := hide (HP_p.out.more HN.out)
  have HO := hide (o2 HO.out HN.out)
  have HPO : Hid (b2 < W2.heap.size) := HP_q.out.pag.lt
  obtain ⟨xc0, xc1, xc2, xcl⟩ := HP_b.out
  obtain ⟨zp0, zp1, zp2, zp3, zp4, zp5, zf0, zf1, zf2, zf3, zf4, zf5, zfl⟩ := HP_p.out.pag
  simp only [List.length_cons, List.length_nil, Nat.zero_add, Nat.reduceAdd] at zp5
  go_wp2_with fail
  refine (C2.out _ _ _ _ HP_p.out.strs).mono ?_
  rintro e w3 ⟨B3, ao3, cp3, rfl, hS3, hF3, ho, hB3⟩
  clear xc0 xc1 xc2 xcl
  clear zp0 zf0 zp1 zf1 zp2 zf2 zp3 zf3 zp4 zf4 zp5 zf5 zfl
  have HP_a := hide (HP_a.out.more ho)
  have HP_b := hide (HP_b.out.more ho)
  have HP_p := hide (HP_p.out.more ho)
  have HP_q := hide (HP_q.out.more ho)
  have HO := hide (o2 HO.out ho)
  have HP_r := hide (PgB.new hS3 hF3)
  have HN := hide (onlyA w3 (.cells #[.int .i64 0, .int .i64 1, .int .i64 0, .int .i64 0, .string ⟨#[]⟩, .slice ao3 2 cp3] 24))
  have HD3 : Hid (b2 < w3.heap.size) := by unfold Hid; have := HP_q.out.pag.lt; omega
  have HE3 : Hid (b2 < B3 ∧ B3 < w3.heap.size) := by unfold Hid; have := hB3 (by simp); have := hS3.lt (by simp); have := HPO.out; omega
  simp only [List.length_cons, List.length_nil, Nat.zero_add, Nat.reduceAdd] at HP_r ⊢
  clear hS3 hF3 hB3 ho
  go_upto_region 6 with fail
  obtain ⟨b3, hb⟩ : ∃ b, w3.heap.size = b := ⟨_, rfl⟩
  obtain ⟨W3, hW⟩ : ∃ W, w3.alloc (.cells #[.int .i64 0, .int .i64 1, .int .i64 0, .int .i64 0, .string ⟨#[]⟩, .slice ao3 2 cp3] 24) = W := ⟨_, rfl⟩
  rw [hW] at HP_r HN ⊢
  rw [hb] at HP_r HD3 HE3 ⊢
  clear hW hb
  have HP_a := hide (HP_a.out.more HN.out)
  have HP_b := hide (HP_b.out.more HN.out)
  have HP_p := hide (HP_p.out.more HN.out)
  have HP_q := hide (HP_q.out.more HN.out)
  have HO := hide (o2 HO.out HN.out)
  go_upto_region 8 with fail
  have HPO : Hid (b3 < W3.heap.size) := HP_r.out.pag.lt
  obtain ⟨xc0, xc1, xc2, xcl⟩ := HP_b.out
  obtain ⟨zp0, zp1, zp2, zp3, zp4, zp5, zf0, zf1, zf2, zf3, zf4, zf5, zfl⟩ := HP_q.out.pag
  simp only [List.length_cons, List.length_nil, Nat.zero_add, Nat.reduceAdd] at zp5
  go_wp2_with fail
  refine (C3.out _ _ _ _ HP_q.out.strs).mono ?_
  rintro e w4 ⟨B4, ao4, cp4, rfl, hS4, hF4, ho, hB4⟩
  clear xc0 xc1 xc2 xcl
  clear zp0 zf0 zp1 zf1 zp2 zf2 zp3 zf3 zp4 zf4 zp5 zf5 zfl
  have HE4 : Hid (b3 < B4) := by unfold Hid; have := hB4 (by simp); have := HPO.out; omega
  have HP_a := hide (HP_a.out.more ho)
  have HP_b := hide (HP_b.out.more ho)
  have HP_q := hide (HP_q.out.more ho)
  have HP_r := hide (HP_r.out.more ho)
  have HO := hide (o2 HO.out ho)
  have HT := hide (PgB.put (p := ⟨0, 1, 0, 0, ⟨#[]⟩, [S, T3]⟩) HP_q.out.pag hS4 hF4 (fun _ => by have := HD1.out; have := HE1.out; have := HD2.out; have := HE2.out; have := HD3.out; have := HE3.out; have := HE4.out; omega))
  have HU := hide (Only.six w4 b2 (.int .i64 0) (.int .i64 1) (.int .i64 0) (.int .i64 0) (.string ⟨#[]⟩) (.slice ao4 2 cp4))
  simp only [List.length_cons, List.length_nil, Nat.zero_add, Nat.reduceAdd] at HT ⊢
  clear hS4 hF4 hB4 ho
  obtain ⟨zp0, zp1, zp2, zp3, zp4, zp5, zf0, zf1, zf2, zf3, zf4, zf5, zfl⟩ := HP_q.out.pag
  simp only [List.length_cons, List.length_nil, Nat.zero_add, Nat.reduceAdd] at zp5
  go_upto_region 9 with fail
  clear zp0 zf0 zp1 zf1 zp2 zf2 zp3 zf3 zp4 zf4 zp5 zf5 zfl
  obtain ⟨W4, hW⟩ : ∃ W, ((((((w4.setCell ⟨b2, 0, none⟩ (.int .i64 0)).setCell ⟨b2, 1, none⟩ (.int .i64 1)).setCell ⟨b2, 2, none⟩ (.int .i64 0)).setCell ⟨b2, 3, none⟩ (.int .i64 0)).setCell ⟨b2, 4, none⟩ (.string ⟨#[]⟩)).setCell ⟨b2, 5, none⟩ (.slice ao4 2 cp4)) = W := ⟨_, rfl⟩
  rw [hW] at HT HU ⊢
  clear hW
  have HP_a := hide (HP_a.out.kept HU.out (by have := HD1.out; have := HE1.out; have := HD2.out; have := HE2.out; have := HD3.out; have := HE3.out; have := HE4.out; omega))
  have HP_b := hide (HP_b.out.kept HU.out (by have := HD1.out; have := HE1.out; have := HD2.out; have := HE2.out; have := HD3.out; have := HE3.out; have := HE4.out; omega))
  have HP_q := HT
  have HP_r := hide (HP_r.out.kept HU.out (by have := HD1.out; have := HE1.out; have := HD2.out; have := HE2.out; have := HD3.out; have := HE3.out; have := HE4.out; omega) (fun _ => by have := HD1.out; have := HE1.out; have := HD2.out; have := HE2.out; have := HD3.out; have := HE3.out; have := HE4.out; omega))
  have HO : Hid (Only (fun _ => False) w W4) := HO.out.trans HU.out (fun i hi e => by have := HD1.out; have := HE1.out; have := HD2.out; have := HE2.out; have := HD3.out; have := HE3.out; have := HE4.out; omega)
  clear HT HU
  have HPO : Hid (b3 < W4.heap.size) := HP_r.out.pag.lt
  obtain ⟨xc0, xc1, xc2, xcl⟩ := HP_a.out
  obtain ⟨zp0, zp1, zp2, zp3, zp4, zp5, zf0, zf1, zf2, zf3, zf4, zf5, zfl⟩ := HP_r.out.pag
  simp only [List.length_cons, List.length_nil, Nat.zero_add, Nat.reduceAdd] at zp5
  go_wp2_with fail
  refine (C4.out _ _ _ _ HP_r.out.strs).mono ?_
  rintro e w5 ⟨B5, ao5, cp5, rfl, hS5, hF5, ho, hB5⟩
  clear xc0 xc1 xc2 xcl
  clear zp0 zf0 zp1 zf1 zp2 zf2 zp3 zf3 zp4 zf4 zp5 zf5 zfl
  have HE5 : Hid (b3 < B5) := by unfold Hid; have := hB5 (by simp); have := HPO.out; omega
  have HP_a := hide (HP_a.out.more ho)
  have HP_b := hide (HP_b.out.more ho)
  have HP_q := hide (HP_q.out.more ho)
  have HP_r := hide (HP_r.out.more ho)
  have HO := hide (o2 HO.out ho)
  have HT := hide (PgB.put (p := ⟨0, 1, 0, 0, ⟨#[]⟩, [S, T3]⟩) HP_r.out.pag hS5 hF5 (fun _ => by have := HD1.out; have := HE1.out; have := HD2.out; have := HE2.out; have := HD3.out; have := HE3.out; have := HE4.out; have := HE5.out; omega))
  have HU := hide (Only.six w5 b3 (.int .i64 0) (.int .i64 1) (.int .i64 0) (.int .i64 0) (.string ⟨#[]⟩) (.slice ao5 2 cp5))
  simp only [List.length_cons, List.length_nil, Nat.zero_add, Nat.reduceAdd] at HT ⊢
  clear hS5 hF5 hB5 ho
  obtain ⟨zp0, zp1, zp2, zp3, zp4, zp5, zf0, zf1, zf2, zf3, zf4, zf5, zfl⟩ := HP_r.out.pag
  simp only [List.length_cons, List.length_nil, Nat.zero_add, Nat.reduceAdd] at zp5
  go_upto_region 10 with fail
  clear zp0 zf0 zp1 zf1 zp2 zf2 zp3 zf3 zp4 zf4 zp5 zf5 zfl
  obtain ⟨W5, hW⟩ : ∃ W, ((((((w5.setCell ⟨b3, 0, none⟩ (.int .i64 0)).setCell ⟨b3, 1, none⟩ (.int .i64 1)).setCell ⟨b3, 2, none⟩ (.int .i64 0)).setCell ⟨b3, 3, none⟩ (.int .i64 0)).setCell ⟨b3, 4, none⟩ (.string ⟨#[]⟩)).setCell ⟨b3, 5, none⟩ (.slice ao5 2 cp5)) = W := ⟨_, rfl⟩
  rw [hW] at HT HU ⊢
  clear hW
  have HP_a := hide (HP_a.out.kept HU.out (by have := HD1.out; have := HE1.out; have := HD2.out; have := HE2.out; have := HD3.out; have := HE3.out; have := HE4.out; have := HE5.out; omega))
  have HP_b := hide (HP_b.out.kept HU.out (by have := HD1.out; have := HE1.out; have := HD2.out; have := HE2.out; have := HD3.out; have := HE3.out; have := HE4.out; have := HE5.out; omega))
  have HP_q := hide (HP_q.out.kept HU.out (by have := HD1.out; have := HE1.out; have := HD2.out; have := HE2.out; have := HD3.out; have := HE3.out; have := HE4.out; have := HE5.out; omega) (fun _ => by have := HD1.out; have := HE1.out; have := HD2.out; have := HE2.out; have := HD3.out; have := HE3.out; have := HE4.out; have := HE5.out; omega))
  have HP_r := HT
  have HO : Hid (Only (fun _ => False) w W5) := HO.out.trans HU.out (fun i hi e => by have := HD1.out; have := HE1.out; have := HD2.out; have := HE2.out; have := HD3.out; have := HE3.out; have := HE4.out; have := HE5.out; omega)
  clear HT HU
  have HPO : Hid (b3 < W5.heap.size) := HP_r.out.pag.lt
  obtain ⟨xc0, xc1, xc2, xcl⟩ := HP_a.out
  obtain ⟨zp0, zp1, zp2, zp3, zp4, zp5, zf0, zf1, zf2, zf3, zf4, zf5, zfl⟩ := HP_q.out.pag
  simp only [List.length_cons, List.length_nil, Nat.zero_add, Nat.reduceAdd] at zp5
  go_wp2_with fail
  refine (G1.out _ _ _ _ HP_q.out.strs).mono ?_
  rintro e w6 ⟨rfl, ho⟩
  clear xc0 xc1 xc2 xcl
  clear zp0 zf0 zp1 zf1 zp2 zf2 zp3 zf3 zp4 zf4 zp5 zf5 zfl
  have HP_a := hide (HP_a.out.more ho)
  have HP_b := hide (HP_b.out.more ho)
  have HP_q := hide (HP_q.out.more ho)
  have HP_r := hide (HP_r.out.more ho)
  have HO := hide (o2 HO.out ho)
  clear ho
  go_upto_region 11 with fail
  obtain ⟨xc0, xc1, xc2, xcl⟩ := HP_b.out
  obtain ⟨zp0, zp1, zp2, zp3, zp4, zp5, zf0, zf1, zf2, zf3, zf4, zf5, zfl⟩ := HP_q.out.pag
  simp only [List.length_cons, List.length_nil, Nat.zero_add, Nat.reduceAdd] at zp5
  go_wp2_with fail
  refine (G2.out _ _ _ _ HP_q.out.strs).mono ?_
  rintro e w7 ⟨rfl, ho⟩
  clear xc0 xc1 xc2 xcl
  clear zp0 zf0 zp1 zf1 zp2 zf2 zp3 zf3 zp4 zf4 zp5 zf5 zfl
  have HP_a := hide (HP_a.out.more ho)
  have HP_b := hide (HP_b.out.more ho)
  have HP_q := hide (HP_q.out.more ho)
  have HP_r := hide (HP_r.out.more ho)
  have HO := hide (o2 HO.out ho)
  clear ho
  go_upto_region 12 with fail
  obtain ⟨yp0, yp1, yp2, yp3, yp4, yp5, yf0, yf1, yf2, yf3, yf4, yf5, yfl⟩ := HP_q.out.pag
  simp only [List.length_cons, List.length_nil, Nat.zero_add, Nat.reduceAdd] at yp5
  obtain ⟨zp0, zp1, zp2, zp3, zp4, zp5, zf0, zf1, zf2, zf3, zf4, zf5, zfl⟩ := HP_r.out.pag
  simp only [List.length_cons, List.length_nil, Nat.zero_add, Nat.reduceAdd] at zp5
  go_wp2_with fail
  refine (HSAME.out _ _ _ _ _ _ _ HP_q.out.strs HP_r.out.strs).mono ?_
  rintro e w8 ⟨rfl, ho⟩
  clear yp0 yf0 yp1 yf1 yp2 yf2 yp3 yf3 yp4 yf4 yp5 yf5 yfl
  clear zp0 zf0 zp1 zf1 zp2 zf2 zp3 zf3 zp4 zf4 zp5 zf5 zfl
  have HP_a := hide (HP_a.out.more ho)
  have HP_b := hide (HP_b.out.more ho)
  have HP_q := hide (HP_q.out.more ho)
  have HP_r := hide (HP_r.out.more ho)
  have HO := hide (o2 HO.out ho)
  clear ho
  obtain ⟨xc0, xc1, xc2, xcl⟩ := HP_a.out
  obtain ⟨yc0, yc1, yc2, ycl⟩ := HP_b.out
  go_wp2_with fail
  refine (cawake_any _).mono ?_
  rintro e w9 ⟨rfl, ho⟩
  have HO := hide (o2 HO.out ho)
  clear ho
  go_wp2_with fail
  go_ret
  exact ⟨rfl, HO.out⟩
theorem apart_law (w : World) (m xa xb : Int) (ca cb : Bool) (sa sb : Nat) (hm : I64 m) (hx : I64 xa) (hy : I64 xb) (ha : sa < 256) (hb : sb < 256) :
    Calls Try.prog 7 #[.int .i64 m, .agg #[.bool ca, .int .i64 xa, .int .u8 (sa : Int)], .agg #[.bool cb, .int .i64 xb, .int .u8 (sb : Int)]] w fun e w' => e = .returned (.bool true) ∧ Only (fun _ => False) w w' := by
  by_cases hM : Idd m 1
  · by_cases he : xa = xb
    · exact apart_same w m xa xb ca cb sa sb hM hx he
    · by_cases hc : setC m (blankP m 1) xa sa = 0 ∧ setC m (blankP m 1) xb sb = 0
      · obtain ⟨i1, _, s1⟩ := setC_zero hc.1
        obtain ⟨i2, _, s2⟩ := setC_zero hc.2
        exact apart_good w m xa xb ca cb sa sb hM i1 i2 he s1 s2
      · exact apart_bad w m xa xb ca cb sa sb hM hx hy he ha hb hc
  · exact apart_mod w m xa xb ca cb sa sb hm hM
-- A}
end Go.Proofs.Ytcpgflkjeglgbaa
