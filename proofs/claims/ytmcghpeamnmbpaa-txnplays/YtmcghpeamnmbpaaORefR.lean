/- What the document's Running and Same do; the law's same; both tables side by side. -/
import Derived.Test.YtmcghpeamnmbpaaORefN
import Derived.Test.YtmcghpeamnmbpaaORefL
import Derived.Test.YtmcghpeamnmbpaaOSame2
namespace Go.Proofs.Ytmcghpeamnmbpaa
open Go.RowKit Go.Maps

set_option maxRecDepth 100000 in
set_option maxHeartbeats 1600000 in
theorem rrunning_any (w : World) (Y : Nat → Prop) (r n : Nat) (f : Tt) (ao : Option Addr) (cp : Nat) (R : List Rw) (H : Rm w Y r n f ao cp R) (hn : n ≤ 4398046511103) : Calls Try.prog 39 #[.pointer (some ⟨r, 0, none⟩)] w fun e w' => RI e w w' n f ∧ Only (fun _ => False) w w' := by
  have HC := hide (rbegun_any w Y r n f ao cp R H hn)
  clear H
  go_enter Try.func39, Try.ntmps39
  go_wp2_with fail
  refine HC.out.mono ?_
  rintro e w1 ⟨⟨aB, cB, B, rfl, hB, hI, hln⟩, hO1⟩
  have HB := hide hB
  have HI := hide hI
  have HO1 := hide hO1
  clear hB hI hO1 HC
  go_wp2_with fail
  go_loopw [4, 5] (fun v y wr => ∃ (j : Nat), j ≤ B.length ∧ y = .int .i64 (j : Int) ∧ Hid (IRow wr w1.heap.size v ((B.take j).map (·.1))) ∧ Hid (Only (fun _ => False) w1 wr)) (fun _ y _ => B.length - (intOf y).toNat)
  case atStart => exact ⟨0, by omega, rfl, GRow.nil _ _, Only.refl _ _⟩
  case round =>
    obtain ⟨j, hj, rfl, HV, HO⟩ := hrel
    have HBr := hide (HB.out.more HO.out)
    by_cases hlt : j < B.length
    · obtain ⟨gB, rfl, _, _, _, kk⟩ := HBr.out.at_ hlt
      have k1 : wr.cell? ⟨gB, j * 2 + 0, none⟩ = some (.int .i64 B[j].1) := kk 0 (iv B[j].1) (by decide) rfl
      rw [Nat.add_zero] at k1
      have htk : (B.take (j + 1)).map (·.1) = (B.take j).map (·.1) ++ [B[j].1] := by rw [List.take_succ_eq_append_getElem hlt, List.map_append]; rfl
      obtain ⟨x, hx⟩ : ∃ x, B[j].1 = x := ⟨_, rfl⟩
      rw [hx] at k1 htk
      have HTK := hide htk
      have hwl := HO.out.size
      have hfl : ((B.take j).map (·.1)).length ≤ n := by rw [List.length_map, List.length_take]; omega
      have hj0 : (0 : Int) ≤ (j : Int) := by omega
      have hj1 : (j : Int) < (B.length : Int) := by omega
      clear hx htk kk
      obtain ⟨v', X3, hr, hrow, ho3, _⟩ := irow_one HV.out x (by omega) hwl 27 1
      have HR := hide hr
      have HV2 : Hid (IRow X3 w1.heap.size v' ((B.take (j + 1)).map (·.1))) := by
        rw [HTK.out]
        exact hrow
      have HO2 : Hid (Only (fun _ => False) w1 X3) := GRow.only HV.out HO.out ho3
      clear hr hrow ho3
      go_wp2_with (at_builtin; go_must (refine Lib.wpList_append_run _ rfl _ _ _ _ rfl _ _ rfl rfl _ _ HR.out ?_); go_frame)
      exact ⟨⟨j + 1, by omega, by go_num, HV2, HO2⟩, by simp [intOf]; omega⟩
    · have ej : B.take j = B := List.take_of_length_le (by omega)
      rw [ej] at HV
      obtain ⟨ao, cp, hv⟩ : ∃ ao cp, u4 = .slice ao (B.map (·.1)).length cp := HV.out.form
      rw [List.length_map] at hv
      subst hv
      clear ej
      go_wp2_with fail
      go_ret
      exact ⟨⟨ao, cp, B, rfl, HV.out.base HO1.out.size, HI.out, hln⟩, o2 HO1.out HO.out⟩
set_option maxRecDepth 100000 in
set_option maxHeartbeats 1600000 in
theorem rsame_eq (w : World) (Q1 Q2 : Nat → Prop) (x : Tx) (a1 a2 : Option Addr) (c1 c2 : Nat) (h1 : Nm w Q1 a1 x.act) (h2 : Nm w Q2 a2 x.act) : Calls Try.prog 18 #[txv x a1 c1, txv x a2 c2] w fun e w' => e = .returned (.bool true) ∧ Only (fun _ => False) w w' := by
  obtain ⟨nx, act, xi, fi, la, un⟩ := x
  unfold txv
  simp only at h1 h2 ⊢
  obtain ⟨W2, hW2⟩ : ∃ x, (w.alloc (.cells #[.int .i64 nx, .slice a1 act.length c1, .int .i64 xi, .int .i64 fi, .int .i64 la, .int .i64 un] 37)).alloc (.cells #[.int .i64 nx, .slice a2 act.length c2, .int .i64 xi, .int .i64 fi, .int .i64 la, .int .i64 un] 37) = x := ⟨_, rfl⟩
  have HB1 : Hid (Cb W2 w.heap.size [.int .i64 nx, .slice a1 act.length c1, .int .i64 xi, .int .i64 fi, .int .i64 la, .int .i64 un]) := by unfold Hid; rw [← hW2]; exact (Cb.new w _ _).more (onlyA _ _ _)
  have HB2 : Hid (Cb W2 (w.heap.size + 1) [.int .i64 nx, .slice a2 act.length c2, .int .i64 xi, .int .i64 fi, .int .i64 la, .int .i64 un]) := by unfold Hid; rw [← hW2]; exact Cb.at _ _ (by simp) _ _
  have HO2 : Hid (Only (fun _ => False) w W2) := by unfold Hid; rw [← hW2]; exact o2 (onlyA _ _ _) (onlyA _ _ _)
  have HC := hide (sameSnap_eq W2 Q1 Q2 nx a1 a2 c1 c2 act (h1.more HO2.out) (h2.more HO2.out))
  have HW2 := hide hW2
  obtain ⟨sz, hsz⟩ : ∃ z, w.heap.size = z := ⟨_, rfl⟩
  rw [hsz] at HB1 HB2
  have HSZ := hide hsz
  clear h1 h2 hW2 hsz
  go_enter Try.func18, Try.ntmps18
  go_upto_region 1 with fail
  rw [HW2.out, HSZ.out]
  have b0 := HB1.out.c 0 _ rfl
  have b1 := HB1.out.c 1 _ rfl
  have d0 := HB2.out.c 0 _ rfl
  have d1 := HB2.out.c 1 _ rfl
  go_wp2_with fail
  refine HC.out.mono ?_
  rintro e w3 ⟨rfl, hO⟩
  have HO := hide hO
  have b2 := (HB1.out.more hO).c 2 _ rfl
  have b3 := (HB1.out.more hO).c 3 _ rfl
  have b4 := (HB1.out.more hO).c 4 _ rfl
  have b5 := (HB1.out.more hO).c 5 _ rfl
  have d2 := (HB2.out.more hO).c 2 _ rfl
  have d3 := (HB2.out.more hO).c 3 _ rfl
  have d4 := (HB2.out.more hO).c 4 _ rfl
  have d5 := (HB2.out.more hO).c 5 _ rfl
  clear hO b0 b1 d0 d1
  go_wp2_with fail
  go_ret
  exact ⟨rfl, o2 HO2.out HO.out⟩
theorem Rt.more {Y : Nat → Prop} {w w' : World} {r n : Nat} {f : Tt} (H : Rt w Y r n f) (ho : Only (fun _ => False) w w') : Rt w' Y r n f := H.kept ho (fun _ _ _ => id)
set_option maxRecDepth 100000 in
set_option maxHeartbeats 3200000 in
theorem lsame_eq (w0 w : World) (K Y : Nat → Prop) (t r n : Nat) (f : Tt) (HT : Lw w0 K w t f n) (HR : Rt w Y r n f) (hn : n ≤ 4398046511103) : Calls Try.prog 21 #[.pointer (some ⟨t, 0, none⟩), .pointer (some ⟨r, 0, none⟩)] w fun e w' => e = .returned (.bool true) ∧ Only (fun _ => False) w w' := by
  obtain ⟨ao, cp, R, HR⟩ := HR
  have HC := hide (lw_run w0 w K t n f HT hn)
  have HT0 := hide HT
  have HR0 := hide HR
  clear HT HR
  go_enter Try.func21, Try.ntmps21
  go_wp2_with fail
  refine HC.out.mono ?_
  rintro e w1 ⟨⟨a1, c1, M, rfl, h1, hB, hl⟩, ho1⟩
  have HO1 := hide ho1
  have HBI := hide hB
  have HM := hide h1
  have HC := hide (rrunning_any w1 Y r n f ao cp R (HR0.out.more ho1) hn)
  clear h1 hB ho1
  go_wp2_with fail
  refine HC.out.mono ?_
  rintro e w2 ⟨⟨a2, c2, M2, rfl, h2, hB, hl2⟩, ho2⟩
  obtain rfl : M2 = M := HBI.out.one hB
  have HO2 := hide (o2 HO1.out ho2)
  have HC := hide (sameInts_eq w2 _ _ a1 a2 c1 c2 M2.length (M2.map (·.1)) (List.length_map _) (GRow.nm (cp := c1) (by rw [List.length_map]; exact GRow.more HM.out ho2) (by rw [List.length_map]; omega)) (GRow.nm (cp := c2) (by rw [List.length_map]; exact h2) (by rw [List.length_map]; omega)))
  clear h2 hB ho2 hl2 HM HO1
  go_wp2_with fail
  refine HC.out.mono ?_
  rintro e w3 ⟨rfl, ho3⟩
  have HO3 := hide (o2 HO2.out ho3)
  have HC := hide (lw_snaps w0 w3 K t n f (HT0.out.more HO3.out) hn)
  clear ho3 HO2
  go_wp2_with fail
  refine HC.out.mono ?_
  rintro e w4 ⟨⟨a4, c4, S4, rfl, h4, hI4, hl4, hN4⟩, ho4⟩
  have HO4 := hide (o2 HO3.out ho4)
  have H4 := hide h4
  have HI4 := hide hI4
  have HN4 := hide hN4
  have HC := hide (rsnaps_any w4 Y r n f ao cp R (HR0.out.more HO4.out) hn)
  clear h4 hI4 hN4 ho4 HO3
  go_wp2_with fail
  refine HC.out.mono ?_
  rintro e w5 ⟨⟨a5, c5, S5, rfl, h5, hI5, hl5, hN5⟩, ho5⟩
  have hpe : S4.map Sp.p = S5.map Sp.p := hI5.one HI4.out
  have hle : S5.length = S4.length := by
    have := congrArg List.length hpe
    simpa using this.symm
  have HO5 := hide (o2 HO4.out ho5)
  have HC := hide (lsnaps_eq w5 _ _ _ _ a4 a5 c4 c5 S4.length S4 S5 hpe rfl hle (GRow.more H4.out ho5) h5 (fun s hs => (HN4.out s hs).more ho5) hN5 (by omega))
  have HLE := hide hle
  clear h5 hI5 hl5 hN5 ho5 hpe hle H4 HI4 HN4 HO4
  go_wp2_with fail
  rw [HLE.out]
  refine HC.out.mono ?_
  rintro e w6 ⟨rfl, ho6⟩
  have HO6 := hide (o2 HO5.out ho6)
  have HC := hide (lw_old w0 w6 K t n f (HT0.out.more HO6.out))
  clear ho6 HO5
  go_wp2_with fail
  refine HC.out.mono ?_
  rintro e w7 ⟨⟨n7, rfl, hn7⟩, ho7⟩
  have HN7 := hide hn7
  have HO7 := hide (o2 HO6.out ho7)
  have HC := hide (roldest_any w7 Y r n f ao cp R (HR0.out.more HO7.out) (by omega))
  clear hn7 ho7 HO6
  go_wp2_with fail
  refine HC.out.mono ?_
  rintro e w8 ⟨⟨n8, rfl, hn8⟩, ho8⟩
  obtain rfl : n8 = n7 := HN7.out.one hn8
  have HO8 := hide (o2 HO7.out ho8)
  have HC := hide (lw_bgn w0 w8 K t n f (HT0.out.more HO8.out) hn)
  clear hn8 ho8 HO7 HN7
  go_wp2_with fail
  refine HC.out.mono ?_
  rintro e w9 ⟨⟨a9, c9, B9, rfl, h9, hB9, hl9⟩, ho9⟩
  obtain rfl : B9 = M2 := HBI.out.one hB9
  have HO9 := hide (o2 HO8.out ho9)
  have H9 := hide h9
  have HC := hide (rbegun_any w9 Y r n f ao cp R (HR0.out.more HO9.out) hn)
  clear h9 hB9 hl9 ho9 HO8
  go_wp2_with fail
  refine HC.out.mono ?_
  rintro e w10 ⟨⟨a10, c10, B10, rfl, h10, hB10, hl10⟩, ho10⟩
  obtain rfl : B10 = B9 := HBI.out.one hB10
  have HO10 := hide (o2 HO9.out ho10)
  have HC := hide (lbegun_eq w10 _ _ a9 a10 c9 c10 B10 (GRow.more H9.out ho10) h10 (by omega))
  clear h10 hB10 hl10 ho10 HO9 H9
  go_wp2_with fail
  refine HC.out.mono ?_
  rintro e w11 ⟨rfl, ho11⟩
  have HO11 := hide (o2 HO10.out ho11)
  clear ho11 HO10
  go_wp2_with fail
  go_ret
  exact ⟨rfl, HO11.out⟩
/-- Both tables, made since w0, apart from one another and from the law's own blocks. -/
structure Py (w0 : World) (X : Nat → Prop) (w : World) (t r n1 n2 : Nat) (f h : Tt) : Prop where
  ex : ∃ Y : Nat → Prop, Lw w0 (fun k => X k ∨ Y k) w t f n1 ∧ Rt w Y r n2 h ∧ ∀ k, Y k → w0.heap.size ≤ k ∧ k < w.heap.size ∧ ¬ X k
/-- What the law's own blocks never see. -/
def Ef (w0 : World) (X : Nat → Prop) (w w' : World) : Prop := Only (fun k => w0.heap.size ≤ k ∧ ¬ X k) w w'
theorem Ef.of {w0 w w1 : World} {X : Nat → Prop} (h : Only (fun _ => False) w w1) : Ef w0 X w w1 := h.mono (fun _ _ h => h.elim)
theorem Ef.trans {w0 w w1 w2 : World} {X : Nat → Prop} (h : Ef w0 X w w1) (k : Ef w0 X w1 w2) : Ef w0 X w w2 := Only.trans h k (fun _ _ h => h)
theorem Py.mono {w0 w : World} {X : Nat → Prop} {t r n1 n2 m1 m2 : Nat} {f h : Tt} (H : Py w0 X w t r n1 n2 f h) (h1 : n1 ≤ m1) (h2 : n2 ≤ m2) : Py w0 X w t r m1 m2 f h := by
  obtain ⟨Y, hl, ⟨ao, cp, R, hr⟩, hY⟩ := H.ex
  exact ⟨Y, hl.mono h1, ⟨ao, cp, R, hr.mono h2⟩, hY⟩
theorem Py.kept {S X : Nat → Prop} {w0 w w' : World} {t r n1 n2 : Nat} {f h : Tt} (H : Py w0 X w t r n1 n2 f h) (ho : Only S w w') (hS : ∀ k, S k → X k ∨ k < w0.heap.size) : Py w0 X w' t r n1 n2 f h := by
  obtain ⟨Y, hl, hr, hY⟩ := H.ex
  refine ⟨Y, hl.kept ho (fun k hk => (hS k hk).elim (fun h => .inl (.inl h)) .inr), hr.kept ho (fun k _ hk hs => ?_), fun k hk => ⟨(hY k hk).1, Nat.lt_of_lt_of_le (hY k hk).2.1 ho.size, (hY k hk).2.2⟩⟩
  rcases hS k hs with h1 | h1
  · exact (hY k hk).2.2 h1
  · have := (hY k hk).1; omega
theorem Py.more {X : Nat → Prop} {w0 w w' : World} {t r n1 n2 : Nat} {f h : Tt} (H : Py w0 X w t r n1 n2 f h) (ho : Only (fun _ => False) w w') : Py w0 X w' t r n1 n2 f h := H.kept ho (fun _ h => h.elim)
/-- Less of one's own. -/
theorem Py.less {X X' : Nat → Prop} {w0 w : World} {t r n1 n2 : Nat} {f h : Tt} (H : Py w0 X w t r n1 n2 f h) (hX : ∀ k, X' k → X k) : Py w0 X' w t r n1 n2 f h := by
  obtain ⟨Y, hl, hr, hY⟩ := H.ex
  obtain ⟨m, Z, hT, hZ⟩ := hl.ex
  exact ⟨Y, ⟨m, Z, hT, fun k hk => ⟨(hZ k hk).1, (hZ k hk).2.1, fun e => (hZ k hk).2.2 (e.elim (fun e => .inl (hX k e)) .inr)⟩⟩, hr, fun k hk => ⟨(hY k hk).1, (hY k hk).2.1, fun e => (hY k hk).2.2 (hX k e)⟩⟩
/-- All that has been made behind w is one's own. -/
theorem Py.fence {X : Nat → Prop} {w0 w w' : World} {t r n1 n2 : Nat} {f h : Tt} (H : Py w0 X w t r n1 n2 f h) (ho : Only (fun _ => False) w w') : Py w0 (fun k => X k ∨ (w.heap.size ≤ k ∧ k < w'.heap.size)) w' t r n1 n2 f h := by
  obtain ⟨Y, hl, hr, hY⟩ := H.ex
  obtain ⟨m, Z, hT, hZ⟩ := hl.ex
  refine ⟨Y, ⟨m, Z, hT.more ho, fun k hk => ⟨(hZ k hk).1, Nat.lt_of_lt_of_le (hZ k hk).2.1 ho.size, fun e => ?_⟩⟩, hr.more ho, fun k hk => ⟨(hY k hk).1, Nat.lt_of_lt_of_le (hY k hk).2.1 ho.size, fun e => ?_⟩⟩
  · rcases e with (e | e) | e
    · exact (hZ k hk).2.2 (.inl e)
    · have := (hZ k hk).2.1; omega
    · exact (hZ k hk).2.2 (.inr e)
  · rcases e with e | e
    · exact (hY k hk).2.2 e
    · have := (hY k hk).2.1; omega
/-- A call of the code's table. -/
theorem Py.code {X : Nat → Prop} {w0 w : World} {t r n1 n2 : Nat} {f h : Tt} (H : Py w0 X w t r n1 n2 f h) (hX : ∀ k, X k → k < w.heap.size) : ∃ K : Nat → Prop, Lw w0 K w t f n1 ∧ (∀ k, K k → k < w.heap.size) ∧ ∀ w' f', Lw w0 K w' t f' (n1 + 1) → Eff w0 K w w' → Py w0 X w' t r (n1 + 1) n2 f' h ∧ Ef w0 X w w' := by
  obtain ⟨Y, hl, hr, hY⟩ := H.ex
  refine ⟨_, hl, fun k hk => hk.elim (hX k) (fun h => (hY k h).2.1), fun w' f' h1 h2 => ⟨⟨Y, h1, hr.kept h2 (fun k _ hk hs => hs.2 (.inr hk)), fun k hk => ⟨(hY k hk).1, Nat.lt_of_lt_of_le (hY k hk).2.1 h2.size, (hY k hk).2.2⟩⟩, Only.mono h2 (fun k _ hs => ⟨hs.1, fun e => hs.2 (.inl e)⟩)⟩⟩
/-- A call of the document's table. -/
theorem Py.doc {X : Nat → Prop} {w0 w : World} {t r n1 n2 : Nat} {f h : Tt} (H : Py w0 X w t r n1 n2 f h) (hX : ∀ k, X k → k < w.heap.size) : ∃ (Y : Nat → Prop) (ao : Option Addr) (cp : Nat) (R : List Rw), Rm w Y r n2 h ao cp R ∧ (∀ k, Y k → k < w.heap.size) ∧ Y r ∧ ∀ w' h' m, Rt w' (Zp Y w.heap.size) r m h' → Only Y w w' → Py w0 X w' t r n1 m f h' ∧ Ef w0 X w w' := by
  obtain ⟨Y, hl, ⟨ao, cp, R, hr⟩, hY⟩ := H.ex
  refine ⟨Y, ao, cp, R, hr, fun k hk => (hY k hk).2.1, hr.yr, fun w' h' m h1 h2 => ⟨?_, h2.mono (fun k _ hk => ⟨(hY k hk).1, (hY k hk).2.2⟩)⟩⟩
  have hl2 := hl.kept h2 (fun k hk => .inl (.inr hk))
  obtain ⟨m', Z, hT, hZ⟩ := hl2.ex
  obtain ⟨m0, Z0, hT0, hZ0⟩ := hl.ex
  have hsz := hl.size
  obtain ⟨ao', cp', R', hr'⟩ := h1
  have hl3 : Lw w0 (fun k => X k ∨ (Zp Y w.heap.size k ∧ k < w'.heap.size)) w' t f n1 := by
    refine ⟨m0, Z0, hT0.kept h2 (fun k _ hz hs => (hZ0 k hz).2.2 (.inr hs)), fun k hk => ⟨(hZ0 k hk).1, Nat.lt_of_lt_of_le (hZ0 k hk).2.1 h2.size, fun e => ?_⟩⟩
    rcases e with e | ⟨e | e, _⟩
    · exact (hZ0 k hk).2.2 (.inl e)
    · exact (hZ0 k hk).2.2 (.inr e)
    · have := (hZ0 k hk).2.1; omega
  refine ⟨fun k => Zp Y w.heap.size k ∧ k < w'.heap.size, hl3, ⟨ao', cp', R', hr'.fit⟩, fun k hk => ?_⟩
  rcases hk.1 with h3 | h3
  · exact ⟨(hY k h3).1, hk.2, (hY k h3).2.2⟩
  · exact ⟨by omega, hk.2, fun e => by have := hX k e; omega⟩
theorem py_start (w0 w : World) (h : w0.heap.size ≤ w.heap.size) (t : Nat) (H : Lw w0 (fun _ => False) w t Tt.none 0) : Calls Try.prog 9 #[] w fun e w' => ∃ r, e = .returned (.pointer (some ⟨r, 0, none⟩)) ∧ Py w0 (fun _ => False) w' t r 0 0 Tt.none Tt.none ∧ Only (fun _ => False) w w' := by
  refine (rnew_any w).mono ?_
  rintro e w' ⟨r, rfl, hr, hO⟩
  obtain ⟨m, Z, hT, hZ⟩ := H.ex
  refine ⟨r, rfl, ⟨fun k => w.heap.size ≤ k ∧ k < w'.heap.size, ⟨m, Z, hT.more hO, fun k hk => ⟨(hZ k hk).1, Nat.lt_of_lt_of_le (hZ k hk).2.1 hO.size, fun e => ?_⟩⟩, ⟨_, _, _, hr.fit⟩, fun k hk => ⟨Nat.le_trans h hk.1, hk.2, id⟩⟩, hO⟩
  rcases e with e | e
  · exact e
  · have := (hZ k hk).2.1; omega
end Go.Proofs.Ytmcghpeamnmbpaa
