/- Walk of NodeSplits. -/
import Derived.Test.YthhlmhghiknnkaaNSame
namespace Go.Proofs.Ythhlmhghiknnkaa
open Go.RowKit

theorem two_apps (W : World) (Bx ox cx By oy cy n : Nat) (xs ys : List En) (hx : ∀ j (hj : j < xs.length), Eb W Bx (ox + j * 3) xs[j]) (hy : ∀ j (hj : j < ys.length), Eb W By (oy + j * 3) ys[j]) (hn : xs.length + ys.length = n) (hl : n ≤ 1000) :
    ∃ A1 C1 y1 A2 C2 y2, (Builtin.append_ #[35, 35] 35 #[.slice (some ⟨W.heap.size, 0, none⟩) 0 0, .slice (some ⟨Bx, ox, none⟩) xs.length cx]).run Try.prog ((W.alloc (.cells #[] 23)).drew) = .ok (.slice A1 xs.length C1) y1 ∧
      (Builtin.append_ #[35, 35] 35 #[.slice A1 xs.length C1, .slice (some ⟨By, oy, none⟩) ys.length cy]).run Try.prog y1 = .ok (.slice A2 n C2) y2 ∧ Ets y2 W.heap.size (.slice A2 n C2) (xs ++ ys) ∧ Only (fun _ => False) W y1 ∧ Only (fun _ => False) W y2 := by
  have o0 : Only (fun _ => False) W ((W.alloc (.cells #[] 23)).drew) := o2 (onlyA _ _) (Only.drew _ _)
  have e0 : Ets ((W.alloc (.cells #[] 23)).drew) W.heap.size (.slice (some ⟨W.heap.size, 0, none⟩) 0 0) [] := by
    have h : Ets (W.alloc (.cells #[] 23)) W.heap.size (.slice (some ⟨W.heap.size, 0, none⟩) 0 0) [] := World.ownsRow_made W #[] 0 (Nat.le_refl _) (Nat.zero_le _) rfl
    exact h.more (Only.drew _ _)
  obtain ⟨A1, C1, y1, r1, e1, o1, _⟩ := ets_append _ W.heap.size _ _ e0 Bx ox xs.length cx xs rfl (fun j hj => (hx j hj).more o0) (by simp; omega) o0.size
  have hz : ([] : List En).length + xs.length = xs.length := by simp
  rw [hz] at r1 e1
  rw [List.nil_append] at e1
  have q1 : Only (fun _ => False) W y1 := o0.trans o1 (fun i hi h => by
    have : W.heap.size = i := by simpa [Value.ownBlock] using h
    omega)
  obtain ⟨A2, C2, y2, r2, e2, o2', _⟩ := ets_append y1 W.heap.size _ _ e1 By oy ys.length cy ys rfl (fun j hj => (hy j hj).more q1) (by omega) q1.size
  rw [hn] at r2 e2
  exact ⟨A1, C1, y1, A2, C2, y2, r1, r2, e2, q1, q1.trans o2' (fun i hi h => by have := (World.ownsRow.lt e1 i h).1; omega)⟩
theorem one_app (W : World) (e : En) (By oy cy n N1 : Nat) (ys : List En) (hy : ∀ j (hj : j < ys.length), Eb W By (oy + j * 3) ys[j]) (hn : ys.length = n) (hN : n + 1 = N1) (hl : n ≤ 1000) :
    ∃ A1 C1 y1, (Builtin.append_ #[35, 35] 35 #[.slice (some ⟨W.heap.size, 0, none⟩) 1 1, .slice (some ⟨By, oy, none⟩) n cy]).run Try.prog (W.alloc (.cells #[.string e.key, .int .i64 e.page, .int .i64 e.slot] 23)) = .ok (.slice A1 N1 C1) y1 ∧ Ets y1 W.heap.size (.slice A1 N1 C1) (e :: ys) ∧ Only (fun _ => False) W y1 := by
  have e0 : Ets (W.alloc (.cells #[.string e.key, .int .i64 e.page, .int .i64 e.slot] 23)) W.heap.size (.slice (some ⟨W.heap.size, 0, none⟩) 1 1) [e] := World.ownsRow_lit W #[.string e.key, .int .i64 e.page, .int .i64 e.slot] 1 (Nat.le_refl _) (by unfold maxLen; omega) rfl
  obtain ⟨A1, C1, y1, r1, e1, o1, _⟩ := ets_append _ W.heap.size _ _ e0 By oy n cy ys hn (fun j hj => (hy j hj).more (onlyA _ _)) (by simp; omega) (onlyA W _).size
  have hz : [e].length + n = N1 := by simp; omega
  rw [hz] at r1 e1
  exact ⟨A1, C1, y1, r1, e1, (onlyA W _).trans o1 (fun i hi h => by
    have : W.heap.size = i := by simpa [Value.ownBlock] using h
    omega)⟩
/-- What Beyond and Child answer of an entry, told by whether it is behind the border. -/
theorem by_ok {b f : En} (hb : b.ok = true) (hf : f.ok = true) : byV b f = .tuple #[.bool (decide (b.lt f)), .int .i64 0] := by
  unfold byV
  rw [if_pos hf]
  have : byd b f = decide (b.lt f) := by
    unfold byd
    exact decide_eq_decide.2 ⟨fun h => h.2, fun h => ⟨En.ok_ne hb, h⟩⟩
  rw [this]
theorem by_bad {b f : En} (hf : f.ok = false) : byV b f = .tuple #[.bool false, .int .i64 140] := by
  unfold byV
  rw [if_neg (by simp [hf])]
theorem ch_ok {b f : En} (hf : f.ok = true) : chV [(noE, 8), (b, 9)] noE f = .tuple #[.int .i64 (if b.lt f then 9 else 8), .int .i64 0] := by
  unfold chV chE
  rw [if_pos ⟨hf, byd_noE _⟩]
  have h1 : plE ([(noE, (8 : Int)), (b, 9)].map Prod.fst) f = if b.lt f then 2 else 1 := by
    unfold plE
    by_cases h : b.lt f
    · simp [noE_lt hf, h]
    · simp [noE_lt hf, h]
  rw [h1]
  by_cases h : b.lt f
  · rw [if_pos h, if_pos h]; rfl
  · rw [if_neg h, if_neg h]; rfl
theorem ch_bad {b f : En} (hf : f.ok = false) : chV [(noE, 8), (b, 9)] noE f = .tuple #[.int .i64 0, .int .i64 140] := by
  unfold chV
  rw [if_neg (by simp [hf])]
/-- Of an entry of the leaf: it stands in the left half just if it is not behind the border. -/
theorem half_side {es : List En} (hr : Rise es) (P i : Nat) (hP : P < es.length) (hi : i < es.length) : decide (es[i] ∈ es.take (P + 1)) = !decide (es[P].lt es[i]) := by
  rw [Bool.eq_iff_iff]
  simp only [decide_eq_true_eq, Bool.not_eq_true', decide_eq_false_iff_not]
  constructor
  · intro h hlt
    obtain ⟨k, hk, he⟩ := List.mem_iff_getElem.1 h
    rw [List.length_take] at hk
    rw [List.getElem_take] at he
    rw [← he] at hlt
    by_cases e1 : k = P
    · subst e1; exact En.lt_irrefl _ hlt
    · exact En.lt_asymm hlt (List.pairwise_iff_getElem.1 hr k P (by omega) hP (by omega))
  · intro h
    by_cases c : i ≤ P
    · exact List.mem_take_iff_getElem.2 ⟨i, by omega, rfl⟩
    · exact absurd (List.pairwise_iff_getElem.1 hr P i hP hi (by omega)) h
set_option maxRecDepth 100000 in
set_option maxHeartbeats 6400000 in
theorem nodeSplits_law (w : World) (BL : Nat) (aL : Option Addr) (cL : Nat) (L : List En) (e : En) (hL : Els w BL aL L) (hn : L.length ≤ maxLen) : Calls Try.prog 5 #[.slice aL L.length cL, e.agg] w fun x w' => x = .returned (.bool true) ∧ Only (fun _ => False) w w' := by
  have HAW := hide nawake_any
  have HV0 := hide (Ev.new w e)
  have HO0 := hide (onlyA w (.cells #[.string e.key, .int .i64 e.page, .int .i64 e.slot] 23))
  have HGR := hide (grown_any _ BL aL cL L (hL.more HO0.out) hn)
  have HEN : Hid (∀ (W : World) (r : Int) (h : ByteArray) (hi : En) (B cp : Nat) (ao : Option Addr) (l : List ByteArray) (es : List En), Lp W r h hi B ao l es → Calls Try.prog 21 #[.agg #[.int .i64 0, .int .i64 3, .int .i64 0, .int .i64 r, .string h, .slice ao l.length cp]] W fun x w' => EnR W w' x es) := fun W r h hi B cp ao l es hP => entries_ok W 0 r h hi B cp ao l es hP
  clear hL hn
  unfold En.agg
  go_enter Try.func5, Try.ntmps5
  go_upto_region 1 with fail
  obtain ⟨W0, hW0⟩ : ∃ x, w.alloc (.cells #[.string e.key, .int .i64 e.page, .int .i64 e.slot] 23) = x := ⟨_, rfl⟩
  rw [hW0] at HV0 HO0 HGR ⊢
  clear hW0
  go_wp2_with fail
  refine HGR.out.mono ?_
  rintro x w1 ⟨l, es, B, ao, cp, rfl, hp, hf, h255, ho, _⟩
  have HP1 := hide hp
  have HF1 := hide hf
  have H255 := hide h255
  have HO1 := hide (o2 HO0.out ho)
  have HV1 := hide (HV0.out.more ho)
  clear hp hf h255 ho HGR HV0 HO0
  go_upto_region 2 with fail
  have HA := hide (onlyA w1 (.cells #[.int .i64 0, .int .i64 3, .int .i64 0, .int .i64 0, .string ⟨#[]⟩, .slice ao l.length cp] 38))
  have HG2 := hide (Pag.new w1 (.int .i64 0) (.int .i64 3) (.int .i64 0) (.int .i64 0) (.string ⟨#[]⟩) (.slice ao l.length cp))
  obtain ⟨b5, hb5⟩ : ∃ b, w1.heap.size = b := ⟨_, rfl⟩
  rw [hb5] at HG2 ⊢
  clear hb5
  obtain ⟨w2, hw2⟩ : ∃ x, w1.alloc (.cells #[.int .i64 0, .int .i64 3, .int .i64 0, .int .i64 0, .string ⟨#[]⟩, .slice ao l.length cp] 38) = x := ⟨_, rfl⟩
  rw [hw2] at HA HG2 ⊢
  clear hw2
  have HP2 := hide (HP1.out.more HA.out)
  have HV2 := hide (HV1.out.more HA.out)
  have HO2 := hide (o2 HO1.out HA.out)
  clear HA HP1 HO1 HV1
  obtain ⟨p0, p1, p2, p3, p4, p5, _⟩ := HG2.out
  go_wp2_with fail
  refine (HEN.out _ _ _ _ _ _ _ _ _ HP2.out).mono ?_
  rintro x w3 ⟨A, C, rfl, he, ho⟩
  obtain ⟨Be, hels, _⟩ := he.elsOf
  have HE3 := hide hels
  have HP3 := hide (HP2.out.more ho)
  have HV3 := hide (HV2.out.more ho)
  have HG3 := hide (HG2.out.more ho)
  have HO3 := hide (o2 HO2.out ho)
  have HLN : Hid (es.length ≤ 255 ∧ l.length = es.length) := by have := HP2.out.lf.len; have := H255.out; unfold Hid; omega
  clear he hels ho p0 p1 p2 p3 p4 p5 HP2 HG2 HO2 HV2
  obtain ⟨n, hn⟩ : ∃ n, es.length = n := ⟨_, rfl⟩
  rw [hn] at HLN ⊢
  have HNN := hide hn
  clear hn
  obtain ⟨p0, p1, p2, p3, p4, p5, _⟩ := HG3.out
  by_cases h2 : l.length < 2
  · have HSF := hide (split_few w3 0 0 ⟨#[]⟩ noE 9 B cp ao l es HP3.out h2)
    have hn2 : (n : Int) < 2 := by have := HLN.out; omega
    clear h2
    go_wp2_with fail
    refine HSF.out.mono ?_
    rintro x w4 ⟨rfl, ho⟩
    unfold noE En.agg
    simp only []
    have HO4 := hide (o2 HO3.out ho)
    clear ho p0 p1 p2 p3 p4 p5
    go_upto_region 4 with fail
    have HN := hide (sp_new w4 (.int .i64 0) (.int .i64 0) (.int .i64 0) (.int .i64 0) (.string ⟨#[]⟩) (.slice none 0 0) (.int .i64 0) (.int .i64 0) (.int .i64 0) (.int .i64 0) (.string ⟨#[]⟩) (.slice none 0 0) noE).2.2.2
    unfold noE at HN
    simp only [] at HN
    obtain ⟨w5, hw5⟩ : ∃ x, ((w4.alloc (.cells #[.int .i64 0, .int .i64 0, .int .i64 0, .int .i64 0, .string ⟨#[]⟩, .slice none 0 0] 38)).alloc (.cells #[.int .i64 0, .int .i64 0, .int .i64 0, .int .i64 0, .string ⟨#[]⟩, .slice none 0 0] 38)).alloc (.cells #[.string ⟨#[]⟩, .int .i64 0, .int .i64 0] 23) = x := ⟨_, rfl⟩
    rw [hw5] at HN ⊢
    clear hw5
    have HO5 := hide (o2 HO4.out HN.out)
    clear HN HO4
    go_wp2_with fail
    refine (HAW.out _).mono ?_
    rintro x w6 ⟨rfl, ho⟩
    have HO6 := hide (o2 HO5.out ho)
    clear ho
    go_wp2_with fail
    go_ret
    exact ⟨rfl, HO6.out⟩
  · have HSL := hide (split_leaf w3 B cp ao l es HP3.out HF1.out (by omega))
    clear h2
    go_wp2_with fail
    refine HSL.out.mono ?_
    rintro x w4 ⟨P, B1, ao1, cp1, B2, ao2, cp2, hP, rfl, hl1, hl2, hok, ho⟩
    have HPL : Hid (P + 1 < es.length) := hP
    have HE4 := hide (HE3.out.more ho)
    have HV4 := hide (HV3.out.more ho)
    have HG4 := hide (HG3.out.more ho)
    have HO4 := hide (o2 HO3.out ho)
    have HL4 := hide hl1
    have HR4 := hide hl2
    have HBO := hide hok
    have HCAT : Hid (es.take (P + 1) ++ es.drop (P + 1) = es) := List.take_append_drop _ _
    have HXL : Hid ((es.take (P + 1)).length = P + 1) := by unfold Hid; rw [List.length_take]; omega
    have HYL : Hid ((es.drop (P + 1)).length = n - (P + 1)) := by unfold Hid; rw [List.length_drop, HNN.out]
    obtain ⟨bd, hbd⟩ : ∃ b, es[P]'(by omega) = b := ⟨_, rfl⟩
    have HSIDE : Hid (∀ i (hi : i < es.length), decide (es[i] ∈ es.take (P + 1)) = !decide (bd.lt es[i])) := fun i hi => by rw [← hbd]; exact half_side HP3.out.lf.rise P i (by omega) hi
    have HXP : Hid (∃ h : P < (es.take (P + 1)).length, (es.take (P + 1))[P] = bd) := ⟨by rw [List.length_take]; omega, by rw [← hbd]; exact List.getElem_take⟩
    rw [hbd] at HL4 HBO ⊢
    clear hP hl1 hl2 hok ho hbd p0 p1 p2 p3 p4 p5 HE3 HP3 HV3 HG3 HO3 HF1 HSL
    obtain ⟨xs, hxs⟩ : ∃ xs, es.take (P + 1) = xs := ⟨_, rfl⟩
    obtain ⟨ys, hys⟩ : ∃ ys, es.drop (P + 1) = ys := ⟨_, rfl⟩
    obtain ⟨lx, hlx⟩ : ∃ xs, l.take (P + 1) = xs := ⟨_, rfl⟩
    obtain ⟨ly, hly⟩ : ∃ ys, l.drop (P + 1) = ys := ⟨_, rfl⟩
    rw [hxs] at HSIDE HXP HL4 HCAT HXL
    rw [hys] at HR4 HCAT HYL
    rw [hlx] at HL4 ⊢
    rw [hly] at HR4 ⊢
    clear hxs hys hlx hly
    obtain ⟨E, hE⟩ : ∃ E, bd.enc = E := ⟨_, rfl⟩
    rw [hE] at HL4 ⊢
    clear hE
    go_upto_region 4 with fail
    have HN := hide (sp_new w4 (.int .i64 0) (.int .i64 3) (.int .i64 0) (.int .i64 9) (.string E) (.slice ao1 lx.length cp1) (.int .i64 0) (.int .i64 3) (.int .i64 0) (.int .i64 0) (.string ⟨#[]⟩) (.slice ao2 ly.length cp2) bd)
    obtain ⟨b8, hb8⟩ : ∃ b, w4.heap.size = b := ⟨_, rfl⟩
    rw [hb8] at HN ⊢
    clear hb8
    obtain ⟨w5, hw5⟩ : ∃ x, ((w4.alloc (.cells #[.int .i64 0, .int .i64 3, .int .i64 0, .int .i64 9, .string E, .slice ao1 lx.length cp1] 38)).alloc (.cells #[.int .i64 0, .int .i64 3, .int .i64 0, .int .i64 0, .string ⟨#[]⟩, .slice ao2 ly.length cp2] 38)).alloc (.cells #[.string bd.key, .int .i64 bd.page, .int .i64 bd.slot] 23) = x := ⟨_, rfl⟩
    rw [hw5] at HN ⊢
    clear hw5
    have HE5 := hide (HE4.out.more HN.out.2.2.2)
    have HV5 := hide (HV4.out.more HN.out.2.2.2)
    have HG5 := hide (HG4.out.more HN.out.2.2.2)
    have HO5 := hide (o2 HO4.out HN.out.2.2.2)
    have HL5 := hide (HL4.out.more HN.out.2.2.2)
    have HR5 := hide (HR4.out.more HN.out.2.2.2)
    have HGL5 := hide HN.out.1
    have HGR5 := hide HN.out.2.1
    have HS5 := hide HN.out.2.2.1
    clear HN HE4 HV4 HG4 HO4 HL4 HR4
    obtain ⟨p0, p1, p2, p3, p4, p5, _⟩ := HGL5.out
    go_wp2_with fail
    refine (HEN.out _ _ _ _ _ _ _ _ _ HL5.out).mono ?_
    rintro x w6 ⟨Ax, Cx, rfl, he, ho⟩
    obtain ⟨Bx, hx6, _⟩ := he.elsOf
    have HX6 := hide hx6
    have HE6 := hide (HE5.out.more ho)
    have HV6 := hide (HV5.out.more ho)
    have HG6 := hide (HG5.out.more ho)
    have HO6 := hide (o2 HO5.out ho)
    have HL6 := hide (HL5.out.more ho)
    have HR6 := hide (HR5.out.more ho)
    have HGL6 := hide (HGL5.out.more ho)
    have HGR6 := hide (HGR5.out.more ho)
    have HS6 := hide (HS5.out.more ho)
    clear he hx6 ho p0 p1 p2 p3 p4 p5 HE5 HV5 HG5 HO5 HL5 HR5 HGL5 HGR5 HS5
    obtain ⟨p0, p1, p2, p3, p4, p5, _⟩ := HGR6.out
    go_wp2_with fail
    refine (HEN.out _ _ _ _ _ _ _ _ _ HR6.out).mono ?_
    rintro x w7 ⟨Ay, Cy, rfl, he, ho⟩
    obtain ⟨By, hy7, _⟩ := he.elsOf
    have HY7 := hide hy7
    have HX7 := hide (HX6.out.more ho)
    have HE7 := hide (HE6.out.more ho)
    have HV7 := hide (HV6.out.more ho)
    have HG7 := hide (HG6.out.more ho)
    have HO7 := hide (o2 HO6.out ho)
    have HL7 := hide (HL6.out.more ho)
    have HGL7 := hide (HGL6.out.more ho)
    have HGR7 := hide (HGR6.out.more ho)
    have HS7 := hide (HS6.out.more ho)
    clear he hy7 ho p0 p1 p2 p3 p4 p5 HX6 HE6 HV6 HG6 HO6 HL6 HR6 HGL6 HGR6 HS6 HEN
    obtain ⟨m, hm⟩ : ∃ m, xs.length = m := ⟨_, rfl⟩
    obtain ⟨k, hk⟩ : ∃ k, ys.length = k := ⟨_, rfl⟩
    have HMK : Hid (m = P + 1 ∧ 0 < k ∧ m + k = n ∧ n ≤ 255) := by
      have h1 := HXL.out
      have h2 := HYL.out
      have h3 := HPL.out
      have h4 := HNN.out
      have h5 := HLN.out
      unfold Hid
      omega
    rw [hm] at HXL ⊢
    rw [hk] at HYL ⊢
    have HM := hide hm
    have HKY := hide hk
    clear hm hk
    obtain ⟨ox, rfl, hxe⟩ := HX7.out.at_ (by have := HMK.out; have := HM.out; omega)
    obtain ⟨oy, rfl, hye⟩ := HY7.out.at_ (by have := HMK.out; have := HKY.out; omega)
    obtain ⟨oe, rfl, hee⟩ := HE7.out.at_ (by have := HMK.out; have := HNN.out; omega)
    obtain ⟨A1, C1, y1, A2, C2, y2, ra1, ra2, het, q1, q2⟩ := two_apps w7 Bx ox Cx By oy Cy n xs ys hxe hye (by have := HMK.out; have := HM.out; have := HKY.out; omega) (by have := HMK.out; omega)
    rw [HM.out] at ra1 ra2
    rw [HKY.out] at ra2
    rw [HCAT.out] at het
    have HRA1 := hide ra1
    have HRA2 := hide ra2
    have HQ1 := hide q1
    have HQ2 := hide q2
    have HET := hide het
    have HXE := hide hxe
    have HEE := hide hee
    clear ra1 ra2 het q1 q2 hxe hye hee
    have HSAME : Hid (∀ W, Only (fun _ => False) y2 W → Only (fun _ => False) w7 W → Calls Try.prog 26 #[.slice A2 n C2, .slice (some ⟨Be, oe, none⟩) n C] W fun x w' => x = .returned (.bool true) ∧ Only (fun _ => False) W w') := fun W h1 h2 => by
      obtain ⟨B9, he9, hl9⟩ := HET.out.elsOf
      exact entries_same W B9 Be n C2 C A2 (some ⟨Be, oe, none⟩) es (he9.more h1) (HE7.out.more h2) hl9 (by have := HMK.out; omega)
    obtain ⟨hPx, hxP⟩ := HXP.out
    have hxp := HXE.out P hPx
    rw [hxP] at hxp
    have HXPE := hide hxp
    clear hxp hxP HXP
    have hq := neE_run bd bd
    rw [decide_eq_true rfl] at hq
    have t1 : ((m : Int) == 0) = false := by have := HMK.out; rw [beq_eq_false_iff_ne]; omega
    have t2 : ((k : Int) == 0) = false := by have := HMK.out; rw [beq_eq_false_iff_ne]; omega
    have t3 : (m : Int) - 1 = (P : Int) := by have := HMK.out; omega
    have t4 : IntKind.i64.wrap (P : Int) = (P : Int) := by have := HMK.out; rw [IntKind.wrap_i64]; omega
    have t5 : ¬ (m : Int) ≤ (P : Int) := by have := HMK.out; omega
    have t6 : (P : Int) < (m : Int) := by have := HMK.out; omega
    go_upto_region 8 with fail
    -- {r8
    refine wp_region_noPanic ?_
    refine wp_region_held_drew (S := fun W => Only (fun _ => False) w7 W) (by kernel_rfl) (Only.drew _ _) (fun hHeld => ?_)
    refine wpAnyH_take (i := 0) (oi := { dst := some 58, op := Op.move (Operand.tmp 13), type := 24, pos := "law.go:156", after := #[], guard := none }) (v := .int .i64 0) rfl (by kernel_rfl) (by kernel_rfl) (by kernel_rfl) (fun _ _ _ h => h) (Or.inl ⟨by rfl, fun w' hSw => by clear hSw; go_simp⟩) (by assumption) ?_
    simp only [Act.put, List.setIfInBounds_toArray, List.set_cons_zero, List.set_cons_succ]
    refine wpAnyH_take (i := 1) (oi := { dst := some 59, op := Op.binOp BinOp.neq 24 (Operand.tmp 58) (Operand.const (Value.int IntKind.i64 0)) 24, type := 4, pos := "law.go:156", after := #[{ on := 0, ground := Ground.data }], guard := none }) (v := .bool false) rfl (by kernel_rfl) (by kernel_rfl) (by kernel_rfl) (fun _ _ _ h => h) (Or.inl ⟨by rfl, fun w' hSw => by clear hSw; go_simp⟩) (by assumption) ?_
    simp only [Act.put, List.setIfInBounds_toArray, List.set_cons_zero, List.set_cons_succ]
    refine wpAnyH_take (i := 2) (oi := { dst := some 60, op := Op.move (Operand.tmp 59), type := 4, pos := "law.go:156", after := #[{ on := 1, ground := Ground.data }], guard := none }) (v := .bool false) rfl (by kernel_rfl) (by kernel_rfl) (by kernel_rfl) (fun _ _ _ h => h) (Or.inl ⟨by rfl, fun w' hSw => by clear hSw; go_simp⟩) (by assumption) ?_
    simp only [Act.put, List.setIfInBounds_toArray, List.set_cons_zero, List.set_cons_succ]
    refine wpAnyH_take (i := 3) (oi := { dst := some 61, op := Op.move (Operand.tmp 15), type := 24, pos := "law.go:156", after := #[{ on := 2, ground := Ground.guard }], guard := some (2, false) }) (v := .int .i64 0) rfl (by kernel_rfl) (by kernel_rfl) (by kernel_rfl) (fun _ _ _ h => h) (Or.inl ⟨by rfl, fun w' hSw => by clear hSw; go_simp⟩) (by assumption) ?_
    simp only [Act.put, List.setIfInBounds_toArray, List.set_cons_zero, List.set_cons_succ]
    refine wpAnyH_take (i := 4) (oi := { dst := some 62, op := Op.binOp BinOp.neq 24 (Operand.tmp 61) (Operand.const (Value.int IntKind.i64 0)) 24, type := 4, pos := "law.go:156", after := #[{ on := 3, ground := Ground.data }, { on := 2, ground := Ground.guard }], guard := some (2, false) }) (v := .bool false) rfl (by kernel_rfl) (by kernel_rfl) (by kernel_rfl) (fun _ _ _ h => h) (Or.inl ⟨by rfl, fun w' hSw => by clear hSw; go_simp⟩) (by assumption) ?_
    simp only [Act.put, List.setIfInBounds_toArray, List.set_cons_zero, List.set_cons_succ]
    refine wpAnyH_take (i := 5) (oi := { dst := some 63, op := Op.pick (Operand.tmp 60) (Operand.const (Value.bool true)) (Operand.tmp 62), type := 4, pos := "law.go:156", after := #[{ on := 2, ground := Ground.data }, { on := 4, ground := Ground.data }], guard := none }) (v := .bool false) rfl (by kernel_rfl) (by kernel_rfl) (by kernel_rfl) (fun _ _ _ h => h) (Or.inl ⟨by rfl, fun w' hSw => by clear hSw; go_simp⟩) (by assumption) ?_
    simp only [Act.put, List.setIfInBounds_toArray, List.set_cons_zero, List.set_cons_succ]
    refine wpAnyH_take (i := 6) (oi := { dst := some 64, op := Op.move (Operand.tmp 63), type := 4, pos := "law.go:156", after := #[{ on := 5, ground := Ground.data }, { on := 2, ground := Ground.chain }], guard := none }) (v := .bool false) rfl (by kernel_rfl) (by kernel_rfl) (by kernel_rfl) (fun _ _ _ h => h) (Or.inl ⟨by rfl, fun w' hSw => by clear hSw; go_simp⟩) (by assumption) ?_
    simp only [Act.put, List.setIfInBounds_toArray, List.set_cons_zero, List.set_cons_succ]
    refine wpAnyH_take (i := 7) (oi := { dst := some 65, op := Op.move (Operand.tmp 12), type := 35, pos := "law.go:156", after := #[{ on := 6, ground := Ground.guard }], guard := some (6, false) }) (v := .slice (some ⟨Bx, ox, none⟩) m Cx) rfl (by kernel_rfl) (by kernel_rfl) (by kernel_rfl) (fun _ _ _ h => h) (Or.inl ⟨by rfl, fun w' hSw => by clear hSw; go_simp⟩) (by assumption) ?_
    simp only [Act.put, List.setIfInBounds_toArray, List.set_cons_zero, List.set_cons_succ]
    refine wpAnyH_take (i := 8) (oi := { dst := some 66, op := Op.call { callee := Callee.builtin Builtin.len, args := #[Operand.tmp 65], argTypes := #[35] }, type := 3, pos := "law.go:156", after := #[{ on := 7, ground := Ground.data }, { on := 6, ground := Ground.guard }], guard := some (6, false) }) (v := .int .i64 (m : Int)) rfl (by kernel_rfl) (by kernel_rfl) (by kernel_rfl) (fun _ _ _ h => h) (Or.inl ⟨by rfl, fun w' hSw => by clear hSw; go_simp⟩) (by assumption) ?_
    simp only [Act.put, List.setIfInBounds_toArray, List.set_cons_zero, List.set_cons_succ]
    refine wpAnyH_take (i := 9) (oi := { dst := some 67, op := Op.binOp BinOp.eql 3 (Operand.tmp 66) (Operand.const (Value.int IntKind.i64 0)) 3, type := 4, pos := "law.go:156", after := #[{ on := 8, ground := Ground.data }, { on := 6, ground := Ground.guard }], guard := some (6, false) }) (v := .bool false) rfl (by kernel_rfl) (by kernel_rfl) (by kernel_rfl) (fun _ _ _ h => h) (Or.inl ⟨by rfl, fun w' hSw => by clear hSw; go_simp⟩) (by assumption) ?_
    simp only [Act.put, List.setIfInBounds_toArray, List.set_cons_zero, List.set_cons_succ]
    refine wpAnyH_take (i := 10) (oi := { dst := some 68, op := Op.pick (Operand.tmp 64) (Operand.const (Value.bool true)) (Operand.tmp 67), type := 4, pos := "law.go:156", after := #[{ on := 6, ground := Ground.data }, { on := 9, ground := Ground.data }], guard := none }) (v := .bool false) rfl (by kernel_rfl) (by kernel_rfl) (by kernel_rfl) (fun _ _ _ h => h) (Or.inl ⟨by rfl, fun w' hSw => by clear hSw; go_simp⟩) (by assumption) ?_
    simp only [Act.put, List.setIfInBounds_toArray, List.set_cons_zero, List.set_cons_succ]
    refine wpAnyH_take (i := 11) (oi := { dst := some 69, op := Op.move (Operand.tmp 68), type := 4, pos := "law.go:156", after := #[{ on := 10, ground := Ground.data }, { on := 6, ground := Ground.chain }], guard := none }) (v := .bool false) rfl (by kernel_rfl) (by kernel_rfl) (by kernel_rfl) (fun _ _ _ h => h) (Or.inl ⟨by rfl, fun w' hSw => by clear hSw; go_simp⟩) (by assumption) ?_
    simp only [Act.put, List.setIfInBounds_toArray, List.set_cons_zero, List.set_cons_succ]
    refine wpAnyH_take (i := 12) (oi := { dst := some 70, op := Op.move (Operand.tmp 14), type := 35, pos := "law.go:156", after := #[{ on := 11, ground := Ground.guard }], guard := some (11, false) }) (v := .slice (some ⟨By, oy, none⟩) k Cy) rfl (by kernel_rfl) (by kernel_rfl) (by kernel_rfl) (fun _ _ _ h => h) (Or.inl ⟨by rfl, fun w' hSw => by clear hSw; go_simp⟩) (by assumption) ?_
    simp only [Act.put, List.setIfInBounds_toArray, List.set_cons_zero, List.set_cons_succ]
    refine wpAnyH_take (i := 13) (oi := { dst := some 71, op := Op.call { callee := Callee.builtin Builtin.len, args := #[Operand.tmp 70], argTypes := #[35] }, type := 3, pos := "law.go:156", after := #[{ on := 12, ground := Ground.data }, { on := 11, ground := Ground.guard }], guard := some (11, false) }) (v := .int .i64 (k : Int)) rfl (by kernel_rfl) (by kernel_rfl) (by kernel_rfl) (fun _ _ _ h => h) (Or.inl ⟨by rfl, fun w' hSw => by clear hSw; go_simp⟩) (by assumption) ?_
    simp only [Act.put, List.setIfInBounds_toArray, List.set_cons_zero, List.set_cons_succ]
    refine wpAnyH_take (i := 14) (oi := { dst := some 72, op := Op.binOp BinOp.eql 3 (Operand.tmp 71) (Operand.const (Value.int IntKind.i64 0)) 3, type := 4, pos := "law.go:156", after := #[{ on := 13, ground := Ground.data }, { on := 11, ground := Ground.guard }], guard := some (11, false) }) (v := .bool false) rfl (by kernel_rfl) (by kernel_rfl) (by kernel_rfl) (fun _ _ _ h => h) (Or.inl ⟨by rfl, fun w' hSw => by clear hSw; go_simp⟩) (by assumption) ?_
    simp only [Act.put, List.setIfInBounds_toArray, List.set_cons_zero, List.set_cons_succ]
    refine wpAnyH_take (i := 15) (oi := { dst := some 73, op := Op.pick (Operand.tmp 69) (Operand.const (Value.bool true)) (Operand.tmp 72), type := 4, pos := "law.go:156", after := #[{ on := 11, ground := Ground.data }, { on := 14, ground := Ground.data }], guard := none }) (v := .bool false) rfl (by kernel_rfl) (by kernel_rfl) (by kernel_rfl) (fun _ _ _ h => h) (Or.inl ⟨by rfl, fun w' hSw => by clear hSw; go_simp⟩) (by assumption) ?_
    simp only [Act.put, List.setIfInBounds_toArray, List.set_cons_zero, List.set_cons_succ]
    refine wpAnyH_take (i := 16) (oi := { dst := some 74, op := Op.move (Operand.tmp 73), type := 4, pos := "law.go:156", after := #[{ on := 15, ground := Ground.data }, { on := 11, ground := Ground.chain }], guard := none }) (v := .bool false) rfl (by kernel_rfl) (by kernel_rfl) (by kernel_rfl) (fun _ _ _ h => h) (Or.inl ⟨by rfl, fun w' hSw => by clear hSw; go_simp⟩) (by assumption) ?_
    simp only [Act.put, List.setIfInBounds_toArray, List.set_cons_zero, List.set_cons_succ]
    refine wpAnyH_take (i := 18) (oi := { dst := some 76, op := Op.move (Operand.tmp 12), type := 35, pos := "law.go:156", after := #[{ on := 16, ground := Ground.guard }], guard := some (16, false) }) (v := .slice (some ⟨Bx, ox, none⟩) m Cx) rfl (by kernel_rfl) (by kernel_rfl) (by kernel_rfl) (fun _ _ _ h => h) (Or.inl ⟨by rfl, fun w' hSw => by clear hSw; go_simp⟩) (by assumption) ?_
    simp only [Act.put, List.setIfInBounds_toArray, List.set_cons_zero, List.set_cons_succ]
    refine wpAnyH_take (i := 20) (oi := { dst := some 78, op := Op.move (Operand.tmp 14), type := 35, pos := "law.go:156", after := #[{ on := 16, ground := Ground.guard }], guard := some (16, false) }) (v := .slice (some ⟨By, oy, none⟩) k Cy) rfl (by kernel_rfl) (by kernel_rfl) (by kernel_rfl) (fun _ _ _ h => h) (Or.inl ⟨by rfl, fun w' hSw => by clear hSw; go_simp⟩) (by assumption) ?_
    simp only [Act.put, List.setIfInBounds_toArray, List.set_cons_zero, List.set_cons_succ]
    refine wpAnyH_take (i := 22) (oi := { dst := some 80, op := Op.move (Operand.tmp 6), type := 35, pos := "law.go:156", after := #[{ on := 16, ground := Ground.guard }], guard := some (16, false) }) (v := .slice (some ⟨Be, oe, none⟩) n C) rfl (by kernel_rfl) (by kernel_rfl) (by kernel_rfl) (fun _ _ _ h => h) (Or.inl ⟨by rfl, fun w' hSw => by clear hSw; go_simp⟩) (by assumption) ?_
    simp only [Act.put, List.setIfInBounds_toArray, List.set_cons_zero, List.set_cons_succ]
    refine wpAnyH_ready (rs := [17]) (by kernel_rfl) (by simp) ?_
    refine AllReadyH.cons (o := { dst := some 75, op := Op.buildSlice 35 0 #[], type := 35, pos := "law.go:156", after := #[{ on := 16, ground := Ground.guard }], guard := some (16, false) }) rfl (fun K hK => ?_) (AllReadyH.nil)
    go_simp
    refine hK.out _ _ (o2 (onlyA _ _) (Only.drew _ _)) (fun hHeld => ?_)
    clear hK K
    try simp only [Act.put, List.setIfInBounds_toArray, List.set_cons_zero, List.set_cons_succ]
    refine wpAnyH_ready (rs := [19]) (by kernel_rfl) (by simp) ?_
    refine AllReadyH.cons (o := { dst := some 77, op := Op.call { callee := Callee.builtin Builtin.append, args := #[Operand.tmp 75, Operand.tmp 76], argTypes := #[35, 35] }, type := 35, pos := "law.go:156", after := #[{ on := 17, ground := Ground.data }, { on := 18, ground := Ground.data }, { on := 16, ground := Ground.chain }, { on := 16, ground := Ground.guard }], guard := some (16, false) }) rfl (fun K hK => ?_) (AllReadyH.nil)
    rw [if_pos (by rfl)]
    refine Lib.wp_append_run _ (.tmp 75) (.tmp 76) _ _ rfl _ _ rfl rfl _ _ HRA1.out ?_
    refine hK.out _ _ (HQ1.out) (fun hHeld => ?_)
    clear hK K
    try simp only [Act.put, List.setIfInBounds_toArray, List.set_cons_zero, List.set_cons_succ]
    refine wpAnyH_ready (rs := [21]) (by kernel_rfl) (by simp) ?_
    refine AllReadyH.cons (o := { dst := some 79, op := Op.call { callee := Callee.builtin Builtin.append, args := #[Operand.tmp 77, Operand.tmp 78], argTypes := #[35, 35] }, type := 35, pos := "law.go:156", after := #[{ on := 19, ground := Ground.data }, { on := 20, ground := Ground.data }, { on := 19, ground := Ground.chain }, { on := 16, ground := Ground.guard }], guard := some (16, false) }) rfl (fun K hK => ?_) (AllReadyH.nil)
    rw [if_pos (by rfl)]
    refine Lib.wp_append_run _ (.tmp 77) (.tmp 78) _ _ rfl _ _ rfl rfl _ _ HRA2.out ?_
    refine hK.out _ _ (HQ2.out) (fun hHeld => ?_)
    clear hK K
    try simp only [Act.put, List.setIfInBounds_toArray, List.set_cons_zero, List.set_cons_succ]
    refine wpAnyH_ready (rs := [23]) (by kernel_rfl) (by simp) ?_
    refine AllReadyH.cons (o := { dst := some 81, op := Op.call { callee := Callee.value (Operand.func 26), args := #[Operand.tmp 79, Operand.tmp 80], argTypes := #[35, 35] }, type := 4, pos := "law.go:156", after := #[{ on := 21, ground := Ground.data }, { on := 22, ground := Ground.data }, { on := 21, ground := Ground.chain }, { on := 16, ground := Ground.guard }], guard := some (16, false) }) rfl (fun K hK => ?_) (AllReadyH.nil)
    go_simp
    refine (HSAME.out _ (Only.refl _ _) HQ2.out).mono ?_
    rintro x x1 ⟨rfl, hx1⟩
    have HX1 := hide (o2 HQ2.out hx1)
    clear hx1
    refine hK.out _ _ (HX1.out) (fun hHeld => ?_)
    clear hK K
    try simp only [Act.put, List.setIfInBounds_toArray, List.set_cons_zero, List.set_cons_succ]
    refine wpAnyH_take (i := 24) (oi := { dst := some 82, op := Op.unOp UnOp.not 4 (Operand.tmp 81), type := 4, pos := "law.go:156", after := #[{ on := 23, ground := Ground.data }, { on := 16, ground := Ground.guard }], guard := some (16, false) }) (v := .bool false) rfl (by kernel_rfl) (by kernel_rfl) (by kernel_rfl) (fun _ _ _ h => h) (Or.inl ⟨by rfl, fun w' hSw => by clear hSw; go_simp⟩) (by assumption) ?_
    simp only [Act.put, List.setIfInBounds_toArray, List.set_cons_zero, List.set_cons_succ]
    refine wpAnyH_take (i := 25) (oi := { dst := some 83, op := Op.pick (Operand.tmp 74) (Operand.const (Value.bool true)) (Operand.tmp 82), type := 4, pos := "law.go:156", after := #[{ on := 16, ground := Ground.data }, { on := 24, ground := Ground.data }], guard := none }) (v := .bool false) rfl (by kernel_rfl) (by kernel_rfl) (by kernel_rfl) (fun _ _ _ h => h) (Or.inl ⟨by rfl, fun w' hSw => by clear hSw; go_simp⟩) (by assumption) ?_
    simp only [Act.put, List.setIfInBounds_toArray, List.set_cons_zero, List.set_cons_succ]
    refine wpAnyH_take (i := 26) (oi := { dst := some 84, op := Op.move (Operand.tmp 83), type := 4, pos := "law.go:156", after := #[{ on := 25, ground := Ground.data }, { on := 23, ground := Ground.chain }], guard := none }) (v := .bool false) rfl (by kernel_rfl) (by kernel_rfl) (by kernel_rfl) (fun _ _ _ h => h) (Or.inl ⟨by rfl, fun w' hSw => by clear hSw; go_simp⟩) (by assumption) ?_
    simp only [Act.put, List.setIfInBounds_toArray, List.set_cons_zero, List.set_cons_succ]
    refine wpAnyH_take (i := 27) (oi := { dst := some 85, op := Op.move (Operand.tmp 12), type := 35, pos := "law.go:156", after := #[{ on := 26, ground := Ground.guard }], guard := some (26, false) }) (v := .slice (some ⟨Bx, ox, none⟩) m Cx) rfl (by kernel_rfl) (by kernel_rfl) (by kernel_rfl) (fun _ _ _ h => h) (Or.inl ⟨by rfl, fun w' hSw => by clear hSw; go_simp⟩) (by assumption) ?_
    simp only [Act.put, List.setIfInBounds_toArray, List.set_cons_zero, List.set_cons_succ]
    refine wpAnyH_take (i := 28) (oi := { dst := some 86, op := Op.move (Operand.tmp 12), type := 35, pos := "law.go:156", after := #[{ on := 26, ground := Ground.guard }], guard := some (26, false) }) (v := .slice (some ⟨Bx, ox, none⟩) m Cx) rfl (by kernel_rfl) (by kernel_rfl) (by kernel_rfl) (fun _ _ _ h => h) (Or.inl ⟨by rfl, fun w' hSw => by clear hSw; go_simp⟩) (by assumption) ?_
    simp only [Act.put, List.setIfInBounds_toArray, List.set_cons_zero, List.set_cons_succ]
    refine wpAnyH_take (i := 33) (oi := { dst := some 91, op := Op.load 23 (Operand.tmp 10), type := 23, pos := "law.go:156", after := #[{ on := 26, ground := Ground.guard }], guard := some (26, false) }) (v := .agg #[.string bd.key, .int .i64 bd.page, .int .i64 bd.slot]) rfl (by kernel_rfl) (by kernel_rfl) (by kernel_rfl) (fun _ _ _ h => h) (yieldsIf_load_ev (by rfl) _ rfl rfl (fun W hW => HS7.out.more hW)) (by assumption) ?_
    simp only [Act.put, List.setIfInBounds_toArray, List.set_cons_zero, List.set_cons_succ]
    refine wpAnyH_take (i := 29) (oi := { dst := some 87, op := Op.call { callee := Callee.builtin Builtin.len, args := #[Operand.tmp 86], argTypes := #[35] }, type := 3, pos := "law.go:156", after := #[{ on := 28, ground := Ground.data }, { on := 26, ground := Ground.guard }], guard := some (26, false) }) (v := .int .i64 (m : Int)) rfl (by kernel_rfl) (by kernel_rfl) (by kernel_rfl) (fun _ _ _ h => h) (Or.inl ⟨by rfl, fun w' hSw => by clear hSw; go_simp⟩) (by assumption) ?_
    simp only [Act.put, List.setIfInBounds_toArray, List.set_cons_zero, List.set_cons_succ]
    refine wpAnyH_take (i := 30) (oi := { dst := some 88, op := Op.binOp BinOp.sub 3 (Operand.tmp 87) (Operand.const (Value.int IntKind.i64 1)) 3, type := 3, pos := "law.go:156", after := #[{ on := 29, ground := Ground.data }, { on := 26, ground := Ground.guard }], guard := some (26, false) }) (v := .int .i64 (P : Int)) rfl (by kernel_rfl) (by kernel_rfl) (by kernel_rfl) (fun _ _ _ h => h) (Or.inl ⟨by rfl, fun w' hSw => by clear hSw; go_simp⟩) (by assumption) ?_
    simp only [Act.put, List.setIfInBounds_toArray, List.set_cons_zero, List.set_cons_succ]
    refine wpAnyH_take (i := 31) (oi := { dst := some 89, op := Op.indexAddr 35 (Operand.tmp 85) (Operand.tmp 88), type := 0, pos := "law.go:156", after := #[{ on := 27, ground := Ground.data }, { on := 30, ground := Ground.data }, { on := 26, ground := Ground.guard }], guard := some (26, false) }) (v := .pointer (some ⟨Bx, ox + P * 3, none⟩)) rfl (by kernel_rfl) (by kernel_rfl) (by kernel_rfl) (fun _ _ _ h => h) (Or.inl ⟨by rfl, fun w' hSw => by clear hSw; go_simp⟩) (by assumption) ?_
    simp only [Act.put, List.setIfInBounds_toArray, List.set_cons_zero, List.set_cons_succ]
    refine wpAnyH_take (i := 32) (oi := { dst := some 90, op := Op.load 23 (Operand.tmp 89), type := 23, pos := "law.go:156", after := #[{ on := 31, ground := Ground.data }, { on := 26, ground := Ground.guard }], guard := some (26, false) }) (v := .agg #[.string bd.key, .int .i64 bd.page, .int .i64 bd.slot]) rfl (by kernel_rfl) (by kernel_rfl) (by kernel_rfl) (fun _ _ _ h => h) (yieldsIf_load_eb (by rfl) _ rfl rfl (fun W hW => HXPE.out.more hW)) (by assumption) ?_
    simp only [Act.put, List.setIfInBounds_toArray, List.set_cons_zero, List.set_cons_succ]
    refine wpAnyH_take (i := 34) (oi := { dst := some 92, op := Op.binOp BinOp.neq 23 (Operand.tmp 90) (Operand.tmp 91) 23, type := 4, pos := "law.go:156", after := #[{ on := 32, ground := Ground.data }, { on := 33, ground := Ground.data }, { on := 26, ground := Ground.guard }], guard := some (26, false) }) (v := .bool false) rfl (by kernel_rfl) (by kernel_rfl) (by kernel_rfl) (fun _ _ _ h => h) (Or.inl ⟨by rfl, fun w' hSw => by clear hSw; go_simp⟩) (by assumption) ?_
    simp only [Act.put, List.setIfInBounds_toArray, List.set_cons_zero, List.set_cons_succ]
    refine wpAnyH_take (i := 35) (oi := { dst := some 93, op := Op.pick (Operand.tmp 84) (Operand.const (Value.bool true)) (Operand.tmp 92), type := 4, pos := "law.go:156", after := #[{ on := 26, ground := Ground.data }, { on := 34, ground := Ground.data }], guard := none }) (v := .bool false) rfl (by kernel_rfl) (by kernel_rfl) (by kernel_rfl) (fun _ _ _ h => h) (Or.inl ⟨by rfl, fun w' hSw => by clear hSw; go_simp⟩) (by assumption) ?_
    simp only [Act.put, List.setIfInBounds_toArray, List.set_cons_zero, List.set_cons_succ]
    refine wpAnyH_done (by kernel_rfl) ?_ _
    refine NoPanic.normal ?_
    rw [Exit.then]
    -- r8}
    clear hq t1 t2 t3 t4 t5 t6 HSAME HRA1 HRA2 HQ1 HQ2 HET HXPE hPx HCAT HXL HYL
    have HX8 := hide (HX7.out.more HX1.out)
    have HE8 := hide (HE7.out.more HX1.out)
    have HV8 := hide (HV7.out.more HX1.out)
    have HG8 := hide (HG7.out.more HX1.out)
    have HO8 := hide (o2 HO7.out HX1.out)
    have HL8 := hide (HL7.out.more HX1.out)
    have HGL8 := hide (HGL7.out.more HX1.out)
    have HGR8 := hide (HGR7.out.more HX1.out)
    have HS8 := hide (HS7.out.more HX1.out)
    clear HX1 HX7 HE7 HV7 HG7 HO7 HL7 HGL7 HGR7 HS7 HY7 HXE HEE
    have HRT : Hid (∀ W, Calls Try.prog 27 #[.int .i64 1, .int .i64 8, .agg #[.string bd.key, .int .i64 bd.page, .int .i64 bd.slot], .int .i64 9] W fun x w' => ∃ B ao cp, x = .returned (.tuple #[.agg #[.int .i64 0, .int .i64 3, .int .i64 1, .int .i64 0, .string ⟨#[]⟩, .slice ao 2 cp], .int .i64 0]) ∧ Ip w' 1 0 ⟨#[]⟩ noE B ao [noE.encS 8, bd.encS 9] [(noE, 8), (bd, 9)] ∧ Only (fun _ => False) W w') := fun W =>
      (root_ok W 1 8 9 bd (by decide) (by decide) (by decide) HBO.out).mono (fun x w' q => by
        obtain ⟨B, ao, cp, rfl, hS, hF, ho, _⟩ := q
        exact ⟨B, ao, cp, rfl, ip_root hS (by decide) (by decide) HBO.out, ho⟩)
    obtain ⟨d0, d1, d2, _⟩ := HS8.out
    go_wp2_with fail
    refine (HRT.out _).mono ?_
    rintro x w9 ⟨Br, aor, cpr, rfl, hip, ho⟩
    have HX9 := hide (HX8.out.more ho)
    have HE9 := hide (HE8.out.more ho)
    have HV9 := hide (HV8.out.more ho)
    have HG9 := hide (HG8.out.more ho)
    have HO9 := hide (o2 HO8.out ho)
    have HL9 := hide (HL8.out.more ho)
    have HGL9 := hide (HGL8.out.more ho)
    have HGR9 := hide (HGR8.out.more ho)
    have HI9 := hide hip
    clear hip ho d0 d1 d2 HX8 HE8 HV8 HG8 HO8 HL8 HGL8 HGR8 HS8 HRT
    go_upto_region 11 with fail
    have HA := hide (onlyA w9 (.cells #[.int .i64 0, .int .i64 3, .int .i64 1, .int .i64 0, .string ⟨#[]⟩, .slice aor 2 cpr] 38))
    have HRV := hide (Pag.new w9 (.int .i64 0) (.int .i64 3) (.int .i64 1) (.int .i64 0) (.string ⟨#[]⟩) (.slice aor 2 cpr))
    obtain ⟨b16, hb16⟩ : ∃ b, w9.heap.size = b := ⟨_, rfl⟩
    rw [hb16] at HRV ⊢
    clear hb16
    obtain ⟨w10, hw10⟩ : ∃ x, w9.alloc (.cells #[.int .i64 0, .int .i64 3, .int .i64 1, .int .i64 0, .string ⟨#[]⟩, .slice aor 2 cpr] 38) = x := ⟨_, rfl⟩
    rw [hw10] at HA HRV ⊢
    clear hw10
    have HX10 := hide (HX9.out.more HA.out)
    have HE10 := hide (HE9.out.more HA.out)
    have HV10 := hide (HV9.out.more HA.out)
    have HG10 := hide (HG9.out.more HA.out)
    have HO10 := hide (o2 HO9.out HA.out)
    have HL10 := hide (HL9.out.more HA.out)
    have HGL10 := hide (HGL9.out.more HA.out)
    have HGR10 := hide (HGR9.out.more HA.out)
    have HI10 := hide (HI9.out.more HA.out)
    clear HA HX9 HE9 HV9 HG9 HO9 HL9 HGL9 HGR9 HI9
    have l3 := HGL10.out.c3
    have r3 := HGR10.out.c3
    have r4 := HGR10.out.c4
    have g3 := HG10.out.c3
    have g4 := HG10.out.c4
    go_upto_region 13 with fail
    clear l3 r3 r4 g3 g4 HGR10 HG10
    obtain ⟨N1, hN1⟩ : ∃ N, n + 1 = N := ⟨_, rfl⟩
    obtain ⟨oe2, hoe2, hee⟩ := HE10.out.at_ (by have := HMK.out; have := HNN.out; omega)
    injection hoe2 with hoe3
    injection hoe3 with _ hoe4
    subst hoe4
    obtain ⟨Aa, Ca, w11, hra, hea, hoa⟩ := one_app w10 e Be oe C n N1 es hee HNN.out hN1 (by have := HMK.out; omega)
    have HRA := hide hra
    have HN1 := hide hN1
    obtain ⟨Ba, hels, hlen⟩ := hea.elsOf
    have HAS := hide hels
    have HX11 := hide (HX10.out.more hoa)
    have HV11 := hide (HV10.out.more hoa)
    have HO11 := hide (o2 HO10.out hoa)
    have HL11 := hide (HL10.out.more hoa)
    have HGL11 := hide (HGL10.out.more hoa)
    have HI11 := hide (HI10.out.more hoa)
    have HRV11 := hide (HRV.out.more hoa)
    obtain ⟨d0, d1, d2, _⟩ := HV10.out
    clear hee hra hea hoa hels hlen hN1 HX10 HE10 HV10 HO10 HL10 HGL10 HI10 HRV
    go_upto_region 15 with (at_builtin; go_must (refine Lib.wpList_append_run _ rfl _ _ _ _ rfl _ _ rfl rfl _ _ HRA.out ?_))
    clear d0 d1 d2 HRA
    go_loopw [19] (fun i wr => ∃ (j : Nat), j ≤ N1 ∧ i = .int .i64 (j : Int) ∧ Hid (Only (fun _ => False) w11 wr)) (fun i _ => N1 - (intOf i).toNat)
    case atStart => exact ⟨0, Nat.zero_le _, rfl, hide (Only.refl _ _)⟩
    case round =>
      obtain ⟨j, hj, rfl, HW⟩ := hrel
      have hN256 : N1 ≤ 256 := by have := HN1.out; have := HMK.out; omega
      by_cases hlt : j < N1
      · have hlk : (j : Int) < (N1 : Int) := by omega
        have hlk2 : ¬ (N1 : Int) ≤ (j : Int) := by omega
        have hja : j < (e :: es).length := by have := HN1.out; have := HNN.out; simp only [List.length_cons]; omega
        obtain ⟨oa, rfl, hba⟩ := (HAS.out.more HW.out).of j hja
        have HJK : Hid (0 < j → decide ((e :: es)[j] ∈ xs) = !decide (bd.lt (e :: es)[j])) := fun h0 => by
          obtain ⟨i, rfl⟩ : ∃ i, j = i + 1 := ⟨j - 1, by omega⟩
          rw [List.getElem_cons_succ]
          exact HSIDE.out i (by simp only [List.length_cons] at hja; omega)
        have HBA := hide hba
        obtain ⟨f, hf⟩ : ∃ f, (e :: es)[j] = f := ⟨_, rfl⟩
        rw [hf] at HBA HJK
        clear hba hf
        have HBY : Hid (∀ W, Only (fun _ => False) w11 W → Calls Try.prog 28 #[.agg #[.int .i64 0, .int .i64 3, .int .i64 0, .int .i64 9, .string E, .slice ao1 lx.length cp1], .agg #[.string f.key, .int .i64 f.page, .int .i64 f.slot]] W fun x w' => x = .returned (byV bd f) ∧ Only (fun _ => False) W w') := fun W ho => beyond_ok W 0 9 E bd f B1 cp1 ao1 lx xs (HL11.out.more ho)
        have HCH : Hid (∀ W, Only (fun _ => False) w11 W → Calls Try.prog 29 #[.agg #[.int .i64 0, .int .i64 3, .int .i64 1, .int .i64 0, .string ⟨#[]⟩, .slice aor 2 cpr], .agg #[.string f.key, .int .i64 f.page, .int .i64 f.slot]] W fun x w' => x = .returned (chV [(noE, 8), (bd, 9)] noE f) ∧ Only (fun _ => False) W w') := fun W ho => by
          have h := child_ok W 0 1 0 ⟨#[]⟩ noE f Br cpr aor [noE.encS 8, bd.encS 9] [(noE, 8), (bd, 9)] (HI11.out.more ho)
          exact h
        cases hfo : f.ok with
        | false =>
          rw [by_bad hfo] at HBY
          rw [ch_bad hfo] at HCH
          clear hfo HJK
          go_upto_region 17 with fail
          -- {r17a
          refine wp_region_noPanic ?_
          refine wp_region_held_drew (S := fun W => Only (fun _ => False) wr W) (by kernel_rfl) (Only.drew _ _) (fun hHeld => ?_)
          refine wpAnyH_take (i := 0) (oi := { dst := some 131, op := Op.load 38 (Operand.tmp 8), type := 38, pos := "law.go:165", after := #[], guard := none }) (v := .agg #[.int .i64 0, .int .i64 3, .int .i64 0, .int .i64 9, .string E, .slice ao1 lx.length cp1]) rfl (by kernel_rfl) (by kernel_rfl) (by kernel_rfl) (fun _ _ _ h => h) (yieldsIf_load_page (by rfl) _ rfl _ rfl (fun W hW => HGL11.out.more (o2 HW.out hW))) (by assumption) ?_
          simp only [Act.put, List.setIfInBounds_toArray, List.set_cons_zero, List.set_cons_succ]
          refine wpAnyH_take (i := 1) (oi := { dst := some 132, op := Op.move (Operand.tmp 18), type := 35, pos := "law.go:165", after := #[], guard := none }) (v := .slice (some ⟨Ba, oa, none⟩) N1 Ca) rfl (by kernel_rfl) (by kernel_rfl) (by kernel_rfl) (fun _ _ _ h => h) (Or.inl ⟨by rfl, fun w' hSw => by clear hSw; go_simp⟩) (by assumption) ?_
          simp only [Act.put, List.setIfInBounds_toArray, List.set_cons_zero, List.set_cons_succ]
          refine wpAnyH_take (i := 2) (oi := { dst := some 133, op := Op.move (Operand.tmp 19), type := 3, pos := "law.go:165", after := #[], guard := none }) (v := .int .i64 (j : Int)) rfl (by kernel_rfl) (by kernel_rfl) (by kernel_rfl) (fun _ _ _ h => h) (Or.inl ⟨by rfl, fun w' hSw => by clear hSw; go_simp⟩) (by assumption) ?_
          simp only [Act.put, List.setIfInBounds_toArray, List.set_cons_zero, List.set_cons_succ]
          refine wpAnyH_take (i := 3) (oi := { dst := some 134, op := Op.indexAddr 35 (Operand.tmp 132) (Operand.tmp 133), type := 0, pos := "law.go:165", after := #[{ on := 1, ground := Ground.data }, { on := 2, ground := Ground.data }], guard := none }) (v := .pointer (some ⟨Ba, oa + j * 3, none⟩)) rfl (by kernel_rfl) (by kernel_rfl) (by kernel_rfl) (fun _ _ _ h => h) (Or.inl ⟨by rfl, fun w' hSw => by clear hSw; go_simp⟩) (by assumption) ?_
          simp only [Act.put, List.setIfInBounds_toArray, List.set_cons_zero, List.set_cons_succ]
          refine wpAnyH_take (i := 4) (oi := { dst := some 135, op := Op.load 23 (Operand.tmp 134), type := 23, pos := "law.go:165", after := #[{ on := 3, ground := Ground.data }], guard := none }) (v := .agg #[.string f.key, .int .i64 f.page, .int .i64 f.slot]) rfl (by kernel_rfl) (by kernel_rfl) (by kernel_rfl) (fun _ _ _ h => h) (yieldsIf_load_eb (by rfl) _ rfl rfl (fun W hW => HBA.out.more hW)) (by assumption) ?_
          simp only [Act.put, List.setIfInBounds_toArray, List.set_cons_zero, List.set_cons_succ]
          refine wpAnyH_ready (rs := [5]) (by kernel_rfl) (by simp) ?_
          refine AllReadyH.cons (o := { dst := some 136, op := Op.call { callee := Callee.value (Operand.func 28), args := #[Operand.tmp 131, Operand.tmp 135], argTypes := #[38, 23] }, type := 50, pos := "law.go:165", after := #[{ on := 0, ground := Ground.data }, { on := 4, ground := Ground.data }], guard := none }) rfl (fun K hK => ?_) (AllReadyH.nil)
          go_simp
          refine (HBY.out _ (o2 HW.out hHeld)).mono ?_
          rintro x x1 ⟨rfl, hx1⟩
          have HY1 := hide (o2 hHeld hx1)
          clear hx1
          refine hK.out _ _ (HY1.out) (fun hHeld => ?_)
          clear hK K
          try simp only [Act.put, List.setIfInBounds_toArray, List.set_cons_zero, List.set_cons_succ]
          refine wpAnyH_take (i := 6) (oi := { dst := some 130, op := Op.move (Operand.tmp 136), type := 50, pos := "law.go:165", after := #[{ on := 5, ground := Ground.data }], guard := none }) (v := .tuple #[.bool false, .int .i64 140]) rfl (by kernel_rfl) (by kernel_rfl) (by kernel_rfl) (fun _ _ _ h => h) (Or.inl ⟨by rfl, fun w' hSw => by clear hSw; go_simp⟩) (by assumption) ?_
          simp only [Act.put, List.setIfInBounds_toArray, List.set_cons_zero, List.set_cons_succ]
          refine wpAnyH_take (i := 7) (oi := { dst := some 137, op := Op.extract (Operand.tmp 130) 0, type := 4, pos := "law.go:165", after := #[{ on := 6, ground := Ground.data }], guard := none }) (v := .bool false) rfl (by kernel_rfl) (by kernel_rfl) (by kernel_rfl) (fun _ _ _ h => h) (Or.inl ⟨by rfl, fun w' hSw => by clear hSw; go_simp⟩) (by assumption) ?_
          simp only [Act.put, List.setIfInBounds_toArray, List.set_cons_zero, List.set_cons_succ]
          refine wpAnyH_take (i := 8) (oi := { dst := some 138, op := Op.extract (Operand.tmp 130) 1, type := 24, pos := "law.go:165", after := #[{ on := 6, ground := Ground.data }, { on := 9, ground := Ground.gcOnly Departure.lateStores }], guard := none }) (v := .int .i64 140) rfl (by kernel_rfl) (by kernel_rfl) (by kernel_rfl) (fun _ _ _ h => h) (Or.inl ⟨by rfl, fun w' hSw => by clear hSw; go_simp⟩) (by assumption) ?_
          simp only [Act.put, List.setIfInBounds_toArray, List.set_cons_zero, List.set_cons_succ]
          refine wpAnyH_take (i := 9) (oi := { dst := some 20, op := Op.assign (Operand.tmp 137), type := 4, pos := "law.go:165", after := #[{ on := 7, ground := Ground.data }, { on := 5, ground := Ground.chain }, { on := 0, ground := Ground.phase }, { on := 1, ground := Ground.phase }, { on := 2, ground := Ground.phase }, { on := 3, ground := Ground.phase }, { on := 4, ground := Ground.phase }, { on := 5, ground := Ground.phase }, { on := 6, ground := Ground.phase }, { on := 7, ground := Ground.phase }, { on := 8, ground := Ground.textOnly Departure.lateStores }], guard := none }) (v := .bool false) rfl (by kernel_rfl) (by kernel_rfl) (by kernel_rfl) (fun _ _ _ h => h) (Or.inl ⟨by rfl, fun w' hSw => by clear hSw; go_simp⟩) (by assumption) ?_
          simp only [Act.put, List.setIfInBounds_toArray, List.set_cons_zero, List.set_cons_succ]
          refine wpAnyH_take (i := 10) (oi := { dst := some 21, op := Op.assign (Operand.tmp 138), type := 24, pos := "law.go:165", after := #[{ on := 8, ground := Ground.data }, { on := 9, ground := Ground.chain }, { on := 0, ground := Ground.phase }, { on := 1, ground := Ground.phase }, { on := 2, ground := Ground.phase }, { on := 3, ground := Ground.phase }, { on := 4, ground := Ground.phase }, { on := 5, ground := Ground.phase }, { on := 6, ground := Ground.phase }, { on := 7, ground := Ground.phase }, { on := 8, ground := Ground.phase }, { on := 9, ground := Ground.phase }], guard := none }) (v := .int .i64 140) rfl (by kernel_rfl) (by kernel_rfl) (by kernel_rfl) (fun _ _ _ h => h) (Or.inl ⟨by rfl, fun w' hSw => by clear hSw; go_simp⟩) (by assumption) ?_
          simp only [Act.put, List.setIfInBounds_toArray, List.set_cons_zero, List.set_cons_succ]
          refine wpAnyH_done (by kernel_rfl) ?_ _
          refine NoPanic.normal ?_
          rw [Exit.then]
          -- r17a}
          go_upto_region 18 with fail
          -- {r18a
          refine wp_region_noPanic ?_
          refine wp_region_held_drew (S := fun W => Only (fun _ => False) x1 W) (by kernel_rfl) (Only.drew _ _) (fun hHeld => ?_)
          refine wpAnyH_take (i := 0) (oi := { dst := some 140, op := Op.load 38 (Operand.tmp 16), type := 38, pos := "law.go:166", after := #[], guard := none }) (v := .agg #[.int .i64 0, .int .i64 3, .int .i64 1, .int .i64 0, .string ⟨#[]⟩, .slice aor 2 cpr]) rfl (by kernel_rfl) (by kernel_rfl) (by kernel_rfl) (fun _ _ _ h => h) (yieldsIf_load_page (by rfl) _ rfl _ rfl (fun W hW => HRV11.out.more (o2 (o2 HW.out HY1.out) hW))) (by assumption) ?_
          simp only [Act.put, List.setIfInBounds_toArray, List.set_cons_zero, List.set_cons_succ]
          refine wpAnyH_take (i := 1) (oi := { dst := some 141, op := Op.move (Operand.tmp 18), type := 35, pos := "law.go:166", after := #[], guard := none }) (v := .slice (some ⟨Ba, oa, none⟩) N1 Ca) rfl (by kernel_rfl) (by kernel_rfl) (by kernel_rfl) (fun _ _ _ h => h) (Or.inl ⟨by rfl, fun w' hSw => by clear hSw; go_simp⟩) (by assumption) ?_
          simp only [Act.put, List.setIfInBounds_toArray, List.set_cons_zero, List.set_cons_succ]
          refine wpAnyH_take (i := 2) (oi := { dst := some 142, op := Op.move (Operand.tmp 19), type := 3, pos := "law.go:166", after := #[], guard := none }) (v := .int .i64 (j : Int)) rfl (by kernel_rfl) (by kernel_rfl) (by kernel_rfl) (fun _ _ _ h => h) (Or.inl ⟨by rfl, fun w' hSw => by clear hSw; go_simp⟩) (by assumption) ?_
          simp only [Act.put, List.setIfInBounds_toArray, List.set_cons_zero, List.set_cons_succ]
          refine wpAnyH_take (i := 3) (oi := { dst := some 143, op := Op.indexAddr 35 (Operand.tmp 141) (Operand.tmp 142), type := 0, pos := "law.go:166", after := #[{ on := 1, ground := Ground.data }, { on := 2, ground := Ground.data }], guard := none }) (v := .pointer (some ⟨Ba, oa + j * 3, none⟩)) rfl (by kernel_rfl) (by kernel_rfl) (by kernel_rfl) (fun _ _ _ h => h) (Or.inl ⟨by rfl, fun w' hSw => by clear hSw; go_simp⟩) (by assumption) ?_
          simp only [Act.put, List.setIfInBounds_toArray, List.set_cons_zero, List.set_cons_succ]
          refine wpAnyH_take (i := 4) (oi := { dst := some 144, op := Op.load 23 (Operand.tmp 143), type := 23, pos := "law.go:166", after := #[{ on := 3, ground := Ground.data }], guard := none }) (v := .agg #[.string f.key, .int .i64 f.page, .int .i64 f.slot]) rfl (by kernel_rfl) (by kernel_rfl) (by kernel_rfl) (fun _ _ _ h => h) (yieldsIf_load_eb (by rfl) _ rfl rfl (fun W hW => HBA.out.more (o2 HY1.out hW))) (by assumption) ?_
          simp only [Act.put, List.setIfInBounds_toArray, List.set_cons_zero, List.set_cons_succ]
          refine wpAnyH_ready (rs := [5]) (by kernel_rfl) (by simp) ?_
          refine AllReadyH.cons (o := { dst := some 145, op := Op.call { callee := Callee.value (Operand.func 29), args := #[Operand.tmp 140, Operand.tmp 144], argTypes := #[38, 23] }, type := 52, pos := "law.go:166", after := #[{ on := 0, ground := Ground.data }, { on := 4, ground := Ground.data }], guard := none }) rfl (fun K hK => ?_) (AllReadyH.nil)
          go_simp
          refine (HCH.out _ (o2 (o2 HW.out HY1.out) hHeld)).mono ?_
          rintro x x2 ⟨rfl, hx2⟩
          have HX2 := hide (o2 hHeld hx2)
          have HY2 := hide (o2 HY1.out HX2.out)
          clear hx2
          refine hK.out _ _ (HX2.out) (fun hHeld => ?_)
          clear hK K
          try simp only [Act.put, List.setIfInBounds_toArray, List.set_cons_zero, List.set_cons_succ]
          refine wpAnyH_take (i := 6) (oi := { dst := some 139, op := Op.move (Operand.tmp 145), type := 52, pos := "law.go:166", after := #[{ on := 5, ground := Ground.data }], guard := none }) (v := .tuple #[.int .i64 0, .int .i64 140]) rfl (by kernel_rfl) (by kernel_rfl) (by kernel_rfl) (fun _ _ _ h => h) (Or.inl ⟨by rfl, fun w' hSw => by clear hSw; go_simp⟩) (by assumption) ?_
          simp only [Act.put, List.setIfInBounds_toArray, List.set_cons_zero, List.set_cons_succ]
          refine wpAnyH_take (i := 7) (oi := { dst := some 146, op := Op.extract (Operand.tmp 139) 0, type := 3, pos := "law.go:166", after := #[{ on := 6, ground := Ground.data }], guard := none }) (v := .int .i64 0) rfl (by kernel_rfl) (by kernel_rfl) (by kernel_rfl) (fun _ _ _ h => h) (Or.inl ⟨by rfl, fun w' hSw => by clear hSw; go_simp⟩) (by assumption) ?_
          simp only [Act.put, List.setIfInBounds_toArray, List.set_cons_zero, List.set_cons_succ]
          refine wpAnyH_take (i := 8) (oi := { dst := some 147, op := Op.extract (Operand.tmp 139) 1, type := 24, pos := "law.go:166", after := #[{ on := 6, ground := Ground.data }, { on := 9, ground := Ground.gcOnly Departure.lateStores }], guard := none }) (v := .int .i64 140) rfl (by kernel_rfl) (by kernel_rfl) (by kernel_rfl) (fun _ _ _ h => h) (Or.inl ⟨by rfl, fun w' hSw => by clear hSw; go_simp⟩) (by assumption) ?_
          simp only [Act.put, List.setIfInBounds_toArray, List.set_cons_zero, List.set_cons_succ]
          refine wpAnyH_take (i := 9) (oi := { dst := some 22, op := Op.assign (Operand.tmp 146), type := 3, pos := "law.go:166", after := #[{ on := 7, ground := Ground.data }, { on := 5, ground := Ground.chain }, { on := 0, ground := Ground.phase }, { on := 1, ground := Ground.phase }, { on := 2, ground := Ground.phase }, { on := 3, ground := Ground.phase }, { on := 4, ground := Ground.phase }, { on := 5, ground := Ground.phase }, { on := 6, ground := Ground.phase }, { on := 7, ground := Ground.phase }, { on := 8, ground := Ground.textOnly Departure.lateStores }], guard := none }) (v := .int .i64 0) rfl (by kernel_rfl) (by kernel_rfl) (by kernel_rfl) (fun _ _ _ h => h) (Or.inl ⟨by rfl, fun w' hSw => by clear hSw; go_simp⟩) (by assumption) ?_
          simp only [Act.put, List.setIfInBounds_toArray, List.set_cons_zero, List.set_cons_succ]
          refine wpAnyH_take (i := 10) (oi := { dst := some 23, op := Op.assign (Operand.tmp 147), type := 24, pos := "law.go:166", after := #[{ on := 8, ground := Ground.data }, { on := 9, ground := Ground.chain }, { on := 0, ground := Ground.phase }, { on := 1, ground := Ground.phase }, { on := 2, ground := Ground.phase }, { on := 3, ground := Ground.phase }, { on := 4, ground := Ground.phase }, { on := 5, ground := Ground.phase }, { on := 6, ground := Ground.phase }, { on := 7, ground := Ground.phase }, { on := 8, ground := Ground.phase }, { on := 9, ground := Ground.phase }], guard := none }) (v := .int .i64 140) rfl (by kernel_rfl) (by kernel_rfl) (by kernel_rfl) (fun _ _ _ h => h) (Or.inl ⟨by rfl, fun w' hSw => by clear hSw; go_simp⟩) (by assumption) ?_
          simp only [Act.put, List.setIfInBounds_toArray, List.set_cons_zero, List.set_cons_succ]
          refine wpAnyH_done (by kernel_rfl) ?_ _
          refine NoPanic.normal ?_
          rw [Exit.then]
          -- r18a}
          go_wp2_with fail
          go_roundw
          case rel => exact ⟨j + 1, by omega, by go_num, hide (o2 HW.out HY2.out)⟩
          case measure => simp [intOf]; omega
        | true =>
          rw [by_ok HBO.out hfo] at HBY
          rw [ch_ok hfo] at HCH
          obtain ⟨t, ht⟩ : ∃ t, decide (bd.lt f) = t := ⟨_, rfl⟩
          obtain ⟨nb, hnb⟩ : ∃ nb : Int, (if bd.lt f then 9 else 8) = nb := ⟨_, rfl⟩
          have HNB : Hid ((t = true ∧ nb = 9) ∨ (t = false ∧ nb = 8)) := by
            by_cases h : bd.lt f
            · exact .inl ⟨by rw [← ht, decide_eq_true h], by rw [← hnb, if_pos h]⟩
            · exact .inr ⟨by rw [← ht, decide_eq_false h], by rw [← hnb, if_neg h]⟩
          rw [ht] at HBY HJK
          rw [hnb] at HCH
          clear ht hnb hfo
          go_upto_region 17 with fail
          -- {r17b
          refine wp_region_noPanic ?_
          refine wp_region_held_drew (S := fun W => Only (fun _ => False) wr W) (by kernel_rfl) (Only.drew _ _) (fun hHeld => ?_)
          refine wpAnyH_take (i := 0) (oi := { dst := some 131, op := Op.load 38 (Operand.tmp 8), type := 38, pos := "law.go:165", after := #[], guard := none }) (v := .agg #[.int .i64 0, .int .i64 3, .int .i64 0, .int .i64 9, .string E, .slice ao1 lx.length cp1]) rfl (by kernel_rfl) (by kernel_rfl) (by kernel_rfl) (fun _ _ _ h => h) (yieldsIf_load_page (by rfl) _ rfl _ rfl (fun W hW => HGL11.out.more (o2 HW.out hW))) (by assumption) ?_
          simp only [Act.put, List.setIfInBounds_toArray, List.set_cons_zero, List.set_cons_succ]
          refine wpAnyH_take (i := 1) (oi := { dst := some 132, op := Op.move (Operand.tmp 18), type := 35, pos := "law.go:165", after := #[], guard := none }) (v := .slice (some ⟨Ba, oa, none⟩) N1 Ca) rfl (by kernel_rfl) (by kernel_rfl) (by kernel_rfl) (fun _ _ _ h => h) (Or.inl ⟨by rfl, fun w' hSw => by clear hSw; go_simp⟩) (by assumption) ?_
          simp only [Act.put, List.setIfInBounds_toArray, List.set_cons_zero, List.set_cons_succ]
          refine wpAnyH_take (i := 2) (oi := { dst := some 133, op := Op.move (Operand.tmp 19), type := 3, pos := "law.go:165", after := #[], guard := none }) (v := .int .i64 (j : Int)) rfl (by kernel_rfl) (by kernel_rfl) (by kernel_rfl) (fun _ _ _ h => h) (Or.inl ⟨by rfl, fun w' hSw => by clear hSw; go_simp⟩) (by assumption) ?_
          simp only [Act.put, List.setIfInBounds_toArray, List.set_cons_zero, List.set_cons_succ]
          refine wpAnyH_take (i := 3) (oi := { dst := some 134, op := Op.indexAddr 35 (Operand.tmp 132) (Operand.tmp 133), type := 0, pos := "law.go:165", after := #[{ on := 1, ground := Ground.data }, { on := 2, ground := Ground.data }], guard := none }) (v := .pointer (some ⟨Ba, oa + j * 3, none⟩)) rfl (by kernel_rfl) (by kernel_rfl) (by kernel_rfl) (fun _ _ _ h => h) (Or.inl ⟨by rfl, fun w' hSw => by clear hSw; go_simp⟩) (by assumption) ?_
          simp only [Act.put, List.setIfInBounds_toArray, List.set_cons_zero, List.set_cons_succ]
          refine wpAnyH_take (i := 4) (oi := { dst := some 135, op := Op.load 23 (Operand.tmp 134), type := 23, pos := "law.go:165", after := #[{ on := 3, ground := Ground.data }], guard := none }) (v := .agg #[.string f.key, .int .i64 f.page, .int .i64 f.slot]) rfl (by kernel_rfl) (by kernel_rfl) (by kernel_rfl) (fun _ _ _ h => h) (yieldsIf_load_eb (by rfl) _ rfl rfl (fun W hW => HBA.out.more hW)) (by assumption) ?_
          simp only [Act.put, List.setIfInBounds_toArray, List.set_cons_zero, List.set_cons_succ]
          refine wpAnyH_ready (rs := [5]) (by kernel_rfl) (by simp) ?_
          refine AllReadyH.cons (o := { dst := some 136, op := Op.call { callee := Callee.value (Operand.func 28), args := #[Operand.tmp 131, Operand.tmp 135], argTypes := #[38, 23] }, type := 50, pos := "law.go:165", after := #[{ on := 0, ground := Ground.data }, { on := 4, ground := Ground.data }], guard := none }) rfl (fun K hK => ?_) (AllReadyH.nil)
          go_simp
          refine (HBY.out _ (o2 HW.out hHeld)).mono ?_
          rintro x x1 ⟨rfl, hx1⟩
          have HY1 := hide (o2 hHeld hx1)
          clear hx1
          refine hK.out _ _ (HY1.out) (fun hHeld => ?_)
          clear hK K
          try simp only [Act.put, List.setIfInBounds_toArray, List.set_cons_zero, List.set_cons_succ]
          refine wpAnyH_take (i := 6) (oi := { dst := some 130, op := Op.move (Operand.tmp 136), type := 50, pos := "law.go:165", after := #[{ on := 5, ground := Ground.data }], guard := none }) (v := .tuple #[.bool t, .int .i64 0]) rfl (by kernel_rfl) (by kernel_rfl) (by kernel_rfl) (fun _ _ _ h => h) (Or.inl ⟨by rfl, fun w' hSw => by clear hSw; go_simp⟩) (by assumption) ?_
          simp only [Act.put, List.setIfInBounds_toArray, List.set_cons_zero, List.set_cons_succ]
          refine wpAnyH_take (i := 7) (oi := { dst := some 137, op := Op.extract (Operand.tmp 130) 0, type := 4, pos := "law.go:165", after := #[{ on := 6, ground := Ground.data }], guard := none }) (v := .bool t) rfl (by kernel_rfl) (by kernel_rfl) (by kernel_rfl) (fun _ _ _ h => h) (Or.inl ⟨by rfl, fun w' hSw => by clear hSw; go_simp⟩) (by assumption) ?_
          simp only [Act.put, List.setIfInBounds_toArray, List.set_cons_zero, List.set_cons_succ]
          refine wpAnyH_take (i := 8) (oi := { dst := some 138, op := Op.extract (Operand.tmp 130) 1, type := 24, pos := "law.go:165", after := #[{ on := 6, ground := Ground.data }, { on := 9, ground := Ground.gcOnly Departure.lateStores }], guard := none }) (v := .int .i64 0) rfl (by kernel_rfl) (by kernel_rfl) (by kernel_rfl) (fun _ _ _ h => h) (Or.inl ⟨by rfl, fun w' hSw => by clear hSw; go_simp⟩) (by assumption) ?_
          simp only [Act.put, List.setIfInBounds_toArray, List.set_cons_zero, List.set_cons_succ]
          refine wpAnyH_take (i := 9) (oi := { dst := some 20, op := Op.assign (Operand.tmp 137), type := 4, pos := "law.go:165", after := #[{ on := 7, ground := Ground.data }, { on := 5, ground := Ground.chain }, { on := 0, ground := Ground.phase }, { on := 1, ground := Ground.phase }, { on := 2, ground := Ground.phase }, { on := 3, ground := Ground.phase }, { on := 4, ground := Ground.phase }, { on := 5, ground := Ground.phase }, { on := 6, ground := Ground.phase }, { on := 7, ground := Ground.phase }, { on := 8, ground := Ground.textOnly Departure.lateStores }], guard := none }) (v := .bool t) rfl (by kernel_rfl) (by kernel_rfl) (by kernel_rfl) (fun _ _ _ h => h) (Or.inl ⟨by rfl, fun w' hSw => by clear hSw; go_simp⟩) (by assumption) ?_
          simp only [Act.put, List.setIfInBounds_toArray, List.set_cons_zero, List.set_cons_succ]
          refine wpAnyH_take (i := 10) (oi := { dst := some 21, op := Op.assign (Operand.tmp 138), type := 24, pos := "law.go:165", after := #[{ on := 8, ground := Ground.data }, { on := 9, ground := Ground.chain }, { on := 0, ground := Ground.phase }, { on := 1, ground := Ground.phase }, { on := 2, ground := Ground.phase }, { on := 3, ground := Ground.phase }, { on := 4, ground := Ground.phase }, { on := 5, ground := Ground.phase }, { on := 6, ground := Ground.phase }, { on := 7, ground := Ground.phase }, { on := 8, ground := Ground.phase }, { on := 9, ground := Ground.phase }], guard := none }) (v := .int .i64 0) rfl (by kernel_rfl) (by kernel_rfl) (by kernel_rfl) (fun _ _ _ h => h) (Or.inl ⟨by rfl, fun w' hSw => by clear hSw; go_simp⟩) (by assumption) ?_
          simp only [Act.put, List.setIfInBounds_toArray, List.set_cons_zero, List.set_cons_succ]
          refine wpAnyH_done (by kernel_rfl) ?_ _
          refine NoPanic.normal ?_
          rw [Exit.then]
          -- r17b}
          go_upto_region 18 with fail
          -- {r18b
          refine wp_region_noPanic ?_
          refine wp_region_held_drew (S := fun W => Only (fun _ => False) x1 W) (by kernel_rfl) (Only.drew _ _) (fun hHeld => ?_)
          refine wpAnyH_take (i := 0) (oi := { dst := some 140, op := Op.load 38 (Operand.tmp 16), type := 38, pos := "law.go:166", after := #[], guard := none }) (v := .agg #[.int .i64 0, .int .i64 3, .int .i64 1, .int .i64 0, .string ⟨#[]⟩, .slice aor 2 cpr]) rfl (by kernel_rfl) (by kernel_rfl) (by kernel_rfl) (fun _ _ _ h => h) (yieldsIf_load_page (by rfl) _ rfl _ rfl (fun W hW => HRV11.out.more (o2 (o2 HW.out HY1.out) hW))) (by assumption) ?_
          simp only [Act.put, List.setIfInBounds_toArray, List.set_cons_zero, List.set_cons_succ]
          refine wpAnyH_take (i := 1) (oi := { dst := some 141, op := Op.move (Operand.tmp 18), type := 35, pos := "law.go:166", after := #[], guard := none }) (v := .slice (some ⟨Ba, oa, none⟩) N1 Ca) rfl (by kernel_rfl) (by kernel_rfl) (by kernel_rfl) (fun _ _ _ h => h) (Or.inl ⟨by rfl, fun w' hSw => by clear hSw; go_simp⟩) (by assumption) ?_
          simp only [Act.put, List.setIfInBounds_toArray, List.set_cons_zero, List.set_cons_succ]
          refine wpAnyH_take (i := 2) (oi := { dst := some 142, op := Op.move (Operand.tmp 19), type := 3, pos := "law.go:166", after := #[], guard := none }) (v := .int .i64 (j : Int)) rfl (by kernel_rfl) (by kernel_rfl) (by kernel_rfl) (fun _ _ _ h => h) (Or.inl ⟨by rfl, fun w' hSw => by clear hSw; go_simp⟩) (by assumption) ?_
          simp only [Act.put, List.setIfInBounds_toArray, List.set_cons_zero, List.set_cons_succ]
          refine wpAnyH_take (i := 3) (oi := { dst := some 143, op := Op.indexAddr 35 (Operand.tmp 141) (Operand.tmp 142), type := 0, pos := "law.go:166", after := #[{ on := 1, ground := Ground.data }, { on := 2, ground := Ground.data }], guard := none }) (v := .pointer (some ⟨Ba, oa + j * 3, none⟩)) rfl (by kernel_rfl) (by kernel_rfl) (by kernel_rfl) (fun _ _ _ h => h) (Or.inl ⟨by rfl, fun w' hSw => by clear hSw; go_simp⟩) (by assumption) ?_
          simp only [Act.put, List.setIfInBounds_toArray, List.set_cons_zero, List.set_cons_succ]
          refine wpAnyH_take (i := 4) (oi := { dst := some 144, op := Op.load 23 (Operand.tmp 143), type := 23, pos := "law.go:166", after := #[{ on := 3, ground := Ground.data }], guard := none }) (v := .agg #[.string f.key, .int .i64 f.page, .int .i64 f.slot]) rfl (by kernel_rfl) (by kernel_rfl) (by kernel_rfl) (fun _ _ _ h => h) (yieldsIf_load_eb (by rfl) _ rfl rfl (fun W hW => HBA.out.more (o2 HY1.out hW))) (by assumption) ?_
          simp only [Act.put, List.setIfInBounds_toArray, List.set_cons_zero, List.set_cons_succ]
          refine wpAnyH_ready (rs := [5]) (by kernel_rfl) (by simp) ?_
          refine AllReadyH.cons (o := { dst := some 145, op := Op.call { callee := Callee.value (Operand.func 29), args := #[Operand.tmp 140, Operand.tmp 144], argTypes := #[38, 23] }, type := 52, pos := "law.go:166", after := #[{ on := 0, ground := Ground.data }, { on := 4, ground := Ground.data }], guard := none }) rfl (fun K hK => ?_) (AllReadyH.nil)
          go_simp
          refine (HCH.out _ (o2 (o2 HW.out HY1.out) hHeld)).mono ?_
          rintro x x2 ⟨rfl, hx2⟩
          have HX2 := hide (o2 hHeld hx2)
          have HY2 := hide (o2 HY1.out HX2.out)
          clear hx2
          refine hK.out _ _ (HX2.out) (fun hHeld => ?_)
          clear hK K
          try simp only [Act.put, List.setIfInBounds_toArray, List.set_cons_zero, List.set_cons_succ]
          refine wpAnyH_take (i := 6) (oi := { dst := some 139, op := Op.move (Operand.tmp 145), type := 52, pos := "law.go:166", after := #[{ on := 5, ground := Ground.data }], guard := none }) (v := .tuple #[.int .i64 nb, .int .i64 0]) rfl (by kernel_rfl) (by kernel_rfl) (by kernel_rfl) (fun _ _ _ h => h) (Or.inl ⟨by rfl, fun w' hSw => by clear hSw; go_simp⟩) (by assumption) ?_
          simp only [Act.put, List.setIfInBounds_toArray, List.set_cons_zero, List.set_cons_succ]
          refine wpAnyH_take (i := 7) (oi := { dst := some 146, op := Op.extract (Operand.tmp 139) 0, type := 3, pos := "law.go:166", after := #[{ on := 6, ground := Ground.data }], guard := none }) (v := .int .i64 nb) rfl (by kernel_rfl) (by kernel_rfl) (by kernel_rfl) (fun _ _ _ h => h) (Or.inl ⟨by rfl, fun w' hSw => by clear hSw; go_simp⟩) (by assumption) ?_
          simp only [Act.put, List.setIfInBounds_toArray, List.set_cons_zero, List.set_cons_succ]
          refine wpAnyH_take (i := 8) (oi := { dst := some 147, op := Op.extract (Operand.tmp 139) 1, type := 24, pos := "law.go:166", after := #[{ on := 6, ground := Ground.data }, { on := 9, ground := Ground.gcOnly Departure.lateStores }], guard := none }) (v := .int .i64 0) rfl (by kernel_rfl) (by kernel_rfl) (by kernel_rfl) (fun _ _ _ h => h) (Or.inl ⟨by rfl, fun w' hSw => by clear hSw; go_simp⟩) (by assumption) ?_
          simp only [Act.put, List.setIfInBounds_toArray, List.set_cons_zero, List.set_cons_succ]
          refine wpAnyH_take (i := 9) (oi := { dst := some 22, op := Op.assign (Operand.tmp 146), type := 3, pos := "law.go:166", after := #[{ on := 7, ground := Ground.data }, { on := 5, ground := Ground.chain }, { on := 0, ground := Ground.phase }, { on := 1, ground := Ground.phase }, { on := 2, ground := Ground.phase }, { on := 3, ground := Ground.phase }, { on := 4, ground := Ground.phase }, { on := 5, ground := Ground.phase }, { on := 6, ground := Ground.phase }, { on := 7, ground := Ground.phase }, { on := 8, ground := Ground.textOnly Departure.lateStores }], guard := none }) (v := .int .i64 nb) rfl (by kernel_rfl) (by kernel_rfl) (by kernel_rfl) (fun _ _ _ h => h) (Or.inl ⟨by rfl, fun w' hSw => by clear hSw; go_simp⟩) (by assumption) ?_
          simp only [Act.put, List.setIfInBounds_toArray, List.set_cons_zero, List.set_cons_succ]
          refine wpAnyH_take (i := 10) (oi := { dst := some 23, op := Op.assign (Operand.tmp 147), type := 24, pos := "law.go:166", after := #[{ on := 8, ground := Ground.data }, { on := 9, ground := Ground.chain }, { on := 0, ground := Ground.phase }, { on := 1, ground := Ground.phase }, { on := 2, ground := Ground.phase }, { on := 3, ground := Ground.phase }, { on := 4, ground := Ground.phase }, { on := 5, ground := Ground.phase }, { on := 6, ground := Ground.phase }, { on := 7, ground := Ground.phase }, { on := 8, ground := Ground.phase }, { on := 9, ground := Ground.phase }], guard := none }) (v := .int .i64 0) rfl (by kernel_rfl) (by kernel_rfl) (by kernel_rfl) (fun _ _ _ h => h) (Or.inl ⟨by rfl, fun w' hSw => by clear hSw; go_simp⟩) (by assumption) ?_
          simp only [Act.put, List.setIfInBounds_toArray, List.set_cons_zero, List.set_cons_succ]
          refine wpAnyH_done (by kernel_rfl) ?_ _
          refine NoPanic.normal ?_
          rw [Exit.then]
          -- r18b}
          go_upto_region 22 with fail
          go_cut [164] (fun v wx => v = .bool false ∧ wx = x2)
          case first =>
            rcases HNB.out with ⟨rfl, rfl⟩ | ⟨rfl, rfl⟩
            · go_wp2_with fail
              go_meet
              exact ⟨rfl, rfl⟩
            · go_wp2_with fail
              go_meet
              exact ⟨rfl, rfl⟩
          case rest =>
            obtain ⟨rfl, hx⟩ := hcut
            obtain rfl := hx.symm
            have HW2 := hide (o2 HW.out HY2.out)
            have HBA2 := hide (HBA.out.more HY2.out)
            clear HW HY1 HY2 HBA HBY HCH HNB
            go_upto_region 26 with fail
            go_loopw [24, 25] (fun lf i wr2 => ∃ (q : Nat) (b : Bool), q ≤ m ∧ i = .int .i64 (q : Int) ∧ lf = .bool b ∧ Hid (b = decide (f ∈ xs.take q)) ∧ Hid (Only (fun _ => False) x2 wr2)) (fun _ i _ => m - (intOf i).toNat)
            case atStart => exact ⟨0, false, Nat.zero_le _, rfl, rfl, hide (by simp), hide (Only.refl _ _)⟩
            case round =>
              obtain ⟨q, b, hq, rfl, rfl, HBQ, HW3⟩ := hrel
              have hm256 : m ≤ 255 := by have := HMK.out; omega
              by_cases hlq : q < m
              · have hqk : (q : Int) < (m : Int) := by omega
                have hqk2 : ¬ (m : Int) ≤ (q : Int) := by omega
                have hqx : q < xs.length := by have := HM.out; omega
                have HTK : Hid (xs.take (q + 1) = xs.take q ++ [xs[q]]) := List.take_succ_eq_append_getElem hqx
                obtain ⟨ox2, hox2, hbx⟩ := ((HX11.out.more HW2.out).more HW3.out).of q hqx
                injection hox2 with hox3
                injection hox3 with _ hox4
                subst hox4
                have HBX := hide hbx
                have HBA3 := hide (HBA2.out.more HW3.out)
                have hqe := eqE_run xs[q] f
                obtain ⟨g, hg⟩ : ∃ g, xs[q] = g := ⟨_, rfl⟩
                rw [hg] at HBX HTK hqe
                clear hbx hg
                cases b with
                | true =>
                  have HNQ : Hid (true = decide (f ∈ xs.take (q + 1))) := by
                    unfold Hid
                    rw [HTK.out]
                    have h1 : f ∈ xs.take q := of_decide_eq_true HBQ.out.symm
                    exact (decide_eq_true (List.mem_append.2 (.inl h1))).symm
                  clear hqe
                  go_upto_region 28 with fail
                  -- {r28a
                  refine wp_region_noPanic ?_
                  refine wp_region_held_drew (S := fun W => Only (fun _ => False) wr W) (by kernel_rfl) (Only.drew _ _) (fun hHeld => ?_)
                  refine wpAnyH_take (i := 0) (oi := { dst := some 171, op := Op.move (Operand.tmp 24), type := 4, pos := "law.go:178", after := #[], guard := none }) (v := .bool true) rfl (by kernel_rfl) (by kernel_rfl) (by kernel_rfl) (fun _ _ _ h => h) (Or.inl ⟨by rfl, fun w' hSw => by clear hSw; go_simp⟩) (by assumption) ?_
                  simp only [Act.put, List.setIfInBounds_toArray, List.set_cons_zero, List.set_cons_succ]
                  refine wpAnyH_take (i := 1) (oi := { dst := some 172, op := Op.move (Operand.tmp 171), type := 4, pos := "law.go:178", after := #[{ on := 0, ground := Ground.data }], guard := none }) (v := .bool true) rfl (by kernel_rfl) (by kernel_rfl) (by kernel_rfl) (fun _ _ _ h => h) (Or.inl ⟨by rfl, fun w' hSw => by clear hSw; go_simp⟩) (by assumption) ?_
                  simp only [Act.put, List.setIfInBounds_toArray, List.set_cons_zero, List.set_cons_succ]
                  refine wpAnyH_take (i := 2) (oi := { dst := some 173, op := Op.move (Operand.tmp 12), type := 35, pos := "law.go:178", after := #[{ on := 1, ground := Ground.guard }], guard := some (1, false) }) (v := undef) rfl (by kernel_rfl) (by kernel_rfl) (by kernel_rfl) (fun _ _ _ h => h) (Or.inr ⟨by rfl, rfl⟩) (by assumption) ?_
                  simp only [Act.put, List.setIfInBounds_toArray, List.set_cons_zero, List.set_cons_succ]
                  refine wpAnyH_take (i := 3) (oi := { dst := some 174, op := Op.move (Operand.tmp 25), type := 3, pos := "law.go:178", after := #[{ on := 1, ground := Ground.guard }], guard := some (1, false) }) (v := undef) rfl (by kernel_rfl) (by kernel_rfl) (by kernel_rfl) (fun _ _ _ h => h) (Or.inr ⟨by rfl, rfl⟩) (by assumption) ?_
                  simp only [Act.put, List.setIfInBounds_toArray, List.set_cons_zero, List.set_cons_succ]
                  refine wpAnyH_take (i := 6) (oi := { dst := some 177, op := Op.move (Operand.tmp 18), type := 35, pos := "law.go:178", after := #[{ on := 1, ground := Ground.guard }], guard := some (1, false) }) (v := undef) rfl (by kernel_rfl) (by kernel_rfl) (by kernel_rfl) (fun _ _ _ h => h) (Or.inr ⟨by rfl, rfl⟩) (by assumption) ?_
                  simp only [Act.put, List.setIfInBounds_toArray, List.set_cons_zero, List.set_cons_succ]
                  refine wpAnyH_take (i := 7) (oi := { dst := some 178, op := Op.move (Operand.tmp 19), type := 3, pos := "law.go:178", after := #[{ on := 1, ground := Ground.guard }], guard := some (1, false) }) (v := undef) rfl (by kernel_rfl) (by kernel_rfl) (by kernel_rfl) (fun _ _ _ h => h) (Or.inr ⟨by rfl, rfl⟩) (by assumption) ?_
                  simp only [Act.put, List.setIfInBounds_toArray, List.set_cons_zero, List.set_cons_succ]
                  refine wpAnyH_take (i := 4) (oi := { dst := some 175, op := Op.indexAddr 35 (Operand.tmp 173) (Operand.tmp 174), type := 0, pos := "law.go:178", after := #[{ on := 2, ground := Ground.data }, { on := 3, ground := Ground.data }, { on := 1, ground := Ground.guard }], guard := some (1, false) }) (v := undef) rfl (by kernel_rfl) (by kernel_rfl) (by kernel_rfl) (fun _ _ _ h => h) (Or.inr ⟨by rfl, rfl⟩) (by assumption) ?_
                  simp only [Act.put, List.setIfInBounds_toArray, List.set_cons_zero, List.set_cons_succ]
                  refine wpAnyH_take (i := 8) (oi := { dst := some 179, op := Op.indexAddr 35 (Operand.tmp 177) (Operand.tmp 178), type := 0, pos := "law.go:178", after := #[{ on := 6, ground := Ground.data }, { on := 7, ground := Ground.data }, { on := 1, ground := Ground.guard }], guard := some (1, false) }) (v := undef) rfl (by kernel_rfl) (by kernel_rfl) (by kernel_rfl) (fun _ _ _ h => h) (Or.inr ⟨by rfl, rfl⟩) (by assumption) ?_
                  simp only [Act.put, List.setIfInBounds_toArray, List.set_cons_zero, List.set_cons_succ]
                  refine wpAnyH_take (i := 5) (oi := { dst := some 176, op := Op.load 23 (Operand.tmp 175), type := 23, pos := "law.go:178", after := #[{ on := 4, ground := Ground.data }, { on := 1, ground := Ground.guard }], guard := some (1, false) }) (v := undef) rfl (by kernel_rfl) (by kernel_rfl) (by kernel_rfl) (fun _ _ _ h => h) (Or.inr ⟨by rfl, rfl⟩) (by assumption) ?_
                  simp only [Act.put, List.setIfInBounds_toArray, List.set_cons_zero, List.set_cons_succ]
                  refine wpAnyH_take (i := 9) (oi := { dst := some 180, op := Op.load 23 (Operand.tmp 179), type := 23, pos := "law.go:178", after := #[{ on := 8, ground := Ground.data }, { on := 1, ground := Ground.guard }], guard := some (1, false) }) (v := undef) rfl (by kernel_rfl) (by kernel_rfl) (by kernel_rfl) (fun _ _ _ h => h) (Or.inr ⟨by rfl, rfl⟩) (by assumption) ?_
                  simp only [Act.put, List.setIfInBounds_toArray, List.set_cons_zero, List.set_cons_succ]
                  refine wpAnyH_take (i := 10) (oi := { dst := some 181, op := Op.binOp BinOp.eql 23 (Operand.tmp 176) (Operand.tmp 180) 23, type := 4, pos := "law.go:178", after := #[{ on := 5, ground := Ground.data }, { on := 9, ground := Ground.data }, { on := 1, ground := Ground.guard }], guard := some (1, false) }) (v := undef) rfl (by kernel_rfl) (by kernel_rfl) (by kernel_rfl) (fun _ _ _ h => h) (Or.inr ⟨by rfl, rfl⟩) (by assumption) ?_
                  simp only [Act.put, List.setIfInBounds_toArray, List.set_cons_zero, List.set_cons_succ]
                  refine wpAnyH_take (i := 11) (oi := { dst := some 182, op := Op.pick (Operand.tmp 172) (Operand.const (Value.bool true)) (Operand.tmp 181), type := 4, pos := "law.go:178", after := #[{ on := 1, ground := Ground.data }, { on := 10, ground := Ground.data }], guard := none }) (v := .bool true) rfl (by kernel_rfl) (by kernel_rfl) (by kernel_rfl) (fun _ _ _ h => h) (Or.inl ⟨by rfl, fun w' hSw => by clear hSw; go_simp⟩) (by assumption) ?_
                  simp only [Act.put, List.setIfInBounds_toArray, List.set_cons_zero, List.set_cons_succ]
                  refine wpAnyH_take (i := 12) (oi := { dst := some 24, op := Op.assign (Operand.tmp 182), type := 4, pos := "law.go:178", after := #[{ on := 11, ground := Ground.data }, { on := 1, ground := Ground.chain }, { on := 0, ground := Ground.phase }, { on := 1, ground := Ground.phase }, { on := 2, ground := Ground.phase }, { on := 3, ground := Ground.phase }, { on := 4, ground := Ground.phase }, { on := 5, ground := Ground.phase }, { on := 6, ground := Ground.phase }, { on := 7, ground := Ground.phase }, { on := 8, ground := Ground.phase }, { on := 9, ground := Ground.phase }, { on := 10, ground := Ground.phase }, { on := 11, ground := Ground.phase }], guard := none }) (v := .bool true) rfl (by kernel_rfl) (by kernel_rfl) (by kernel_rfl) (fun _ _ _ h => h) (Or.inl ⟨by rfl, fun w' hSw => by clear hSw; go_simp⟩) (by assumption) ?_
                  simp only [Act.put, List.setIfInBounds_toArray, List.set_cons_zero, List.set_cons_succ]
                  refine wpAnyH_done (by kernel_rfl) ?_ _
                  refine NoPanic.normal ?_
                  -- r28a}
                  go_wp2_with fail
                  go_roundw
                  case rel => exact ⟨q + 1, true, by omega, by go_num, rfl, HNQ, hide (o2 HW3.out (Only.drew _ _))⟩
                  case measure => simp [intOf]; omega
                | false =>
                  obtain ⟨v, hv⟩ : ∃ v, decide (g = f) = v := ⟨_, rfl⟩
                  have HNQ : Hid (v = decide (f ∈ xs.take (q + 1))) := by
                    unfold Hid
                    rw [HTK.out, ← hv]
                    refine decide_eq_decide.2 ⟨fun h => List.mem_append.2 (.inr (by rw [h]; exact List.mem_singleton.2 rfl)), fun h => ?_⟩
                    rcases List.mem_append.1 h with h | h
                    · exact absurd h (of_decide_eq_false HBQ.out.symm)
                    · exact (List.mem_singleton.1 h).symm
                  rw [hv] at hqe
                  clear hv
                  go_upto_region 28 with fail
                  -- {r28b
                  refine wp_region_noPanic ?_
                  refine wp_region_held_drew (S := fun W => Only (fun _ => False) wr W) (by kernel_rfl) (Only.drew _ _) (fun hHeld => ?_)
                  refine wpAnyH_take (i := 0) (oi := { dst := some 171, op := Op.move (Operand.tmp 24), type := 4, pos := "law.go:178", after := #[], guard := none }) (v := .bool false) rfl (by kernel_rfl) (by kernel_rfl) (by kernel_rfl) (fun _ _ _ h => h) (Or.inl ⟨by rfl, fun w' hSw => by clear hSw; go_simp⟩) (by assumption) ?_
                  simp only [Act.put, List.setIfInBounds_toArray, List.set_cons_zero, List.set_cons_succ]
                  refine wpAnyH_take (i := 1) (oi := { dst := some 172, op := Op.move (Operand.tmp 171), type := 4, pos := "law.go:178", after := #[{ on := 0, ground := Ground.data }], guard := none }) (v := .bool false) rfl (by kernel_rfl) (by kernel_rfl) (by kernel_rfl) (fun _ _ _ h => h) (Or.inl ⟨by rfl, fun w' hSw => by clear hSw; go_simp⟩) (by assumption) ?_
                  simp only [Act.put, List.setIfInBounds_toArray, List.set_cons_zero, List.set_cons_succ]
                  refine wpAnyH_take (i := 2) (oi := { dst := some 173, op := Op.move (Operand.tmp 12), type := 35, pos := "law.go:178", after := #[{ on := 1, ground := Ground.guard }], guard := some (1, false) }) (v := .slice (some ⟨Bx, ox, none⟩) m Cx) rfl (by kernel_rfl) (by kernel_rfl) (by kernel_rfl) (fun _ _ _ h => h) (Or.inl ⟨by rfl, fun w' hSw => by clear hSw; go_simp⟩) (by assumption) ?_
                  simp only [Act.put, List.setIfInBounds_toArray, List.set_cons_zero, List.set_cons_succ]
                  refine wpAnyH_take (i := 3) (oi := { dst := some 174, op := Op.move (Operand.tmp 25), type := 3, pos := "law.go:178", after := #[{ on := 1, ground := Ground.guard }], guard := some (1, false) }) (v := .int .i64 (q : Int)) rfl (by kernel_rfl) (by kernel_rfl) (by kernel_rfl) (fun _ _ _ h => h) (Or.inl ⟨by rfl, fun w' hSw => by clear hSw; go_simp⟩) (by assumption) ?_
                  simp only [Act.put, List.setIfInBounds_toArray, List.set_cons_zero, List.set_cons_succ]
                  refine wpAnyH_take (i := 6) (oi := { dst := some 177, op := Op.move (Operand.tmp 18), type := 35, pos := "law.go:178", after := #[{ on := 1, ground := Ground.guard }], guard := some (1, false) }) (v := .slice (some ⟨Ba, oa, none⟩) N1 Ca) rfl (by kernel_rfl) (by kernel_rfl) (by kernel_rfl) (fun _ _ _ h => h) (Or.inl ⟨by rfl, fun w' hSw => by clear hSw; go_simp⟩) (by assumption) ?_
                  simp only [Act.put, List.setIfInBounds_toArray, List.set_cons_zero, List.set_cons_succ]
                  refine wpAnyH_take (i := 7) (oi := { dst := some 178, op := Op.move (Operand.tmp 19), type := 3, pos := "law.go:178", after := #[{ on := 1, ground := Ground.guard }], guard := some (1, false) }) (v := .int .i64 (j : Int)) rfl (by kernel_rfl) (by kernel_rfl) (by kernel_rfl) (fun _ _ _ h => h) (Or.inl ⟨by rfl, fun w' hSw => by clear hSw; go_simp⟩) (by assumption) ?_
                  simp only [Act.put, List.setIfInBounds_toArray, List.set_cons_zero, List.set_cons_succ]
                  refine wpAnyH_take (i := 4) (oi := { dst := some 175, op := Op.indexAddr 35 (Operand.tmp 173) (Operand.tmp 174), type := 0, pos := "law.go:178", after := #[{ on := 2, ground := Ground.data }, { on := 3, ground := Ground.data }, { on := 1, ground := Ground.guard }], guard := some (1, false) }) (v := .pointer (some ⟨Bx, ox + q * 3, none⟩)) rfl (by kernel_rfl) (by kernel_rfl) (by kernel_rfl) (fun _ _ _ h => h) (Or.inl ⟨by rfl, fun w' hSw => by clear hSw; go_simp⟩) (by assumption) ?_
                  simp only [Act.put, List.setIfInBounds_toArray, List.set_cons_zero, List.set_cons_succ]
                  refine wpAnyH_take (i := 8) (oi := { dst := some 179, op := Op.indexAddr 35 (Operand.tmp 177) (Operand.tmp 178), type := 0, pos := "law.go:178", after := #[{ on := 6, ground := Ground.data }, { on := 7, ground := Ground.data }, { on := 1, ground := Ground.guard }], guard := some (1, false) }) (v := .pointer (some ⟨Ba, oa + j * 3, none⟩)) rfl (by kernel_rfl) (by kernel_rfl) (by kernel_rfl) (fun _ _ _ h => h) (Or.inl ⟨by rfl, fun w' hSw => by clear hSw; go_simp⟩) (by assumption) ?_
                  simp only [Act.put, List.setIfInBounds_toArray, List.set_cons_zero, List.set_cons_succ]
                  refine wpAnyH_take (i := 5) (oi := { dst := some 176, op := Op.load 23 (Operand.tmp 175), type := 23, pos := "law.go:178", after := #[{ on := 4, ground := Ground.data }, { on := 1, ground := Ground.guard }], guard := some (1, false) }) (v := .agg #[.string g.key, .int .i64 g.page, .int .i64 g.slot]) rfl (by kernel_rfl) (by kernel_rfl) (by kernel_rfl) (fun _ _ _ h => h) (yieldsIf_load_eb (by rfl) _ rfl rfl (fun W hW => HBX.out.more hW)) (by assumption) ?_
                  simp only [Act.put, List.setIfInBounds_toArray, List.set_cons_zero, List.set_cons_succ]
                  refine wpAnyH_take (i := 9) (oi := { dst := some 180, op := Op.load 23 (Operand.tmp 179), type := 23, pos := "law.go:178", after := #[{ on := 8, ground := Ground.data }, { on := 1, ground := Ground.guard }], guard := some (1, false) }) (v := .agg #[.string f.key, .int .i64 f.page, .int .i64 f.slot]) rfl (by kernel_rfl) (by kernel_rfl) (by kernel_rfl) (fun _ _ _ h => h) (yieldsIf_load_eb (by rfl) _ rfl rfl (fun W hW => HBA3.out.more hW)) (by assumption) ?_
                  simp only [Act.put, List.setIfInBounds_toArray, List.set_cons_zero, List.set_cons_succ]
                  refine wpAnyH_take (i := 10) (oi := { dst := some 181, op := Op.binOp BinOp.eql 23 (Operand.tmp 176) (Operand.tmp 180) 23, type := 4, pos := "law.go:178", after := #[{ on := 5, ground := Ground.data }, { on := 9, ground := Ground.data }, { on := 1, ground := Ground.guard }], guard := some (1, false) }) (v := .bool v) rfl (by kernel_rfl) (by kernel_rfl) (by kernel_rfl) (fun _ _ _ h => h) (Or.inl ⟨by rfl, fun w' hSw => by clear hSw; go_simp⟩) (by assumption) ?_
                  simp only [Act.put, List.setIfInBounds_toArray, List.set_cons_zero, List.set_cons_succ]
                  refine wpAnyH_take (i := 11) (oi := { dst := some 182, op := Op.pick (Operand.tmp 172) (Operand.const (Value.bool true)) (Operand.tmp 181), type := 4, pos := "law.go:178", after := #[{ on := 1, ground := Ground.data }, { on := 10, ground := Ground.data }], guard := none }) (v := .bool v) rfl (by kernel_rfl) (by kernel_rfl) (by kernel_rfl) (fun _ _ _ h => h) (Or.inl ⟨by rfl, fun w' hSw => by clear hSw; go_simp⟩) (by assumption) ?_
                  simp only [Act.put, List.setIfInBounds_toArray, List.set_cons_zero, List.set_cons_succ]
                  refine wpAnyH_take (i := 12) (oi := { dst := some 24, op := Op.assign (Operand.tmp 182), type := 4, pos := "law.go:178", after := #[{ on := 11, ground := Ground.data }, { on := 1, ground := Ground.chain }, { on := 0, ground := Ground.phase }, { on := 1, ground := Ground.phase }, { on := 2, ground := Ground.phase }, { on := 3, ground := Ground.phase }, { on := 4, ground := Ground.phase }, { on := 5, ground := Ground.phase }, { on := 6, ground := Ground.phase }, { on := 7, ground := Ground.phase }, { on := 8, ground := Ground.phase }, { on := 9, ground := Ground.phase }, { on := 10, ground := Ground.phase }, { on := 11, ground := Ground.phase }], guard := none }) (v := .bool v) rfl (by kernel_rfl) (by kernel_rfl) (by kernel_rfl) (fun _ _ _ h => h) (Or.inl ⟨by rfl, fun w' hSw => by clear hSw; go_simp⟩) (by assumption) ?_
                  simp only [Act.put, List.setIfInBounds_toArray, List.set_cons_zero, List.set_cons_succ]
                  refine wpAnyH_done (by kernel_rfl) ?_ _
                  refine NoPanic.normal ?_
                  -- r28b}
                  clear hqe
                  go_wp2_with fail
                  go_roundw
                  case rel => exact ⟨q + 1, v, by omega, by go_num, rfl, HNQ, hide (o2 HW3.out (Only.drew _ _))⟩
                  case measure => simp [intOf]; omega
              · have hqk : ¬ (q : Int) < (m : Int) := by omega
                have hbx : b = decide (f ∈ xs) := by
                  have h1 := HBQ.out
                  rwa [List.take_of_length_le (by have := HM.out; omega)] at h1
                have HBB := hide hbx
                have HW4 := hide (o2 HW2.out HW3.out)
                clear hbx HBQ HW2 HW3
                by_cases h0 : 0 < j
                · have hbt : (b == t) = false := by
                    rw [HBB.out, HJK.out h0]
                    cases t <;> rfl
                  have h0' : (0 : Int) < (j : Int) := by omega
                  clear HJK HBB
                  go_wp2_with fail
                  go_roundw
                  case rel => exact ⟨j + 1, by omega, by go_num, HW4⟩
                  case measure => simp [intOf]; omega
                · obtain rfl : j = 0 := by omega
                  clear HJK HBB h0
                  go_wp2_with fail
                  go_roundw
                  case rel => exact ⟨0 + 1, by omega, by go_num, HW4⟩
                  case measure => simp [intOf]; omega
      · have hlk : ¬ (j : Int) < (N1 : Int) := by omega
        have HO12 := hide (o2 HO11.out HW.out)
        go_wp2_with fail
        refine (HAW.out _).mono ?_
        rintro x w12 ⟨rfl, ho⟩
        have HO13 := hide (o2 HO12.out ho)
        clear ho
        go_wp2_with fail
        go_ret
        exact ⟨rfl, HO13.out⟩
end Go.Proofs.Ythhlmhghiknnkaa
