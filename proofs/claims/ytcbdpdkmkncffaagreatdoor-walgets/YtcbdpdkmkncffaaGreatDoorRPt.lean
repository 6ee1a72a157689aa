/- What parts does. -/
import Derived.Test.YtcbdpdkmkncffaaGreatDoorRStore
namespace Go.Proofs.YtcbdpdkmkncffaaGreatDoor
open Go.RowKit

theorem results_rec {fn : Func} {p u : Tmp} (h : fn.results = #[.cell p 37, .tmp u]) {tmps : Array Value} {w : World} {b : Nat} {v : Value} (hp : tmps.getD p undef = .pointer (some ⟨b, 0, none⟩)) (hP : (loadVar 37 ⟨b, 0, none⟩).run Tryz.prog w = .ok v w) :
    (results fn tmps).run Tryz.prog w = .ok (.tuple #[v, tmps.getD u undef]) w := by
  have e : (asAddr (.pointer (some ⟨b, 0, none⟩))).run Tryz.prog w = .ok ⟨b, 0, none⟩ w := rfl
  rw [results_cell_tmp h, hp, e]
  simp only [Result.andThen, hP]
/-- What parts answers. -/
structure PrQ (w w' : World) (e : Ending) (l : List UInt8) : Prop where
  ex : ∃ q st, Steps l q st ∧ (∀ i ∈ q.images, i.body.lsn < 9223372036854775808) ∧ ((st = ([], 0) ∧ q.valid ∧ q.lay = l ∧ ∃ L, (∀ W', Only (fun k => k < w.heap.size) w' W' → RcAt W' q L) ∧ e = .returned (.tuple #[.agg (q.cells L), .bool true])) ∨ (¬ (st = ([], 0) ∧ q.valid ∧ q.lay = l) ∧ e = .returned (.tuple #[.agg (Rc.none.cells Loc.none), .bool false])))
  only : Only (fun _ => False) w w'
set_option maxRecDepth 100000 in
set_option maxHeartbeats 3200000 in
theorem rparts_any (w : World) (d : ByteArray) : Calls Tryz.prog 56 #[.string d] w fun e w' => PrQ w w' e (bl d) := by
  obtain ⟨⟨n1, s1⟩, h1⟩ : ∃ a, rN top (bl d, 0) = a := ⟨_, rfl⟩
  obtain ⟨⟨n2, s2⟩, h2⟩ : ∃ a, rN top s1 = a := ⟨_, rfl⟩
  obtain ⟨⟨n3, s3⟩, h3⟩ : ∃ a, rN top s2 = a := ⟨_, rfl⟩
  obtain ⟨⟨n4, s4⟩, h4⟩ : ∃ a, rN 13 s3 = a := ⟨_, rfl⟩
  obtain ⟨⟨n5, s5⟩, h5⟩ : ∃ a, rN top s4 = a := ⟨_, rfl⟩
  obtain ⟨⟨n6, s6⟩, h6⟩ : ∃ a, rN top s5 = a := ⟨_, rfl⟩
  obtain ⟨⟨n7, s7⟩, h7⟩ : ∃ a, rN top s6 = a := ⟨_, rfl⟩
  obtain ⟨⟨n8, s8⟩, h8⟩ : ∃ a, rN top s7 = a := ⟨_, rfl⟩
  obtain ⟨⟨n9, s9⟩, h9⟩ : ∃ a, rN top s8 = a := ⟨_, rfl⟩
  obtain ⟨⟨n10, s10⟩, h10⟩ : ∃ a, rN top s9 = a := ⟨_, rfl⟩
  obtain ⟨⟨td, s11⟩, h11⟩ : ∃ a, rT 512 s10 = a := ⟨_, rfl⟩
  obtain ⟨⟨l12, s12⟩, h12⟩ : ∃ a, rL (rN top) 255 s11 = a := ⟨_, rfl⟩
  obtain ⟨⟨l13, s13⟩, h13⟩ : ∃ a, rL (rN top) 255 s12 = a := ⟨_, rfl⟩
  obtain ⟨⟨l14, s14⟩, h14⟩ : ∃ a, rL rIm 4 s13 = a := ⟨_, rfl⟩
  obtain ⟨⟨l15, s15⟩, h15⟩ : ∃ a, rL rPr 8192 s14 = a := ⟨_, rfl⟩
  obtain ⟨⟨l16, s16⟩, h16⟩ : ∃ a, rL rPr 1024 s15 = a := ⟨_, rfl⟩
  obtain ⟨q, hq⟩ : ∃ q : Rc, q = ⟨n1, n2, n3, n4, n5, n6, n7, n8, n9, n10, str td, l12, l13, l14, l15, l16⟩ := ⟨_, rfl⟩
  have HST : Hid (Steps (bl d) q s16) := by
    subst hq
    exact ⟨⟨s1, s2, s3, s4, s5, s6, s7, s8, s9, s10, s11, s12, s13, s14, s15, td, h1, h2, h3, h4, h5, h6, h7, h8, h9, h10, h11, rfl, h12, h13, h14, h15, h16⟩⟩
  have hkb := rN_bd 13 s3
  have hkl := rN_le 13 s3 (by omega)
  rw [h4] at hkb hkl
  have htd := rT_most 512 s10 (by omega)
  rw [h11] at htd
  simp only at hkb hkl htd
  have hk0 := hkb.1
  have hk8 : n4 % 256 = n4 := by omega
  have HQ := hide hq
  have H1 := hide h1
  have H2 := hide h2
  have H3 := hide h3
  have H4 := hide h4
  have H5 := hide h5
  have H6 := hide h6
  have H7 := hide h7
  have H8 := hide h8
  have H9 := hide h9
  have H10 := hide h10
  have H11 := hide h11
  have H12 := hide h12
  have H13 := hide h13
  have H14 := hide h14
  have H15 := hide h15
  have H16 := hide h16
  clear hq hkb h1 h2 h3 h4 h5 h6 h7 h8 h9 h10 h11 h12 h13 h14 h15 h16
  have HP0 := hide (PtS.new w d)
  obtain ⟨W0, hW0⟩ : ∃ W0, ((w.alloc (.cells #[.int .i64 0, .int .i64 0, .int .i64 0, .int .u8 0, .int .i64 0, .int .i64 0, .int .i64 0, .int .i64 0, .int .i64 0, .int .i64 0, .string ⟨#[]⟩, .slice none 0 0, .slice none 0 0, .slice none 0 0, .slice none 0 0, .slice none 0 0] 37)).alloc (.cells #[.string d, .int .i64 0] 152)).alloc (.cells #[.int .i64 0, .int .i64 0, .int .i64 0, .int .u8 0, .int .i64 0, .int .i64 0, .int .i64 0, .int .i64 0, .int .i64 0, .int .i64 0, .string ⟨#[]⟩, .slice none 0 0, .slice none 0 0, .slice none 0 0, .slice none 0 0, .slice none 0 0] 37) = W0 := ⟨_, rfl⟩
  rw [hW0] at HP0
  have HW0 := hide hW0
  clear hW0
  go_enter Tryz.func56, Tryz.ntmps56
  go_wp2_with fail
  refine (read_any d _).mono ?_
  rintro e wx ⟨rfl, rfl⟩
  simp only [World.size_alloc]
  go_upto_region 3 with fail
  rw [HW0.out]
  obtain ⟨rd, hrd⟩ : ∃ rd, w.heap.size + 1 = rd := ⟨_, rfl⟩
  obtain ⟨bx, hbx⟩ : ∃ bx, rd + 1 = bx := ⟨_, rfl⟩
  obtain ⟨b0, hb0⟩ : ∃ b0, w.heap.size = b0 := ⟨_, rfl⟩
  rw [hrd] at HP0 ⊢
  rw [hbx] at HP0 ⊢
  have HP0b : Hid (PtS w W0 b0 rd bx zs16 (bl d, 0)) := by rw [← hb0]; exact HP0
  rw [hb0]
  clear HP0 hrd hbx hb0
  go_wp2_with fail
  have q1 := tn_any _ rd (bl d, 0) HP0b.out.rs
  rw [H1.out] at q1
  refine Calls.mono q1 ?_
  clear q1
  rintro e X1 ⟨rfl, hr1, ho1⟩
  have hlt1 := HP0b.out.l3
  have hl21 := HP0b.out.l2
  have P1 := hide (HP0b.out.step hr1 ho1)
  have c1 := P1.out.cell 0 _ rfl
  have f1 := P1.out.fz 0
  have S1 : Hid (PtS w (X1.setCell ⟨bx, 0, none⟩ (.int .i64 n1)) b0 rd bx [.int .i64 n1, .int .i64 0, .int .i64 0, .int .u8 0, .int .i64 0, .int .i64 0, .int .i64 0, .int .i64 0, .int .i64 0, .int .i64 0, .string ⟨#[]⟩, .slice none 0 0, .slice none 0 0, .slice none 0 0, .slice none 0 0, .slice none 0 0] s1) := P1.out.store 0 (.int .i64 n1) (by simp)
  clear hr1 ho1 HP0b P1 H1 hlt1 hl21
  go_wp2_with fail
  have q2 := tn_any _ rd s1 S1.out.rs
  rw [H2.out] at q2
  refine Calls.mono q2 ?_
  clear q2
  rintro e X2 ⟨rfl, hr2, ho2⟩
  have hlt2 := S1.out.l3
  have hl22 := S1.out.l2
  have P2 := hide (S1.out.step hr2 ho2)
  have c2 := P2.out.cell 1 _ rfl
  have f2 := P2.out.fz 1
  have S2 : Hid (PtS w (X2.setCell ⟨bx, 1, none⟩ (.int .i64 n2)) b0 rd bx [.int .i64 n1, .int .i64 n2, .int .i64 0, .int .u8 0, .int .i64 0, .int .i64 0, .int .i64 0, .int .i64 0, .int .i64 0, .int .i64 0, .string ⟨#[]⟩, .slice none 0 0, .slice none 0 0, .slice none 0 0, .slice none 0 0, .slice none 0 0] s2) := P2.out.store 1 (.int .i64 n2) (by simp)
  clear hr2 ho2 S1 P2 H2 hlt2 hl22
  clear c1 f1
  go_wp2_with fail
  have q3 := tn_any _ rd s2 S2.out.rs
  rw [H3.out] at q3
  refine Calls.mono q3 ?_
  clear q3
  rintro e X3 ⟨rfl, hr3, ho3⟩
  have hlt3 := S2.out.l3
  have hl23 := S2.out.l2
  have P3 := hide (S2.out.step hr3 ho3)
  have c3 := P3.out.cell 2 _ rfl
  have f3 := P3.out.fz 2
  have S3 : Hid (PtS w (X3.setCell ⟨bx, 2, none⟩ (.int .i64 n3)) b0 rd bx [.int .i64 n1, .int .i64 n2, .int .i64 n3, .int .u8 0, .int .i64 0, .int .i64 0, .int .i64 0, .int .i64 0, .int .i64 0, .int .i64 0, .string ⟨#[]⟩, .slice none 0 0, .slice none 0 0, .slice none 0 0, .slice none 0 0, .slice none 0 0] s3) := P3.out.store 2 (.int .i64 n3) (by simp)
  clear hr3 ho3 S2 P3 H3 hlt3 hl23
  clear c2 f2
  go_wp2_with fail
  have q4 := rn_any _ rd s3 13 S3.out.rs
  rw [H4.out] at q4
  refine Calls.mono q4 ?_
  clear q4
  rintro e X4 ⟨rfl, hr4, ho4⟩
  have hlt4 := S3.out.l3
  have hl24 := S3.out.l2
  have P4 := hide (S3.out.step hr4 ho4)
  have c4 := P4.out.cell 3 _ rfl
  have f4 := P4.out.fz 3
  have S4 : Hid (PtS w (X4.setCell ⟨bx, 3, none⟩ (.int .u8 n4)) b0 rd bx [.int .i64 n1, .int .i64 n2, .int .i64 n3, .int .u8 n4, .int .i64 0, .int .i64 0, .int .i64 0, .int .i64 0, .int .i64 0, .int .i64 0, .string ⟨#[]⟩, .slice none 0 0, .slice none 0 0, .slice none 0 0, .slice none 0 0, .slice none 0 0] s4) := P4.out.store 3 (.int .u8 n4) (by simp)
  clear hr4 ho4 S3 P4 H4 hlt4 hl24
  clear c3 f3
  go_wp2_with fail
  have q5 := tn_any _ rd s4 S4.out.rs
  rw [H5.out] at q5
  refine Calls.mono q5 ?_
  clear q5
  rintro e X5 ⟨rfl, hr5, ho5⟩
  have hlt5 := S4.out.l3
  have hl25 := S4.out.l2
  have P5 := hide (S4.out.step hr5 ho5)
  have c5 := P5.out.cell 4 _ rfl
  have f5 := P5.out.fz 4
  have S5 : Hid (PtS w (X5.setCell ⟨bx, 4, none⟩ (.int .i64 n5)) b0 rd bx [.int .i64 n1, .int .i64 n2, .int .i64 n3, .int .u8 n4, .int .i64 n5, .int .i64 0, .int .i64 0, .int .i64 0, .int .i64 0, .int .i64 0, .string ⟨#[]⟩, .slice none 0 0, .slice none 0 0, .slice none 0 0, .slice none 0 0, .slice none 0 0] s5) := P5.out.store 4 (.int .i64 n5) (by simp)
  clear hr5 ho5 S4 P5 H5 hlt5 hl25
  clear c4 f4
  go_wp2_with fail
  have q6 := tn_any _ rd s5 S5.out.rs
  rw [H6.out] at q6
  refine Calls.mono q6 ?_
  clear q6
  rintro e X6 ⟨rfl, hr6, ho6⟩
  have hlt6 := S5.out.l3
  have hl26 := S5.out.l2
  have P6 := hide (S5.out.step hr6 ho6)
  have c6 := P6.out.cell 5 _ rfl
  have f6 := P6.out.fz 5
  have S6 : Hid (PtS w (X6.setCell ⟨bx, 5, none⟩ (.int .i64 n6)) b0 rd bx [.int .i64 n1, .int .i64 n2, .int .i64 n3, .int .u8 n4, .int .i64 n5, .int .i64 n6, .int .i64 0, .int .i64 0, .int .i64 0, .int .i64 0, .string ⟨#[]⟩, .slice none 0 0, .slice none 0 0, .slice none 0 0, .slice none 0 0, .slice none 0 0] s6) := P6.out.store 5 (.int .i64 n6) (by simp)
  clear hr6 ho6 S5 P6 H6 hlt6 hl26
  clear c5 f5
  go_wp2_with fail
  have q7 := tn_any _ rd s6 S6.out.rs
  rw [H7.out] at q7
  refine Calls.mono q7 ?_
  clear q7
  rintro e X7 ⟨rfl, hr7, ho7⟩
  have hlt7 := S6.out.l3
  have hl27 := S6.out.l2
  have P7 := hide (S6.out.step hr7 ho7)
  have c7 := P7.out.cell 6 _ rfl
  have f7 := P7.out.fz 6
  have S7 : Hid (PtS w (X7.setCell ⟨bx, 6, none⟩ (.int .i64 n7)) b0 rd bx [.int .i64 n1, .int .i64 n2, .int .i64 n3, .int .u8 n4, .int .i64 n5, .int .i64 n6, .int .i64 n7, .int .i64 0, .int .i64 0, .int .i64 0, .string ⟨#[]⟩, .slice none 0 0, .slice none 0 0, .slice none 0 0, .slice none 0 0, .slice none 0 0] s7) := P7.out.store 6 (.int .i64 n7) (by simp)
  clear hr7 ho7 S6 P7 H7 hlt7 hl27
  clear c6 f6
  go_wp2_with fail
  have q8 := tn_any _ rd s7 S7.out.rs
  rw [H8.out] at q8
  refine Calls.mono q8 ?_
  clear q8
  rintro e X8 ⟨rfl, hr8, ho8⟩
  have hlt8 := S7.out.l3
  have hl28 := S7.out.l2
  have P8 := hide (S7.out.step hr8 ho8)
  have c8 := P8.out.cell 7 _ rfl
  have f8 := P8.out.fz 7
  have S8 : Hid (PtS w (X8.setCell ⟨bx, 7, none⟩ (.int .i64 n8)) b0 rd bx [.int .i64 n1, .int .i64 n2, .int .i64 n3, .int .u8 n4, .int .i64 n5, .int .i64 n6, .int .i64 n7, .int .i64 n8, .int .i64 0, .int .i64 0, .string ⟨#[]⟩, .slice none 0 0, .slice none 0 0, .slice none 0 0, .slice none 0 0, .slice none 0 0] s8) := P8.out.store 7 (.int .i64 n8) (by simp)
  clear hr8 ho8 S7 P8 H8 hlt8 hl28
  clear c7 f7
  go_wp2_with fail
  have q9 := tn_any _ rd s8 S8.out.rs
  rw [H9.out] at q9
  refine Calls.mono q9 ?_
  clear q9
  rintro e X9 ⟨rfl, hr9, ho9⟩
  have hlt9 := S8.out.l3
  have hl29 := S8.out.l2
  have P9 := hide (S8.out.step hr9 ho9)
  have c9 := P9.out.cell 8 _ rfl
  have f9 := P9.out.fz 8
  have S9 : Hid (PtS w (X9.setCell ⟨bx, 8, none⟩ (.int .i64 n9)) b0 rd bx [.int .i64 n1, .int .i64 n2, .int .i64 n3, .int .u8 n4, .int .i64 n5, .int .i64 n6, .int .i64 n7, .int .i64 n8, .int .i64 n9, .int .i64 0, .string ⟨#[]⟩, .slice none 0 0, .slice none 0 0, .slice none 0 0, .slice none 0 0, .slice none 0 0] s9) := P9.out.store 8 (.int .i64 n9) (by simp)
  clear hr9 ho9 S8 P9 H9 hlt9 hl29
  clear c8 f8
  go_wp2_with fail
  have q10 := tn_any _ rd s9 S9.out.rs
  rw [H10.out] at q10
  refine Calls.mono q10 ?_
  clear q10
  rintro e X10 ⟨rfl, hr10, ho10⟩
  have hlt10 := S9.out.l3
  have hl210 := S9.out.l2
  have P10 := hide (S9.out.step hr10 ho10)
  have c10 := P10.out.cell 9 _ rfl
  have f10 := P10.out.fz 9
  have S10 : Hid (PtS w (X10.setCell ⟨bx, 9, none⟩ (.int .i64 n10)) b0 rd bx [.int .i64 n1, .int .i64 n2, .int .i64 n3, .int .u8 n4, .int .i64 n5, .int .i64 n6, .int .i64 n7, .int .i64 n8, .int .i64 n9, .int .i64 n10, .string ⟨#[]⟩, .slice none 0 0, .slice none 0 0, .slice none 0 0, .slice none 0 0, .slice none 0 0] s10) := P10.out.store 9 (.int .i64 n10) (by simp)
  clear hr10 ho10 S9 P10 H10 hlt10 hl210
  clear c9 f9
  go_wp2_with fail
  have q11 := rt_any _ rd s10 512 S10.out.rs
  rw [H11.out] at q11
  refine Calls.mono q11 ?_
  clear q11
  rintro e X11 ⟨rfl, hr11, ho11⟩
  have hlt11 := S10.out.l3
  have hl211 := S10.out.l2
  have P11 := hide (S10.out.step hr11 ho11)
  have c11 := P11.out.cell 10 _ rfl
  have f11 := P11.out.fz 10
  have S11 : Hid (PtS w (X11.setCell ⟨bx, 10, none⟩ (.string (str td))) b0 rd bx [.int .i64 n1, .int .i64 n2, .int .i64 n3, .int .u8 n4, .int .i64 n5, .int .i64 n6, .int .i64 n7, .int .i64 n8, .int .i64 n9, .int .i64 n10, .string (str td), .slice none 0 0, .slice none 0 0, .slice none 0 0, .slice none 0 0, .slice none 0 0] s11) := P11.out.store 10 (.string (str td)) (by simp)
  clear hr11 ho11 S10 P11 H11 hlt11 hl211
  clear c10 f10
  go_wp2_with fail
  have q12 := tli_any _ rd s11 255 S11.out.rs (by omega) (by omega)
  rw [H12.out] at q12
  refine Calls.mono q12 ?_
  clear q12
  rintro e X12 hq12
  have hr12 := hq12.rs
  have ho12 := hq12.only
  obtain ⟨v12, rfl, hw12, hn12⟩ := hq12.ex
  simp only at hw12 hn12
  obtain ⟨B12, a12, c12', rfl, hz12, hf12, hB12⟩ := own_zs hw12 (by omega)
  have hlt12 := S11.out.l3
  have hl212 := S11.out.l2
  have hB12 : 0 < l12.length → bx < B12 := fun h0 => by have := hB12 h0; omega
  have P12 := hide (S11.out.step hr12 ho12)
  have c12 := P12.out.cell 11 _ rfl
  have f12 := P12.out.fz 11
  have S12 : Hid (PtS w (X12.setCell ⟨bx, 11, none⟩ (.slice a12 l12.length c12')) b0 rd bx [.int .i64 n1, .int .i64 n2, .int .i64 n3, .int .u8 n4, .int .i64 n5, .int .i64 n6, .int .i64 n7, .int .i64 n8, .int .i64 n9, .int .i64 n10, .string (str td), .slice a12 l12.length c12', .slice none 0 0, .slice none 0 0, .slice none 0 0, .slice none 0 0] s12) := P12.out.store 11 (.slice a12 l12.length c12') (by simp)
  have hos12 := Only.setCell (S := fun k => k = bx) X12 ⟨bx, 11, none⟩ (.slice a12 l12.length c12') rfl
  have hz12 := hz12.kept hos12 (fun h0 => by have := hB12 h0; omega)
  have HZ12_12 := hide hz12
  clear hz12
  clear hq12 hos12
  clear hr12 ho12 S11 P12 H12
  clear c11 f11
  go_wp2_with fail
  have hz12 := HZ12_12.out
  have q13 := tli_any _ rd s12 255 S12.out.rs (by omega) (by omega)
  rw [H13.out] at q13
  refine Calls.mono q13 ?_
  clear q13
  rintro e X13 hq13
  have hr13 := hq13.rs
  have ho13 := hq13.only
  obtain ⟨v13, rfl, hw13, hn13⟩ := hq13.ex
  simp only at hw13 hn13
  obtain ⟨B13, a13, c13', rfl, hz13, hf13, hB13⟩ := own_zs hw13 (by omega)
  have hlt13 := S12.out.l3
  have hl213 := S12.out.l2
  have hB13 : 0 < l13.length → bx < B13 := fun h0 => by have := hB13 h0; omega
  have P13 := hide (S12.out.step hr13 ho13)
  have hz12 := hz12.kept ho13 (fun h0 => by have := hB12 h0; omega)
  have c13 := P13.out.cell 12 _ rfl
  have f13 := P13.out.fz 12
  have S13 : Hid (PtS w (X13.setCell ⟨bx, 12, none⟩ (.slice a13 l13.length c13')) b0 rd bx [.int .i64 n1, .int .i64 n2, .int .i64 n3, .int .u8 n4, .int .i64 n5, .int .i64 n6, .int .i64 n7, .int .i64 n8, .int .i64 n9, .int .i64 n10, .string (str td), .slice a12 l12.length c12', .slice a13 l13.length c13', .slice none 0 0, .slice none 0 0, .slice none 0 0] s13) := P13.out.store 12 (.slice a13 l13.length c13') (by simp)
  have hos13 := Only.setCell (S := fun k => k = bx) X13 ⟨bx, 12, none⟩ (.slice a13 l13.length c13') rfl
  have hz12 := hz12.kept hos13 (fun h0 => by have := hB12 h0; omega)
  have hz13 := hz13.kept hos13 (fun h0 => by have := hB13 h0; omega)
  have HZ12_13 := hide hz12
  have HZ13_13 := hide hz13
  clear hz12 hz13
  clear hq13 hos13
  clear hr13 ho13 S12 P13 H13
  clear c12 f12
  go_wp2_with fail
  have hz12 := HZ12_13.out
  have hz13 := HZ13_13.out
  have q14 := tlimage_any _ rd s13 4 S13.out.rs (by omega) (by omega)
  rw [H14.out] at q14
  refine Calls.mono q14 ?_
  clear q14
  rintro e X14 hq14
  have hr14 := hq14.rs
  have ho14 := hq14.only
  obtain ⟨v14, rfl, Lx, hL, hLi, hn14⟩ := hq14.ex
  obtain ⟨B14, a14, c14', rfl, hz14, hf14, hB14⟩ := hLi.ims (by omega)
  simp only at hL
  rw [hL] at hz14 hf14 ⊢
  have hx14 := S13.out.l3
  have hz14 := hz14.mono (T' := fun d => bx < d) (fun d hd => by omega)
  have hlt14 := S13.out.l3
  have hl214 := S13.out.l2
  have hB14 : 0 < l14.length → bx < B14 := fun h0 => by have := hB14 (by rw [← hL, List.length_map] at h0; exact h0); omega
  have P14 := hide (S13.out.step hr14 ho14)
  have hz12 := hz12.kept ho14 (fun h0 => by have := hB12 h0; omega)
  have hz13 := hz13.kept ho14 (fun h0 => by have := hB13 h0; omega)
  have c14 := P14.out.cell 13 _ rfl
  have f14 := P14.out.fz 13
  have S14 : Hid (PtS w (X14.setCell ⟨bx, 13, none⟩ (.slice a14 l14.length c14')) b0 rd bx [.int .i64 n1, .int .i64 n2, .int .i64 n3, .int .u8 n4, .int .i64 n5, .int .i64 n6, .int .i64 n7, .int .i64 n8, .int .i64 n9, .int .i64 n10, .string (str td), .slice a12 l12.length c12', .slice a13 l13.length c13', .slice a14 l14.length c14', .slice none 0 0, .slice none 0 0] s14) := P14.out.store 13 (.slice a14 l14.length c14') (by simp)
  have hos14 := Only.setCell (S := fun k => k = bx) X14 ⟨bx, 13, none⟩ (.slice a14 l14.length c14') rfl
  have hz12 := hz12.kept hos14 (fun h0 => by have := hB12 h0; omega)
  have hz13 := hz13.kept hos14 (fun h0 => by have := hB13 h0; omega)
  have hz14 := hz14.kept hos14 (fun h0 => by have := hB14 h0; omega) (fun k hk => by omega)
  have HZ12_14 := hide hz12
  have HZ13_14 := hide hz13
  have HZ14_14 := hide hz14
  clear hz12 hz13 hz14
  clear hq14 hos14
  clear hr14 ho14 S13 P14 H14
  clear c13 f13
  go_wp2_with fail
  have hz12 := HZ12_14.out
  have hz13 := HZ13_14.out
  have hz14 := HZ14_14.out
  have q15 := tlowed_any _ rd s14 8192 S14.out.rs (by omega) (by omega)
  rw [H15.out] at q15
  refine Calls.mono q15 ?_
  clear q15
  rintro e X15 hq15
  have hr15 := hq15.rs
  have ho15 := hq15.only
  obtain ⟨v15, rfl, hw15, hn15⟩ := hq15.ex
  simp only at hw15 hn15
  obtain ⟨B15, a15, c15', rfl, hz15, hf15, hB15⟩ := own_prs hw15 (by omega)
  have hlt15 := S14.out.l3
  have hl215 := S14.out.l2
  have hB15 : 0 < l15.length → bx < B15 := fun h0 => by have := hB15 h0; omega
  have P15 := hide (S14.out.step hr15 ho15)
  have hz12 := hz12.kept ho15 (fun h0 => by have := hB12 h0; omega)
  have hz13 := hz13.kept ho15 (fun h0 => by have := hB13 h0; omega)
  have hz14 := hz14.kept ho15 (fun h0 => by have := hB14 h0; omega) (fun k hk => by omega)
  have c15 := P15.out.cell 14 _ rfl
  have f15 := P15.out.fz 14
  have S15 : Hid (PtS w (X15.setCell ⟨bx, 14, none⟩ (.slice a15 l15.length c15')) b0 rd bx [.int .i64 n1, .int .i64 n2, .int .i64 n3, .int .u8 n4, .int .i64 n5, .int .i64 n6, .int .i64 n7, .int .i64 n8, .int .i64 n9, .int .i64 n10, .string (str td), .slice a12 l12.length c12', .slice a13 l13.length c13', .slice a14 l14.length c14', .slice a15 l15.length c15', .slice none 0 0] s15) := P15.out.store 14 (.slice a15 l15.length c15') (by simp)
  have hos15 := Only.setCell (S := fun k => k = bx) X15 ⟨bx, 14, none⟩ (.slice a15 l15.length c15') rfl
  have hz12 := hz12.kept hos15 (fun h0 => by have := hB12 h0; omega)
  have hz13 := hz13.kept hos15 (fun h0 => by have := hB13 h0; omega)
  have hz14 := hz14.kept hos15 (fun h0 => by have := hB14 h0; omega) (fun k hk => by omega)
  have hz15 := hz15.kept hos15 (fun h0 => by have := hB15 h0; omega)
  have HZ12_15 := hide hz12
  have HZ13_15 := hide hz13
  have HZ14_15 := hide hz14
  have HZ15_15 := hide hz15
  clear hz12 hz13 hz14 hz15
  clear hq15 hos15
  clear hr15 ho15 S14 P15 H15
  clear c14 f14
  go_wp2_with fail
  have hz12 := HZ12_15.out
  have hz13 := HZ13_15.out
  have hz14 := HZ14_15.out
  have hz15 := HZ15_15.out
  have q16 := tlbegun_any _ rd s15 1024 S15.out.rs (by omega) (by omega)
  rw [H16.out] at q16
  refine Calls.mono q16 ?_
  clear q16
  rintro e X16 hq16
  have hr16 := hq16.rs
  have ho16 := hq16.only
  obtain ⟨v16, rfl, hw16, hn16⟩ := hq16.ex
  simp only at hw16 hn16
  obtain ⟨B16, a16, c16', rfl, hz16, hf16, hB16⟩ := own_prs hw16 (by omega)
  have hlt16 := S15.out.l3
  have hl216 := S15.out.l2
  have hB16 : 0 < l16.length → bx < B16 := fun h0 => by have := hB16 h0; omega
  have P16 := hide (S15.out.step hr16 ho16)
  have hz12 := hz12.kept ho16 (fun h0 => by have := hB12 h0; omega)
  have hz13 := hz13.kept ho16 (fun h0 => by have := hB13 h0; omega)
  have hz14 := hz14.kept ho16 (fun h0 => by have := hB14 h0; omega) (fun k hk => by omega)
  have hz15 := hz15.kept ho16 (fun h0 => by have := hB15 h0; omega)
  have c16 := P16.out.cell 15 _ rfl
  have f16 := P16.out.fz 15
  have S16 : Hid (PtS w (X16.setCell ⟨bx, 15, none⟩ (.slice a16 l16.length c16')) b0 rd bx [.int .i64 n1, .int .i64 n2, .int .i64 n3, .int .u8 n4, .int .i64 n5, .int .i64 n6, .int .i64 n7, .int .i64 n8, .int .i64 n9, .int .i64 n10, .string (str td), .slice a12 l12.length c12', .slice a13 l13.length c13', .slice a14 l14.length c14', .slice a15 l15.length c15', .slice a16 l16.length c16'] s16) := P16.out.store 15 (.slice a16 l16.length c16') (by simp)
  have hos16 := Only.setCell (S := fun k => k = bx) X16 ⟨bx, 15, none⟩ (.slice a16 l16.length c16') rfl
  have hz12 := hz12.kept hos16 (fun h0 => by have := hB12 h0; omega)
  have hz13 := hz13.kept hos16 (fun h0 => by have := hB13 h0; omega)
  have hz14 := hz14.kept hos16 (fun h0 => by have := hB14 h0; omega) (fun k hk => by omega)
  have hz15 := hz15.kept hos16 (fun h0 => by have := hB15 h0; omega)
  have hz16 := hz16.kept hos16 (fun h0 => by have := hB16 h0; omega)
  have HZ12_16 := hide hz12
  have HZ13_16 := hide hz13
  have HZ14_16 := hide hz14
  have HZ15_16 := hide hz15
  have HZ16_16 := hide hz16
  clear hz12 hz13 hz14 hz15 hz16
  clear hq16 hos16
  clear hr16 ho16 S15 P16 H16
  clear c15 f15
  obtain ⟨Y, hY⟩ : ∃ Y, X16.setCell ⟨bx, 15, none⟩ (.slice a16 l16.length c16') = Y := ⟨_, rfl⟩
  rw [hY] at S16 HZ12_16 HZ13_16 HZ14_16 HZ15_16 HZ16_16
  have HY := hide hY
  clear hY
  have hbb := S16.out.l1
  obtain ⟨L, hLoc⟩ : ∃ L : Loc, L = ⟨a12, a13, a14, a15, a16, c12', c13', c14', c15', c16', B12, B13, B14, B15, B16⟩ := ⟨_, rfl⟩
  have HRC : Hid (∀ W', Only (fun k => k ≤ b0) Y W' → RcAt W' q L) := fun W' ho => by
    rw [HQ.out, hLoc]
    exact ⟨HZ12_16.out.kept ho (fun h0 e => by have := hB12 h0; omega), HZ13_16.out.kept ho (fun h0 e => by have := hB13 h0; omega), ⟨_, HZ14_16.out.kept ho (fun h0 e => by have := hB14 h0; omega) (fun k hk e => by omega)⟩, HZ15_16.out.kept ho (fun h0 e => by have := hB15 h0; omega), HZ16_16.out.kept ho (fun h0 e => by have := hB16 h0; omega), hf12, hf13, by show (str td).size ≤ _; rw [str_size]; omega, ⟨hk0, by show n4 ≤ 255; omega⟩⟩
  have HLS : Hid (∀ i ∈ q.images, i.body.lsn < 9223372036854775808) := by rw [HQ.out]; exact HZ14_16.out.lsn
  have HRNG : Hid (Y.rangeAt bx 0 (q.cl L)) := fun j v hv => by
    rw [HQ.out, hLoc] at hv
    rw [Nat.zero_add]
    exact S16.out.cell j v hv
  have hbx0 := S16.out.l2
  clear hB12 hB13 hB14 hB15 hB16 hf12 hf13 hf14 hf15 hf16 hL hLi HZ12_16 HZ13_16 HZ14_16 HZ15_16 HZ16_16 hkl htd hk8 hk0 HQ hLoc
  go_wp2_with fail
  rw [HY.out]
  refine (end_any Y rd s16 S16.out.rs).mono ?_
  rintro e w' ⟨⟨c, rfl, HC⟩, hw⟩
  obtain rfl := hw.symm
  clear c16 f16
  by_cases hs : s16 = ([], 0)
  · have hc : (c != 0) = false := by rw [HC.out.2 hs]; rfl
    have HS := hide hs
    clear hs
    go_upto_region 21 with fail
    go_wp2_with (refine wpList_load_rec rfl (.tmp 5) rfl bx rfl q L HRNG.out ?_; go_frame)
    refine (rbody_any Y q L (HRC.out Y (Only.refl _ _))).mono ?_
    rintro e w1 hq
    obtain ⟨o, ho, rfl⟩ := hq.ex
    have HO1 := hide hq.only
    have S1 := hide (S16.out.more hq.only)
    have HRN1 := hide (range_kept HRNG.out hq.only (fun h => h))
    clear hq
    rcases ho.cases with ⟨hv, rfl⟩ | ⟨hv, h1, h2⟩
    · have HV := hide hv
      clear hv ho
      by_cases hl : q.lay = bl d
      · have HL := hide hl
        simp only
        rw [hl, str_bl]
        clear hl
        have HTH := hide S1.out.there
        go_upto_region 24 with fail
        go_wp2_with (refine wpList_load_rec rfl (.tmp 5) rfl bx rfl q L HRN1.out ?_; go_frame; refine wpList_put_rec rfl (.tmp 2) (.tmp 76) rfl b0 rfl q L rfl HTH.out ?_; intro W9 HW9; go_frame)
        refine bodyPost_ret (results_rec rfl rfl HW9.out.load) rfl ?_
        have hor := HW9.out.only
        exact ⟨⟨_, _, HST.out, HLS.out, .inl ⟨HS.out, HV.out, HL.out, L, fun W' hW' => HRC.out W' (((HO1.out.mono (fun _ _ h => h.elim)).trans hor (fun _ _ h => Nat.le_of_eq h)).trans hW' (fun k hk h => by have := S16.out.ge; omega)), rfl⟩⟩, (o2 S16.out.only HO1.out).trans hor (fun i hi e => by have := S16.out.ge; omega)⟩
      · have HL := hide hl
        obtain ⟨X, hX⟩ : ∃ X, str q.lay = X := ⟨_, rfl⟩
        have hne : ¬ X.toList = d.toList := fun h => by
          have h2 := ba_toList h
          rw [← hX] at h2
          exact HL.out (by rw [← h2, bl_str])
        have hne2 : (X.toList == d.toList) = false := by simpa using hne
        simp only
        rw [hX]
        clear hl hX
        have HTH := hide S1.out.there
        go_upto_region 23 with fail
        go_wp2_with (refine wpList_build_rec rfl rfl ?_; go_frame; refine wpList_put_rec rfl (.tmp 2) (.tmp 75) rfl b0 rfl Rc.none Loc.none rfl HTH.out ?_; intro W9 HW9; go_frame)
        refine bodyPost_ret (results_rec rfl rfl HW9.out.load) rfl ?_
        exact ⟨⟨_, _, HST.out, HLS.out, .inr ⟨fun h => HL.out h.2.2, rfl⟩⟩, (o2 S16.out.only HO1.out).trans HW9.out.only (fun i hi e => by have := S16.out.ge; omega)⟩
    · obtain ⟨o1, c2⟩ := o
      simp only at h1 h2 ⊢
      subst h1
      have hne : (c2 != 0) = true := by simpa using h2
      have HV := hide hv
      clear hv ho h2
      have HTH := hide S1.out.there
      go_upto_region 23 with fail
      go_wp2_with (refine wpList_build_rec rfl rfl ?_; go_frame; refine wpList_put_rec rfl (.tmp 2) (.tmp 75) rfl b0 rfl Rc.none Loc.none rfl HTH.out ?_; intro W9 HW9; go_frame)
      refine bodyPost_ret (results_rec rfl rfl HW9.out.load) rfl ?_
      exact ⟨⟨_, _, HST.out, HLS.out, .inr ⟨fun h => HV.out h.2.1, rfl⟩⟩, (o2 S16.out.only HO1.out).trans HW9.out.only (fun i hi e => by have := S16.out.ge; omega)⟩
  · have hc : (c != 0) = true := by
      have : c ≠ 0 := fun h => hs (HC.out.1 h)
      simpa using this
    have HS := hide hs
    clear hs
    have HTH := hide S16.out.there
    go_upto_region 20 with fail
    go_wp2_with (refine wpList_build_rec rfl rfl ?_; go_frame; refine wpList_put_rec rfl (.tmp 2) (.tmp 62) rfl b0 rfl Rc.none Loc.none rfl HTH.out ?_; intro W9 HW9; go_frame)
    refine bodyPost_ret (results_rec rfl rfl HW9.out.load) rfl ?_
    exact ⟨⟨_, _, HST.out, HLS.out, .inr ⟨fun h => HS.out h.1, rfl⟩⟩, S16.out.only.trans HW9.out.only (fun i hi e => by have := S16.out.ge; omega)⟩
end Go.Proofs.YtcbdpdkmkncffaaGreatDoor
