/- What Decode does, with more told of the answer: its slots' cells may be written. -/
import Derived.Test.YtfjmidcldjfckaaGreatDoorRPt
import Derived.Test.YtfjmidcldjfckaaGreatDoorRDec
namespace Go.Proofs.YtfjmidcldjfckaaGreatDoor
open Go.RowKit

/-- Numbers that a slice leads to; their block may be written. -/
structure ZsF (w : World) (B : Nat) (ao : Option Addr) (l : List Int) : Prop where
  zs : Zs w B ao l
  fz : 0 < l.length → ∀ j, w.frozen? ⟨B, j, none⟩ = false
theorem ZsF.kept {S : Nat → Prop} {w w' : World} {B : Nat} {ao : Option Addr} {l : List Int} (h : ZsF w B ao l) (ho : Only S w w') (hS : 0 < l.length → ¬ S B) : ZsF w' B ao l :=
  ⟨h.zs.kept ho hS, fun h0 j => (ho.frozen (p := ⟨B, j, none⟩) (h.zs.lt h0) (hS h0)).trans (h.fz h0 j)⟩
theorem own_zsF {w : World} {base : Nat} {v : Value} {l : List Int} (h : w.ownsRow base 3 1 v l.length (l.map (Value.int .i64))) (hl : l.length ≤ 17592186043904) :
    ∃ B ao cp, v = .slice ao l.length cp ∧ ZsF w B ao l ∧ Fit ao l.length cp ∧ (0 < l.length → base ≤ B) := by
  obtain ⟨B, ao, cp, rfl, h1, h2, h3⟩ := own_zs h hl
  refine ⟨B, ao, cp, rfl, ⟨h1, fun h0 j => ?_⟩, h2, h3⟩
  obtain ⟨o, e, _⟩ := h1.at_ h0
  subst e
  rcases h.2 with ⟨hv, h00⟩ | ⟨g, cap, cur, hv, _⟩
  · omega
  · injection hv with e1 _ _
    injection e1 with e1
    injection e1 with e1 e2 _
    subst e1
    subst e2
    exact World.ownsRow.frozenAt h j
/-- A record in memory whose slots may be written. -/
structure RcF (lo : Nat) (w : World) (q : Rc) (L : Loc) : Prop where
  at_ : RcAt w q L
  fz : 0 < q.slots.length → lo ≤ L.b1 ∧ ∀ j, w.frozen? ⟨L.b1, j, none⟩ = false
structure PrO (w w' : World) (e : Ending) (l : List UInt8) : Prop where
  ex : ∃ q st, Steps l q st ∧ (∀ i ∈ q.images, i.body.lsn < 9223372036854775808) ∧ ((st = ([], 0) ∧ q.valid ∧ q.lay = l ∧ ∃ L, (∀ W', Only (fun k => k < w.heap.size) w' W' → RcF w.heap.size W' q L) ∧ e = .returned (.tuple #[.agg (q.cells L), .bool true])) ∨ (¬ (st = ([], 0) ∧ q.valid ∧ q.lay = l) ∧ e = .returned (.tuple #[.agg (Rc.none.cells Loc.none), .bool false])))
  only : Only (fun _ => False) w w'
set_option maxRecDepth 100000 in
set_option maxHeartbeats 3200000 in
theorem rparts_own (w : World) (d : ByteArray) : Calls Tryz.prog 10 #[.string d] w fun e w' => PrO w w' e (bl d) := by
  obtain ⟨⟨n1, s1⟩, h1⟩ : ∃ a, rN top (bl d, 0) = a := ⟨_, rfl⟩
  obtain ⟨⟨n2, s2⟩, h2⟩ : ∃ a, rN top s1 = a := ⟨_, rfl⟩
  obtain ⟨⟨n3, s3⟩, h3⟩ : ∃ a, rN top s2 = a := ⟨_, rfl⟩
  obtain ⟨⟨n4, s4⟩, h4⟩ : ∃ a, rN 13 s3 = a := ⟨_, rfl⟩
  obtain ⟨⟨n5, s5⟩, h5⟩ : ∃ a, rN top s4 = a := ⟨_, rfl⟩
  obtain ⟨⟨n6, s6⟩, h6⟩ : ∃ a, rN top s5 = a := ⟨_, rfl⟩
  obtain ⟨⟨n7, s7⟩, h7⟩ : ∃ a, rN top s6 = a := ⟨_, rfl⟩
  obtain ⟨⟨n8, s8⟩, h8⟩ : ∃ a, rN top s7 = a := ⟨_, rfl⟩
  obtain ⟨⟨n9, s9⟩, h9⟩ : ∃ a, rN top s8 = a := ⟨_, rfl⟩
  obtain ⟨⟨n10, s10⟩, h10⟩ : ∃ a, rN top s9 = a := ⟨_, rfl⟩
  obtain ⟨⟨td, s11⟩, h11⟩ : ∃ a, rT 512 s10 = a := ⟨_, rfl⟩
  obtain ⟨⟨l12, s12⟩, h12⟩ : ∃ a, rL (rN top) 255 s11 = a := ⟨_, rfl⟩
  obtain ⟨⟨l13, s13⟩, h13⟩ : ∃ a, rL (rN top) 255 s12 = a := ⟨_, rfl⟩
  obtain ⟨⟨l14, s14⟩, h14⟩ : ∃ a, rL rIm 4 s13 = a := ⟨_, rfl⟩
  obtain ⟨⟨l15, s15⟩, h15⟩ : ∃ a, rL rPr 8192 s14 = a := ⟨_, rfl⟩
  obtain ⟨⟨l16, s16⟩, h16⟩ : ∃ a, rL rPr 1024 s15 = a := ⟨_, rfl⟩
  obtain ⟨q, hq⟩ : ∃ q : Rc, q = ⟨n1, n2, n3, n4, n5, n6, n7, n8, n9, n10, str td, l12, l13, l14, l15, l16⟩ := ⟨_, rfl⟩
  have HST : Hid (Steps (bl d) q s16) := by
    subst hq
    exact ⟨⟨s1, s2, s3, s4, s5, s6, s7, s8, s9, s10, s11, s12, s13, s14, s15, td, h1, h2, h3, h4, h5, h6, h7, h8, h9, h10, h11, rfl, h12, h13, h14, h15, h16⟩⟩
  have hkb := rN_bd 13 s3
  have hkl := rN_le 13 s3 (by omega)
  rw [h4] at hkb hkl
  have htd := rT_most 512 s10 (by omega)
  rw [h11] at htd
  simp only at hkb hkl htd
  have hk0 := hkb.1
  have hk8 : n4 % 256 = n4 := by omega
  have HQ := hide hq
  have H1 := hide h1
  have H2 := hide h2
  have H3 := hide h3
  have H4 := hide h4
  have H5 := hide h5
  have H6 := hide h6
  have H7 := hide h7
  have H8 := hide h8
  have H9 := hide h9
  have H10 := hide h10
  have H11 := hide h11
  have H12 := hide h12
  have H13 := hide h13
  have H14 := hide h14
  have H15 := hide h15
  have H16 := hide h16
  clear hq hkb h1 h2 h3 h4 h5 h6 h7 h8 h9 h10 h11 h12 h13 h14 h15 h16
  have HP0 := hide (PtS.new w d)
  obtain ⟨W0, hW0⟩ : ∃ W0, ((w.alloc (.cells #[.int .i64 0, .int .i64 0, .int .i64 0, .int .u8 0, .int .i64 0, .int .i64 0, .int .i64 0, .int .i64 0, .int .i64 0, .int .i64 0, .string ⟨#[]⟩, .slice none 0 0, .slice none 0 0, .slice none 0 0, .slice none 0 0, .slice none 0 0] 28)).alloc (.cells #[.string d, .int .i64 0] 90)).alloc (.cells #[.int .i64 0, .int .i64 0, .int .i64 0, .int .u8 0, .int .i64 0, .int .i64 0, .int .i64 0, .int .i64 0, .int .i64 0, .int .i64 0, .string ⟨#[]⟩, .slice none 0 0, .slice none 0 0, .slice none 0 0, .slice none 0 0, .slice none 0 0] 28) = W0 := ⟨_, rfl⟩
  rw [hW0] at HP0
  have HW0 := hide hW0
  clear hW0
  go_enter Tryz.func10, Tryz.ntmps10
  go_wp2_with fail
  refine (read_any d _).mono ?_
  rintro e wx ⟨rfl, rfl⟩
  simp only [World.size_alloc]
  go_upto_region 3 with fail
  rw [HW0.out]
  obtain ⟨rd, hrd⟩ : ∃ rd, w.heap.size + 1 = rd := ⟨_, rfl⟩
  obtain ⟨bx, hbx⟩ : ∃ bx, rd + 1 = bx := ⟨_, rfl⟩
  obtain ⟨b0, hb0⟩ : ∃ b0, w.heap.size = b0 := ⟨_, rfl⟩
  rw [hrd] at HP0 ⊢
  rw [hbx] at HP0 ⊢
  have HP0b : Hid (PtS w W0 b0 rd bx zs16 (bl d, 0)) := by rw [← hb0]; exact HP0
  rw [hb0]
  clear HP0 hrd hbx hb0
  go_wp2_with fail
  have q1 := tn_any _ rd (bl d, 0) HP0b.out.rs
  rw [H1.out] at q1
  refine Calls.mono q1 ?_
  clear q1
  rintro e X1 ⟨rfl, hr1, ho1⟩
  have hlt1 := HP0b.out.l3
  have hl21 := HP0b.out.l2
  have P1 := hide (HP0b.out.step hr1 ho1)
  have c1 := P1.out.cell 0 _ rfl
  have f1 := P1.out.fz 0
  have S1 : Hid (PtS w (X1.setCell ⟨bx, 0, none⟩ (.int .i64 n1)) b0 rd bx [.int .i64 n1, .int .i64 0, .int .i64 0, .int .u8 0, .int .i64 0, .int .i64 0, .int .i64 0, .int .i64 0, .int .i64 0, .int .i64 0, .string ⟨#[]⟩, .slice none 0 0, .slice none 0 0, .slice none 0 0, .slice none 0 0, .slice none 0 0] s1) := P1.out.store 0 (.int .i64 n1) (by simp)
  clear hr1 ho1 HP0b P1 H1 hlt1 hl21
  go_wp2_with fail
  have q2 := tn_any _ rd s1 S1.out.rs
  rw [H2.out] at q2
  refine Calls.mono q2 ?_
  clear q2
  rintro e X2 ⟨rfl, hr2, ho2⟩
  have hlt2 := S1.out.l3
  have hl22 := S1.out.l2
  have P2 := hide (S1.out.step hr2 ho2)
  have c2 := P2.out.cell 1 _ rfl
  have f2 := P2.out.fz 1
  have S2 : Hid (PtS w (X2.setCell ⟨bx, 1, none⟩ (.int .i64 n2)) b0 rd bx [.int .i64 n1, .int .i64 n2, .int .i64 0, .int .u8 0, .int .i64 0, .int .i64 0, .int .i64 0, .int .i64 0, .int .i64 0, .int .i64 0, .string ⟨#[]⟩, .slice none 0 0, .slice none 0 0, .slice none 0 0, .slice none 0 0, .slice none 0 0] s2) := P2.out.store 1 (.int .i64 n2) (by simp)
  clear hr2 ho2 S1 P2 H2 hlt2 hl22
  clear c1 f1
  go_wp2_with fail
  have q3 := tn_any _ rd s2 S2.out.rs
  rw [H3.out] at q3
  refine Calls.mono q3 ?_
  clear q3
  rintro e X3 ⟨rfl, hr3, ho3⟩
  have hlt3 := S2.out.l3
  have hl23 := S2.out.l2
  have P3 := hide (S2.out.step hr3 ho3)
  have c3 := P3.out.cell 2 _ rfl
  have f3 := P3.out.fz 2
  have S3 : Hid (PtS w (X3.setCell ⟨bx, 2, none⟩ (.int .i64 n3)) b0 rd bx [.int .i64 n1, .int .i64 n2, .int .i64 n3, .int .u8 0, .int .i64 0, .int .i64 0, .int .i64 0, .int .i64 0, .int .i64 0, .int .i64 0, .string ⟨#[]⟩, .slice none 0 0, .slice none 0 0, .slice none 0 0, .slice none 0 0, .slice none 0 0] s3) := P3.out.store 2 (.int .i64 n3) (by simp)
  clear hr3 ho3 S2 P3 H3 hlt3 hl23
  clear c2 f2
  go_wp2_with fail
  have q4 := rn_any _ rd s3 13 S3.out.rs
  rw [H4.out] at q4
  refine Calls.mono q4 ?_
  clear q4
  rintro e X4 ⟨rfl, hr4, ho4⟩
  have hlt4 := S3.out.l3
  have hl24 := S3.out.l2
  have P4 := hide (S3.out.step hr4 ho4)
  have c4 := P4.out.cell 3 _ rfl
  have f4 := P4.out.fz 3
  have S4 : Hid (PtS w (X4.setCell ⟨bx, 3, none⟩ (.int .u8 n4)) b0 rd bx [.int .i64 n1, .int .i64 n2, .int .i64 n3, .int .u8 n4, .int .i64 0, .int .i64 0, .int .i64 0, .int .i64 0, .int .i64 0, .int .i64 0, .string ⟨#[]⟩, .slice none 0 0, .slice none 0 0, .slice none 0 0, .slice none 0 0, .slice none 0 0] s4) := P4.out.store 3 (.int .u8 n4) (by simp)
  clear hr4 ho4 S3 P4 H4 hlt4 hl24
  clear c3 f3
  go_wp2_with fail
  have q5 := tn_any _ rd s4 S4.out.rs
  rw [H5.out] at q5
  refine Calls.mono q5 ?_
  clear q5
  rintro e X5 ⟨rfl, hr5, ho5⟩
  have hlt5 := S4.out.l3
  have hl25 := S4.out.l2
  have P5 := hide (S4.out.step hr5 ho5)
  have c5 := P5.out.cell 4 _ rfl
  have f5 := P5.out.fz 4
  have S5 : Hid (PtS w (X5.setCell ⟨bx, 4, none⟩ (.int .i64 n5)) b0 rd bx [.int .i64 n1, .int .i64 n2, .int .i64 n3, .int .u8 n4, .int .i64 n5, .int .i64 0, .int .i64 0, .int .i64 0, .int .i64 0, .int .i64 0, .string ⟨#[]⟩, .slice none 0 0, .slice none 0 0, .slice none 0 0, .slice none 0 0, .slice none 0 0] s5) := P5.out.store 4 (.int .i64 n5) (by simp)
  clear hr5 ho5 S4 P5 H5 hlt5 hl25
  clear c4 f4
  go_wp2_with fail
  have q6 := tn_any _ rd s5 S5.out.rs
  rw [H6.out] at q6
  refine Calls.mono q6 ?_
  clear q6
  rintro e X6 ⟨rfl, hr6, ho6⟩
  have hlt6 := S5.out.l3
  have hl26 := S5.out.l2
  have P6 := hide (S5.out.step hr6 ho6)
  have c6 := P6.out.cell 5 _ rfl
  have f6 := P6.out.fz 5
  have S6 : Hid (PtS w (X6.setCell ⟨bx, 5, none⟩ (.int .i64 n6)) b0 rd bx [.int .i64 n1, .int .i64 n2, .int .i64 n3, .int .u8 n4, .int .i64 n5, .int .i64 n6, .int .i64 0, .int .i64 0, .int .i64 0, .int .i64 0, .string ⟨#[]⟩, .slice none 0 0, .slice none 0 0, .slice none 0 0, .slice none 0 0, .slice none 0 0] s6) := P6.out.store 5 (.int .i64 n6) (by simp)
  clear hr6 ho6 S5 P6 H6 hlt6 hl26
  clear c5 f5
  go_wp2_with fail
  have q7 := tn_any _ rd s6 S6.out.rs
  rw [H7.out] at q7
  refine Calls.mono q7 ?_
  clear q7
  rintro e X7 ⟨rfl, hr7, ho7⟩
  have hlt7 := S6.out.l3
  have hl27 := S6.out.l2
  have P7 := hide (S6.out.step hr7 ho7)
  have c7 := P7.out.cell 6 _ rfl
  have f7 := P7.out.fz 6
  have S7 : Hid (PtS w (X7.setCell ⟨bx, 6, none⟩ (.int .i64 n7)) b0 rd bx [.int .i64 n1, .int .i64 n2, .int .i64 n3, .int .u8 n4, .int .i64 n5, .int .i64 n6, .int .i64 n7, .int .i64 0, .int .i64 0, .int .i64 0, .string ⟨#[]⟩, .slice none 0 0, .slice none 0 0, .slice none 0 0, .slice none 0 0, .slice none 0 0] s7) := P7.out.store 6 (.int .i64 n7) (by simp)
  clear hr7 ho7 S6 P7 H7 hlt7 hl27
  clear c6 f6
  go_wp2_with fail
  have q8 := tn_any _ rd s7 S7.out.rs
  rw [H8.out] at q8
  refine Calls.mono q8 ?_
  clear q8
  rintro e X8 ⟨rfl, hr8, ho8⟩
  have hlt8 := S7.out.l3
  have hl28 := S7.out.l2
  have P8 := hide (S7.out.step hr8 ho8)
  have c8 := P8.out.cell 7 _ rfl
  have f8 := P8.out.fz 7
  have S8 : Hid (PtS w (X8.setCell ⟨bx, 7, none⟩ (.int .i64 n8)) b0 rd bx [.int .i64 n1, .int .i64 n2, .int .i64 n3, .int .u8 n4, .int .i64 n5, .int .i64 n6, .int .i64 n7, .int .i64 n8, .int .i64 0, .int .i64 0, .string ⟨#[]⟩, .slice none 0 0, .slice none 0 0, .slice none 0 0, .slice none 0 0, .slice none 0 0] s8) := P8.out.store 7 (.int .i64 n8) (by simp)
  clear hr8 ho8 S7 P8 H8 hlt8 hl28
  clear c7 f7
  go_wp2_with fail
  have q9 := tn_any _ rd s8 S8.out.rs
  rw [H9.out] at q9
  refine Calls.mono q9 ?_
  clear q9
  rintro e X9 ⟨rfl, hr9, ho9⟩
  have hlt9 := S8.out.l3
  have hl29 := S8.out.l2
  have P9 := hide (S8.out.step hr9 ho9)
  have c9 := P9.out.cell 8 _ rfl
  have f9 := P9.out.fz 8
  have S9 : Hid (PtS w (X9.setCell ⟨bx, 8, none⟩ (.int .i64 n9)) b0 rd bx [.int .i64 n1, .int .i64 n2, .int .i64 n3, .int .u8 n4, .int .i64 n5, .int .i64 n6, .int .i64 n7, .int .i64 n8, .int .i64 n9, .int .i64 0, .string ⟨#[]⟩, .slice none 0 0, .slice none 0 0, .slice none 0 0, .slice none 0 0, .slice none 0 0] s9) := P9.out.store 8 (.int .i64 n9) (by simp)
  clear hr9 ho9 S8 P9 H9 hlt9 hl29
  clear c8 f8
  go_wp2_with fail
  have q10 := tn_any _ rd s9 S9.out.rs
  rw [H10.out] at q10
  refine Calls.mono q10 ?_
  clear q10
  rintro e X10 ⟨rfl, hr10, ho10⟩
  have hlt10 := S9.out.l3
  have hl210 := S9.out.l2
  have P10 := hide (S9.out.step hr10 ho10)
  have c10 := P10.out.cell 9 _ rfl
  have f10 := P10.out.fz 9
  have S10 : Hid (PtS w (X10.setCell ⟨bx, 9, none⟩ (.int .i64 n10)) b0 rd bx [.int .i64 n1, .int .i64 n2, .int .i64 n3, .int .u8 n4, .int .i64 n5, .int .i64 n6, .int .i64 n7, .int .i64 n8, .int .i64 n9, .int .i64 n10, .string ⟨#[]⟩, .slice none 0 0, .slice none 0 0, .slice none 0 0, .slice none 0 0, .slice none 0 0] s10) := P10.out.store 9 (.int .i64 n10) (by simp)
  clear hr10 ho10 S9 P10 H10 hlt10 hl210
  clear c9 f9
  go_wp2_with fail
  have q11 := rt_any _ rd s10 512 S10.out.rs
  rw [H11.out] at q11
  refine Calls.mono q11 ?_
  clear q11
  rintro e X11 ⟨rfl, hr11, ho11⟩
  have hlt11 := S10.out.l3
  have hl211 := S10.out.l2
  have P11 := hide (S10.out.step hr11 ho11)
  have c11 := P11.out.cell 10 _ rfl
  have f11 := P11.out.fz 10
  have S11 : Hid (PtS w (X11.setCell ⟨bx, 10, none⟩ (.string (str td))) b0 rd bx [.int .i64 n1, .int .i64 n2, .int .i64 n3, .int .u8 n4, .int .i64 n5, .int .i64 n6, .int .i64 n7, .int .i64 n8, .int .i64 n9, .int .i64 n10, .string (str td), .slice none 0 0, .slice none 0 0, .slice none 0 0, .slice none 0 0, .slice none 0 0] s11) := P11.out.store 10 (.string (str td)) (by simp)
  clear hr11 ho11 S10 P11 H11 hlt11 hl211
  clear c10 f10
  go_wp2_with fail
  have q12 := tli_any _ rd s11 255 S11.out.rs (by omega) (by omega)
  rw [H12.out] at q12
  refine Calls.mono q12 ?_
  clear q12
  rintro e X12 hq12
  have hr12 := hq12.rs
  have ho12 := hq12.only
  obtain ⟨v12, rfl, hw12, hn12⟩ := hq12.ex
  simp only at hw12 hn12
  obtain ⟨B12, a12, c12', rfl, hz12, hf12, hB12⟩ := own_zsF hw12 (by omega)
  have hlt12 := S11.out.l3
  have hl212 := S11.out.l2
  have hB12 : 0 < l12.length → bx < B12 := fun h0 => by have := hB12 h0; omega
  have P12 := hide (S11.out.step hr12 ho12)
  have c12 := P12.out.cell 11 _ rfl
  have f12 := P12.out.fz 11
  have S12 : Hid (PtS w (X12.setCell ⟨bx, 11, none⟩ (.slice a12 l12.length c12')) b0 rd bx [.int .i64 n1, .int .i64 n2, .int .i64 n3, .int .u8 n4, .int .i64 n5, .int .i64 n6, .int .i64 n7, .int .i64 n8, .int .i64 n9, .int .i64 n10, .string (str td), .slice a12 l12.length c12', .slice none 0 0, .slice none 0 0, .slice none 0 0, .slice none 0 0] s12) := P12.out.store 11 (.slice a12 l12.length c12') (by simp)
  have hos12 := Only.setCell (S := fun k => k = bx) X12 ⟨bx, 11, none⟩ (.slice a12 l12.length c12') rfl
  have hz12 := hz12.kept hos12 (fun h0 => by have := hB12 h0; omega)
  have HZ12_12 := hide hz12
  clear hz12
  clear hq12 hos12
  clear hr12 ho12 S11 P12 H12
  clear c11 f11
  go_wp2_with fail
  have hz12 := HZ12_12.out
  have q13 := tli_any _ rd s12 255 S12.out.rs (by omega) (by omega)
  rw [H13.out] at q13
  refine Calls.mono q13 ?_
  clear q13
  rintro e X13 hq13
  have hr13 := hq13.rs
  have ho13 := hq13.only
  obtain ⟨v13, rfl, hw13, hn13⟩ := hq13.ex
  simp only at hw13 hn13
  obtain ⟨B13, a13, c13', rfl, hz13, hf13, hB13⟩ := own_zs hw13 (by omega)
  have hlt13 := S12.out.l3
  have hl213 := S12.out.l2
  have hB13 : 0 < l13.length → bx < B13 := fun h0 => by have := hB13 h0; omega
  have P13 := hide (S12.out.step hr13 ho13)
  have hz12 := hz12.kept ho13 (fun h0 => by have := hB12 h0; omega)
  have c13 := P13.out.cell 12 _ rfl
  have f13 := P13.out.fz 12
  have S13 : Hid (PtS w (X13.setCell ⟨bx, 12, none⟩ (.slice a13 l13.length c13')) b0 rd bx [.int .i64 n1, .int .i64 n2, .int .i64 n3, .int .u8 n4, .int .i64 n5, .int .i64 n6, .int .i64 n7, .int .i64 n8, .int .i64 n9, .int .i64 n10, .string (str td), .slice a12 l12.length c12', .slice a13 l13.length c13', .slice none 0 0, .slice none 0 0, .slice none 0 0] s13) := P13.out.store 12 (.slice a13 l13.length c13') (by simp)
  have hos13 := Only.setCell (S := fun k => k = bx) X13 ⟨bx, 12, none⟩ (.slice a13 l13.length c13') rfl
  have hz12 := hz12.kept hos13 (fun h0 => by have := hB12 h0; omega)
  have hz13 := hz13.kept hos13 (fun h0 => by have := hB13 h0; omega)
  have HZ12_13 := hide hz12
  have HZ13_13 := hide hz13
  clear hz12 hz13
  clear hq13 hos13
  clear hr13 ho13 S12 P13 H13
  clear c12 f12
  go_wp2_with fail
  have hz12 := HZ12_13.out
  have hz13 := HZ13_13.out
  have q14 := tlimage_any _ rd s13 4 S13.out.rs (by omega) (by omega)
  rw [H14.out] at q14
  refine Calls.mono q14 ?_
  clear q14
  rintro e X14 hq14
  have hr14 := hq14.rs
  have ho14 := hq14.only
  obtain ⟨v14, rfl, Lx, hL, hLi, hn14⟩ := hq14.ex
  obtain ⟨B14, a14, c14', rfl, hz14, hf14, hB14⟩ := hLi.ims (by omega)
  simp only at hL
  rw [hL] at hz14 hf14 ⊢
  have hx14 := S13.out.l3
  have hz14 := hz14.mono (T' := fun d => bx < d) (fun d hd => by omega)
  have hlt14 := S13.out.l3
  have hl214 := S13.out.l2
  have hB14 : 0 < l14.length → bx < B14 := fun h0 => by have := hB14 (by rw [← hL, List.length_map] at h0; exact h0); omega
  have P14 := hide (S13.out.step hr14 ho14)
  have hz12 := hz12.kept ho14 (fun h0 => by have := hB12 h0; omega)
  have hz13 := hz13.kept ho14 (fun h0 => by have := hB13 h0; omega)
  have c14 := P14.out.cell 13 _ rfl
  have f14 := P14.out.fz 13
  have S14 : Hid (PtS w (X14.setCell ⟨bx, 13, none⟩ (.slice a14 l14.length c14')) b0 rd bx [.int .i64 n1, .int .i64 n2, .int .i64 n3, .int .u8 n4, .int .i64 n5, .int .i64 n6, .int .i64 n7, .int .i64 n8, .int .i64 n9, .int .i64 n10, .string (str td), .slice a12 l12.length c12', .slice a13 l13.length c13', .slice a14 l14.length c14', .slice none 0 0, .slice none 0 0] s14) := P14.out.store 13 (.slice a14 l14.length c14') (by simp)
  have hos14 := Only.setCell (S := fun k => k = bx) X14 ⟨bx, 13, none⟩ (.slice a14 l14.length c14') rfl
  have hz12 := hz12.kept hos14 (fun h0 => by have := hB12 h0; omega)
  have hz13 := hz13.kept hos14 (fun h0 => by have := hB13 h0; omega)
  have hz14 := hz14.kept hos14 (fun h0 => by have := hB14 h0; omega) (fun k hk => by omega)
  have HZ12_14 := hide hz12
  have HZ13_14 := hide hz13
  have HZ14_14 := hide hz14
  clear hz12 hz13 hz14
  clear hq14 hos14
  clear hr14 ho14 S13 P14 H14
  clear c13 f13
  go_wp2_with fail
  have hz12 := HZ12_14.out
  have hz13 := HZ13_14.out
  have hz14 := HZ14_14.out
  have q15 := tlowed_any _ rd s14 8192 S14.out.rs (by omega) (by omega)
  rw [H15.out] at q15
  refine Calls.mono q15 ?_
  clear q15
  rintro e X15 hq15
  have hr15 := hq15.rs
  have ho15 := hq15.only
  obtain ⟨v15, rfl, hw15, hn15⟩ := hq15.ex
  simp only at hw15 hn15
  obtain ⟨B15, a15, c15', rfl, hz15, hf15, hB15⟩ := own_prs hw15 (by omega)
  have hlt15 := S14.out.l3
  have hl215 := S14.out.l2
  have hB15 : 0 < l15.length → bx < B15 := fun h0 => by have := hB15 h0; omega
  have P15 := hide (S14.out.step hr15 ho15)
  have hz12 := hz12.kept ho15 (fun h0 => by have := hB12 h0; omega)
  have hz13 := hz13.kept ho15 (fun h0 => by have := hB13 h0; omega)
  have hz14 := hz14.kept ho15 (fun h0 => by have := hB14 h0; omega) (fun k hk => by omega)
  have c15 := P15.out.cell 14 _ rfl
  have f15 := P15.out.fz 14
  have S15 : Hid (PtS w (X15.setCell ⟨bx, 14, none⟩ (.slice a15 l15.length c15')) b0 rd bx [.int .i64 n1, .int .i64 n2, .int .i64 n3, .int .u8 n4, .int .i64 n5, .int .i64 n6, .int .i64 n7, .int .i64 n8, .int .i64 n9, .int .i64 n10, .string (str td), .slice a12 l12.length c12', .slice a13 l13.length c13', .slice a14 l14.length c14', .slice a15 l15.length c15', .slice none 0 0] s15) := P15.out.store 14 (.slice a15 l15.length c15') (by simp)
  have hos15 := Only.setCell (S := fun k => k = bx) X15 ⟨bx, 14, none⟩ (.slice a15 l15.length c15') rfl
  have hz12 := hz12.kept hos15 (fun h0 => by have := hB12 h0; omega)
  have hz13 := hz13.kept hos15 (fun h0 => by have := hB13 h0; omega)
  have hz14 := hz14.kept hos15 (fun h0 => by have := hB14 h0; omega) (fun k hk => by omega)
  have hz15 := hz15.kept hos15 (fun h0 => by have := hB15 h0; omega)
  have HZ12_15 := hide hz12
  have HZ13_15 := hide hz13
  have HZ14_15 := hide hz14
  have HZ15_15 := hide hz15
  clear hz12 hz13 hz14 hz15
  clear hq15 hos15
  clear hr15 ho15 S14 P15 H15
  clear c14 f14
  go_wp2_with fail
  have hz12 := HZ12_15.out
  have hz13 := HZ13_15.out
  have hz14 := HZ14_15.out
  have hz15 := HZ15_15.out
  have q16 := tlbegun_any _ rd s15 1024 S15.out.rs (by omega) (by omega)
  rw [H16.out] at q16
  refine Calls.mono q16 ?_
  clear q16
  rintro e X16 hq16
  have hr16 := hq16.rs
  have ho16 := hq16.only
  obtain ⟨v16, rfl, hw16, hn16⟩ := hq16.ex
  simp only at hw16 hn16
  obtain ⟨B16, a16, c16', rfl, hz16, hf16, hB16⟩ := own_prs hw16 (by omega)
  have hlt16 := S15.out.l3
  have hl216 := S15.out.l2
  have hB16 : 0 < l16.length → bx < B16 := fun h0 => by have := hB16 h0; omega
  have P16 := hide (S15.out.step hr16 ho16)
  have hz12 := hz12.kept ho16 (fun h0 => by have := hB12 h0; omega)
  have hz13 := hz13.kept ho16 (fun h0 => by have := hB13 h0; omega)
  have hz14 := hz14.kept ho16 (fun h0 => by have := hB14 h0; omega) (fun k hk => by omega)
  have hz15 := hz15.kept ho16 (fun h0 => by have := hB15 h0; omega)
  have c16 := P16.out.cell 15 _ rfl
  have f16 := P16.out.fz 15
  have S16 : Hid (PtS w (X16.setCell ⟨bx, 15, none⟩ (.slice a16 l16.length c16')) b0 rd bx [.int .i64 n1, .int .i64 n2, .int .i64 n3, .int .u8 n4, .int .i64 n5, .int .i64 n6, .int .i64 n7, .int .i64 n8, .int .i64 n9, .int .i64 n10, .string (str td), .slice a12 l12.length c12', .slice a13 l13.length c13', .slice a14 l14.length c14', .slice a15 l15.length c15', .slice a16 l16.length c16'] s16) := P16.out.store 15 (.slice a16 l16.length c16') (by simp)
  have hos16 := Only.setCell (S := fun k => k = bx) X16 ⟨bx, 15, none⟩ (.slice a16 l16.length c16') rfl
  have hz12 := hz12.kept hos16 (fun h0 => by have := hB12 h0; omega)
  have hz13 := hz13.kept hos16 (fun h0 => by have := hB13 h0; omega)
  have hz14 := hz14.kept hos16 (fun h0 => by have := hB14 h0; omega) (fun k hk => by omega)
  have hz15 := hz15.kept hos16 (fun h0 => by have := hB15 h0; omega)
  have hz16 := hz16.kept hos16 (fun h0 => by have := hB16 h0; omega)
  have HZ12_16 := hide hz12
  have HZ13_16 := hide hz13
  have HZ14_16 := hide hz14
  have HZ15_16 := hide hz15
  have HZ16_16 := hide hz16
  clear hz12 hz13 hz14 hz15 hz16
  clear hq16 hos16
  clear hr16 ho16 S15 P16 H16
  clear c15 f15
  obtain ⟨Y, hY⟩ : ∃ Y, X16.setCell ⟨bx, 15, none⟩ (.slice a16 l16.length c16') = Y := ⟨_, rfl⟩
  rw [hY] at S16 HZ12_16 HZ13_16 HZ14_16 HZ15_16 HZ16_16
  have HY := hide hY
  clear hY
  have hbb := S16.out.l1
  obtain ⟨L, hLoc⟩ : ∃ L : Loc, L = ⟨a12, a13, a14, a15, a16, c12', c13', c14', c15', c16', B12, B13, B14, B15, B16⟩ := ⟨_, rfl⟩
  have hge0 := S16.out.ge
  have hge1 := S16.out.l2
  have HRC : Hid (∀ W', Only (fun k => k ≤ b0) Y W' → RcF w.heap.size W' q L) := fun W' ho => by
    rw [HQ.out, hLoc]
    refine ⟨?_, fun h0 => ⟨by have := hB12 h0; show w.heap.size ≤ B12; omega, (HZ12_16.out.kept ho (fun h0 e => by have := hB12 h0; omega)).fz h0⟩⟩
    exact ⟨(HZ12_16.out.kept ho (fun h0 e => by have := hB12 h0; omega)).zs, HZ13_16.out.kept ho (fun h0 e => by have := hB13 h0; omega), ⟨_, HZ14_16.out.kept ho (fun h0 e => by have := hB14 h0; omega) (fun k hk e => by omega)⟩, HZ15_16.out.kept ho (fun h0 e => by have := hB15 h0; omega), HZ16_16.out.kept ho (fun h0 e => by have := hB16 h0; omega), hf12, hf13, by show (str td).size ≤ _; rw [str_size]; omega, ⟨hk0, by show n4 ≤ 255; omega⟩⟩
  have HLS : Hid (∀ i ∈ q.images, i.body.lsn < 9223372036854775808) := by rw [HQ.out]; exact HZ14_16.out.lsn
  have HRNG : Hid (Y.rangeAt bx 0 (q.cl L)) := fun j v hv => by
    rw [HQ.out, hLoc] at hv
    rw [Nat.zero_add]
    exact S16.out.cell j v hv
  have hbx0 := S16.out.l2
  clear hge0 hge1
  clear hB12 hB13 hB14 hB15 hB16 hf12 hf13 hf14 hf15 hf16 hL hLi HZ12_16 HZ13_16 HZ14_16 HZ15_16 HZ16_16 hkl htd hk8 hk0 HQ hLoc
  go_wp2_with fail
  rw [HY.out]
  refine (end_any Y rd s16 S16.out.rs).mono ?_
  rintro e w' ⟨⟨c, rfl, HC⟩, hw⟩
  obtain rfl := hw.symm
  clear c16 f16
  by_cases hs : s16 = ([], 0)
  · have hc : (c != 0) = false := by rw [HC.out.2 hs]; rfl
    have HS := hide hs
    clear hs
    go_upto_region 21 with fail
    go_wp2_with (refine wpList_load_rec rfl (.tmp 5) rfl bx rfl q L HRNG.out ?_; go_frame)
    refine (rbody_any Y q L ((HRC.out Y (Only.refl _ _)).at_)).mono ?_
    rintro e w1 hq
    obtain ⟨o, ho, rfl⟩ := hq.ex
    have HO1 := hide hq.only
    have S1 := hide (S16.out.more hq.only)
    have HRN1 := hide (range_kept HRNG.out hq.only (fun h => h))
    clear hq
    rcases ho.cases with ⟨hv, rfl⟩ | ⟨hv, h1, h2⟩
    · have HV := hide hv
      clear hv ho
      by_cases hl : q.lay = bl d
      · have HL := hide hl
        simp only
        rw [hl, str_bl]
        clear hl
        have HTH := hide S1.out.there
        go_upto_region 24 with fail
        go_wp2_with (refine wpList_load_rec rfl (.tmp 5) rfl bx rfl q L HRN1.out ?_; go_frame; refine wpList_put_rec rfl (.tmp 2) (.tmp 76) rfl b0 rfl q L rfl HTH.out ?_; intro W9 HW9; go_frame)
        refine bodyPost_ret (results_rec rfl rfl HW9.out.load) rfl ?_
        have hor := HW9.out.only
        exact ⟨⟨_, _, HST.out, HLS.out, .inl ⟨HS.out, HV.out, HL.out, L, fun W' hW' => HRC.out W' (((HO1.out.mono (fun _ _ h => h.elim)).trans hor (fun _ _ h => Nat.le_of_eq h)).trans hW' (fun k hk h => by have := S16.out.ge; omega)), rfl⟩⟩, (o2 S16.out.only HO1.out).trans hor (fun i hi e => by have := S16.out.ge; omega)⟩
      · have HL := hide hl
        obtain ⟨X, hX⟩ : ∃ X, str q.lay = X := ⟨_, rfl⟩
        have hne : ¬ X.toList = d.toList := fun h => by
          have h2 := ba_toList h
          rw [← hX] at h2
          exact HL.out (by rw [← h2, bl_str])
        have hne2 : (X.toList == d.toList) = false := by simpa using hne
        simp only
        rw [hX]
        clear hl hX
        have HTH := hide S1.out.there
        go_upto_region 23 with fail
        go_wp2_with (refine wpList_build_rec rfl rfl ?_; go_frame; refine wpList_put_rec rfl (.tmp 2) (.tmp 75) rfl b0 rfl Rc.none Loc.none rfl HTH.out ?_; intro W9 HW9; go_frame)
        refine bodyPost_ret (results_rec rfl rfl HW9.out.load) rfl ?_
        exact ⟨⟨_, _, HST.out, HLS.out, .inr ⟨fun h => HL.out h.2.2, rfl⟩⟩, (o2 S16.out.only HO1.out).trans HW9.out.only (fun i hi e => by have := S16.out.ge; omega)⟩
    · obtain ⟨o1, c2⟩ := o
      simp only at h1 h2 ⊢
      subst h1
      have hne : (c2 != 0) = true := by simpa using h2
      have HV := hide hv
      clear hv ho h2
      have HTH := hide S1.out.there
      go_upto_region 23 with fail
      go_wp2_with (refine wpList_build_rec rfl rfl ?_; go_frame; refine wpList_put_rec rfl (.tmp 2) (.tmp 75) rfl b0 rfl Rc.none Loc.none rfl HTH.out ?_; intro W9 HW9; go_frame)
      refine bodyPost_ret (results_rec rfl rfl HW9.out.load) rfl ?_
      exact ⟨⟨_, _, HST.out, HLS.out, .inr ⟨fun h => HV.out h.2.1, rfl⟩⟩, (o2 S16.out.only HO1.out).trans HW9.out.only (fun i hi e => by have := S16.out.ge; omega)⟩
  · have hc : (c != 0) = true := by
      have : c ≠ 0 := fun h => hs (HC.out.1 h)
      simpa using this
    have HS := hide hs
    clear hs
    have HTH := hide S16.out.there
    go_upto_region 20 with fail
    go_wp2_with (refine wpList_build_rec rfl rfl ?_; go_frame; refine wpList_put_rec rfl (.tmp 2) (.tmp 62) rfl b0 rfl Rc.none Loc.none rfl HTH.out ?_; intro W9 HW9; go_frame)
    refine bodyPost_ret (results_rec rfl rfl HW9.out.load) rfl ?_
    exact ⟨⟨_, _, HST.out, HLS.out, .inr ⟨fun h => HS.out h.1, rfl⟩⟩, S16.out.only.trans HW9.out.only (fun i hi e => by have := S16.out.ge; omega)⟩
end Go.Proofs.YtfjmidcldjfckaaGreatDoor

namespace Go.Proofs.YtfjmidcldjfckaaGreatDoor
open Go.RowKit

theorem RcF.lower {lo lo' : Nat} {w : World} {q : Rc} {L : Loc} (h : RcF lo w q L) (hl : lo' ≤ lo) : RcF lo' w q L := ⟨h.at_, fun h0 => ⟨Nat.le_trans hl (h.fz h0).1, (h.fz h0).2⟩⟩
/-- What Decode answers. -/
structure DcO (w w' : World) (e : Ending) (l : List UInt8) : Prop where
  ex : ∃ (r : Rc) (n c : Int) (L : Loc), DecIs l r n c ∧ RcF w.heap.size w' r L ∧ e = .returned (.tuple #[.agg (r.cells L), .int .i64 n, .int .i64 c])
  only : Only (fun _ => False) w w'
set_option maxRecDepth 100000 in
set_option maxHeartbeats 3200000 in
theorem rdecode_own (w : World) (S : ByteArray) (hS : S.size ≤ maxLen) : Calls Tryz.prog 4 #[.string S] w fun e w' => DcO w w' e (bl S) := by
  unfold maxLen at hS
  have hlen : (bl S).length = S.size := bl_len S
  have HTH0 := hide (there_new w Rc.none Loc.none)
  have HO0 := hide (onlyA w (.cells (Rc.none.cells Loc.none) 28))
  obtain ⟨b0, hb0⟩ : ∃ b0, w.heap.size = b0 := ⟨_, rfl⟩
  rw [hb0] at HTH0
  have hb0' : w.heap.size ≤ b0 := by omega
  have hb0'' : b0 ≤ w.heap.size := by omega
  obtain ⟨W0, hW0⟩ : ∃ W0, w.alloc (.cells (Rc.none.cells Loc.none) 28) = W0 := ⟨_, rfl⟩
  rw [hW0] at HTH0 HO0
  have HW0 := hide hW0
  have HB0 := hide hb0
  clear hW0 hb0
  by_cases h8 : S.size < 8
  · have h8' : (S.size : Int) < 8 := by omega
    have HD : Hid (DecIs (bl S) .none 0 40) := di_short (by omega)
    have HTH := HTH0
    clear h8
    go_enter Tryz.func4, Tryz.ntmps4
    go_upto_region 1 with fail
    rw [HB0.out]
    rw [show w.alloc (.cells #[.int .i64 0, .int .i64 0, .int .i64 0, .int .u8 0, .int .i64 0, .int .i64 0, .int .i64 0, .int .i64 0, .int .i64 0, .int .i64 0, .string ⟨#[]⟩, .slice none 0 0, .slice none 0 0, .slice none 0 0, .slice none 0 0, .slice none 0 0] 28) = W0 from HW0.out]
    go_upto_region 2 with fail
    go_wp2_with (refine wpList_build_rec rfl rfl ?_; go_frame; refine wpList_put_rec rfl (.tmp 2) (.tmp 13) rfl b0 rfl Rc.none Loc.none rfl HTH.out ?_; intro W9 HW9; go_frame)
    refine bodyPost_ret (results_rec3 rfl rfl HW9.out.load) rfl ?_
    exact ⟨⟨Rc.none, 0, _, Loc.none, HD.out, ⟨none_at _, fun h0 => absurd h0 (by decide)⟩, rfl⟩, HO0.out.trans HW9.out.only (fun i hi e => by omega)⟩
  · have h8' : ¬ (S.size : Int) < 8 := by omega
    have h4 : (4 : Int) ≤ (S.size : Int) := by omega
    have h8b : (8 : Int) ≤ (S.size : Int) := by omega
    obtain ⟨A, hA⟩ : ∃ A, S.extract 0 4 = A := ⟨_, rfl⟩
    obtain ⟨C, hC⟩ : ∃ C, S.extract 4 8 = C := ⟨_, rfl⟩
    obtain ⟨R, hR⟩ : ∃ R, S.extract 8 S.size = R := ⟨_, rfl⟩
    have bA : bl A = (bl S).take 4 := by rw [← hA, ext_bl, List.drop_zero]
    have bC : bl C = ((bl S).drop 4).take 4 := by rw [← hC, ext_bl, List.drop_take]
    have bR : bl R = (bl S).drop 8 := by rw [← hR, ext_bl, List.take_of_length_le (by rw [bl_len]; exact Nat.le_refl _)]
    have sA : A.size = 4 := by rw [← bl_len, bA, List.length_take]; omega
    have sC : C.size = 4 := by rw [← bl_len, bC, List.length_take, List.length_drop]; omega
    have sR : R.size = S.size - 8 := by rw [← bl_len, bR, List.length_drop]; omega
    have oA := ofTo_small (bl A) (by rw [bl_len]; omega)
    have oC := ofTo_small (bl C) (by rw [bl_len]; omega)
    rw [bl_len, sA] at oA
    rw [bl_len, sC] at oC
    have p4 : (256 : Int) ^ 4 = 4294967296 := by decide
    rw [p4] at oA oC
    have cA := fun W => of_any A W (by unfold maxLen; omega)
    have cC := fun W => of_any C W (by unfold maxLen; omega)
    obtain ⟨n, hn⟩ := Int.eq_ofNat_of_zero_le oA.1
    obtain ⟨m, hm⟩ := Int.eq_ofNat_of_zero_le oC.1
    have eA : ofTo A.data.toList % 9223372036854775808 = (n : Int) := by show ofTo (bl A) % _ = _; omega
    have eC : ofTo C.data.toList % 9223372036854775808 = (m : Int) := by show ofTo (bl C) % _ = _; omega
    simp only [eA] at cA
    simp only [eC] at cC
    have HCA := hide cA
    have HCC := hide cC
    rw [bA] at hn
    rw [bC] at hm
    have HN := hide hn
    have HM := hide hm
    have HBR := hide bR
    have HSR := hide sR
    have hRb : R.size ≤ 9223372036854775807 := by omega
    have HL8 : Hid (8 ≤ (bl S).length) := by unfold Hid; omega
    have HLEN := hide hlen
    clear cA cC eA eC hn hm bA bC bR sA sC sR oA oC p4 h8 hlen
    by_cases hz : n = 0 ∨ 65535 < n
    · have HD : Hid (DecIs (bl S) .none 0 41) := di_zero HL8.out (by rw [HN.out]; omega)
      by_cases hz0 : n = 0
      · subst hz0
        clear hz
        go_enter Tryz.func4, Tryz.ntmps4
        go_upto_region 1 with fail
        rw [HB0.out]
        rw [show w.alloc (.cells #[.int .i64 0, .int .i64 0, .int .i64 0, .int .u8 0, .int .i64 0, .int .i64 0, .int .i64 0, .int .i64 0, .int .i64 0, .int .i64 0, .string ⟨#[]⟩, .slice none 0 0, .slice none 0 0, .slice none 0 0, .slice none 0 0, .slice none 0 0] 28) = W0 from HW0.out]
        go_wp2_with fail
        refine (HCA.out _).mono ?_
        rintro e w1 ⟨rfl, hw1⟩
        obtain rfl := hw1.symm
        go_upto_region 4 with fail
        go_quiet ((go_at_call 8; exact Calls.quiet_of_same (HCC.out _)))
        have HTH := hide (there_kept HTH0.out (onlyN W0 nq) (fun h => h))
        go_upto_region 6 with fail
        go_wp2_with (refine wpList_build_rec rfl rfl ?_; go_frame; refine wpList_put_rec rfl (.tmp 2) (.tmp 28) rfl b0 rfl Rc.none Loc.none rfl HTH.out ?_; intro W9 HW9; go_frame)
        refine bodyPost_ret (results_rec3 rfl rfl HW9.out.load) rfl ?_
        exact ⟨⟨Rc.none, 0, _, Loc.none, HD.out, ⟨none_at _, fun h0 => absurd h0 (by decide)⟩, rfl⟩, (o2 HO0.out (onlyN W0 nq)).trans HW9.out.only (fun i hi e => by omega)⟩
      · have hz1 : (65535 : Int) < (n : Int) := by omega
        have hz2 : ((n : Int) == 0) = false := by simp; omega
        clear hz hz0
        go_enter Tryz.func4, Tryz.ntmps4
        go_upto_region 1 with fail
        rw [HB0.out]
        rw [show w.alloc (.cells #[.int .i64 0, .int .i64 0, .int .i64 0, .int .u8 0, .int .i64 0, .int .i64 0, .int .i64 0, .int .i64 0, .int .i64 0, .int .i64 0, .string ⟨#[]⟩, .slice none 0 0, .slice none 0 0, .slice none 0 0, .slice none 0 0, .slice none 0 0] 28) = W0 from HW0.out]
        go_wp2_with fail
        refine (HCA.out _).mono ?_
        rintro e w1 ⟨rfl, hw1⟩
        obtain rfl := hw1.symm
        go_upto_region 4 with fail
        go_quiet ((go_at_call 8; exact Calls.quiet_of_same (HCC.out _)))
        have HTH := hide (there_kept HTH0.out (onlyN W0 nq) (fun h => h))
        go_upto_region 6 with fail
        go_wp2_with (refine wpList_build_rec rfl rfl ?_; go_frame; refine wpList_put_rec rfl (.tmp 2) (.tmp 28) rfl b0 rfl Rc.none Loc.none rfl HTH.out ?_; intro W9 HW9; go_frame)
        refine bodyPost_ret (results_rec3 rfl rfl HW9.out.load) rfl ?_
        exact ⟨⟨Rc.none, 0, _, Loc.none, HD.out, ⟨none_at _, fun h0 => absurd h0 (by decide)⟩, rfl⟩, (o2 HO0.out (onlyN W0 nq)).trans HW9.out.only (fun i hi e => by omega)⟩
    · have HNZ : Hid (¬ (ofTo ((bl S).take 4) = 0 ∨ 65535 < ofTo ((bl S).take 4))) := by unfold Hid; rw [HN.out]; omega
      have hz2 : ((n : Int) == 0) = false := by simp; omega
      have hz1 : ¬ (65535 : Int) < (n : Int) := by omega
      have hn1 : n ≤ 65535 := by omega
      clear hz
      by_cases hc : R.size < n
      · have hc' : (R.size : Int) < (n : Int) := by omega
        have HD : Hid (DecIs (bl S) .none 0 40) := di_cut HL8.out HNZ.out (by rw [HN.out, HLEN.out]; have := HSR.out; omega)
        clear hc
        go_enter Tryz.func4, Tryz.ntmps4
        go_upto_region 1 with fail
        rw [HB0.out]
        rw [show w.alloc (.cells #[.int .i64 0, .int .i64 0, .int .i64 0, .int .u8 0, .int .i64 0, .int .i64 0, .int .i64 0, .int .i64 0, .int .i64 0, .int .i64 0, .string ⟨#[]⟩, .slice none 0 0, .slice none 0 0, .slice none 0 0, .slice none 0 0, .slice none 0 0] 28) = W0 from HW0.out]
        go_wp2_with fail
        refine (HCA.out _).mono ?_
        rintro e w1 ⟨rfl, hw1⟩
        obtain rfl := hw1.symm
        go_upto_region 4 with fail
        go_quiet ((go_at_call 8; exact Calls.quiet_of_same (HCC.out _)))
        have HTH := hide (there_kept HTH0.out (onlyN W0 nq) (fun h => h))
        go_upto_region 8 with fail
        go_wp2_with (refine wpList_build_rec rfl rfl ?_; go_frame; refine wpList_put_rec rfl (.tmp 2) (.tmp 33) rfl b0 rfl Rc.none Loc.none rfl HTH.out ?_; intro W9 HW9; go_frame)
        refine bodyPost_ret (results_rec3 rfl rfl HW9.out.load) rfl ?_
        exact ⟨⟨Rc.none, 0, _, Loc.none, HD.out, ⟨none_at _, fun h0 => absurd h0 (by decide)⟩, rfl⟩, (o2 HO0.out (onlyN W0 nq)).trans HW9.out.only (fun i hi e => by omega)⟩
      · have hc' : ¬ (R.size : Int) < (n : Int) := by omega
        have hcc : (n : Int) ≤ (R.size : Int) := by omega
        have HNC : Hid (¬ ((bl S).length : Int) - 8 < ofTo ((bl S).take 4)) := by unfold Hid; rw [HN.out, HLEN.out]; have := HSR.out; omega
        obtain ⟨D, hD⟩ : ∃ D, R.extract 0 n = D := ⟨_, rfl⟩
        have bD : bl D = ((bl S).drop 8).take n := by rw [← hD, ext_bl, List.drop_zero, HBR.out]
        have sD : D.size ≤ 65535 := by rw [← bl_len, bD, List.length_take]; omega
        have HBD : Hid (bl D = ((bl S).drop 8).take (ofTo ((bl S).take 4)).toNat) := by unfold Hid; rw [HN.out, Int.toNat_natCast]; exact bD
        obtain ⟨z, hzz⟩ : ∃ z, sum D.data.toList = z := ⟨_, rfl⟩
        have hzb := sum_bd D.data.toList
        have cS := fun W => sum_any D W (by unfold maxLen; omega)
        rw [hzz] at hzb
        simp only [hzz] at cS
        have HCS := hide cS
        have HZZ : Hid (sum (bl D) = z) := hzz
        have hz0 := hzb.1
        have hz9 := hzb.2
        clear bD hc cS hzz hzb
        by_cases hs : z = (m : Int)
        · have hs' : (z != (m : Int)) = false := by simpa using hs
          have HSE : Hid (sum (((bl S).drop 8).take (ofTo ((bl S).take 4)).toNat) = ofTo (((bl S).drop 4).take 4)) := by unfold Hid; rw [← HBD.out, HZZ.out, HM.out]; exact hs
          clear hs
          go_enter Tryz.func4, Tryz.ntmps4
          go_upto_region 1 with fail
          rw [HB0.out]
          rw [show w.alloc (.cells #[.int .i64 0, .int .i64 0, .int .i64 0, .int .u8 0, .int .i64 0, .int .i64 0, .int .i64 0, .int .i64 0, .int .i64 0, .int .i64 0, .string ⟨#[]⟩, .slice none 0 0, .slice none 0 0, .slice none 0 0, .slice none 0 0, .slice none 0 0] 28) = W0 from HW0.out]
          go_wp2_with fail
          refine (HCA.out _).mono ?_
          rintro e w1 ⟨rfl, hw1⟩
          obtain rfl := hw1.symm
          go_upto_region 4 with fail
          go_quiet ((go_at_call 8; exact Calls.quiet_of_same (HCC.out _)))
          have HTH := hide (there_kept HTH0.out (onlyN W0 nq) (fun h => h))
          have HO1 := hide (o2 HO0.out (onlyN W0 nq))
          go_wp2_with fail
          refine (HCS.out _).mono ?_
          rintro e w1 ⟨rfl, hw1⟩
          obtain rfl := hw1.symm
          go_wp2_with fail
          refine (rparts_own _ D).mono ?_
          rintro e w2 hq
          obtain ⟨q, st, hst, hls, hx⟩ := hq.ex
          have HST := hide hst
          have HLS := hide hls
          have HO2 := hide (o2 HO1.out hq.only)
          have HTH2 := hide (there_kept HTH.out hq.only (fun h => h))
          have HO2W := hide hq.only.size
          have HNEW := hide (there_new w2 Rc.none Loc.none)
          have HOA := hide (onlyA w2 (.cells (Rc.none.cells Loc.none) 28))
          clear hq hst hls
          rcases hx with ⟨h1, h2, h3, L, hat, rfl⟩ | ⟨hbad, rfl⟩
          · have HX := hide h1
            have HV := hide h2
            have HY := hide h3
            have HAT := hide hat
            clear h1 h2 h3 hat
            have hb2 : b0 < w2.heap.size := by have h1 := HB0.out; have h2 := HO0.out.size; have h3 := HW0.out; have h4 : W0.heap.size = w.heap.size + 1 := by { rw [← h3]; simp }; have h5 := (onlyN W0 nq).size; have h6 := HO2W.out; omega
            go_upto_region 14 with (refine wpList_lay_rec rfl (.tmp 8) (.tmp 47) rfl w2.heap.size rfl q L rfl HNEW.out ?_; intro W3 HW3; go_frame)
            have HT3 := hide (there_kept (there_kept HTH2.out HOA.out (fun h => h)) HW3.out.only (by omega))
            have hn8 : (8 : Int) + (n : Int) ≤ 9223372036854775807 := by omega
            go_wp2_with (first
              | (refine wpList_load_rec rfl (.tmp 8) rfl w2.heap.size rfl q L HW3.out.range ?_; go_frame)
              | (refine wpList_put_rec rfl (.tmp 2) (.tmp 52) rfl b0 rfl q L rfl HT3.out ?_; intro W9 HW9; go_frame))
            refine bodyPost_ret (results_rec3 rfl rfl HW9.out.load) rfl ?_
            have hz0 := HB0.out
            refine ⟨⟨q, _, 0, L, di_rest HL8.out HNZ.out (by have := HNC.out; omega) HSE.out ⟨q, st, by rw [← HBD.out]; exact HST.out, HLS.out, .inl ⟨HX.out, HV.out, by rw [← HBD.out]; exact HY.out, rfl, rfl, rfl⟩⟩, (HAT.out _ ?_).lower (by have h1 := HO1.out.size; omega), ?_⟩, ?_⟩
            · have k4 : W0.heap.size = w.heap.size + 1 := by rw [← HW0.out]; simp
              have k5 := (onlyN W0 nq).size
              exact ((HOA.out.mono (fun _ _ h => h.elim)).trans HW3.out.only (fun i hi e => by omega)).trans HW9.out.only (fun i hi e => by omega)
            · rw [HN.out]; rfl
            · exact ((o2 HO2.out HOA.out).trans HW3.out.only (fun i hi e => by omega)).trans HW9.out.only (fun i hi e => by omega)
          · have HX := hide hbad
            clear hbad
            go_upto_region 12 with (refine wpList_lay_rec rfl (.tmp 8) (.tmp 47) rfl w2.heap.size rfl Rc.none Loc.none rfl HNEW.out ?_; intro W3 HW3; go_frame)
            have hb2 : b0 < w2.heap.size := by have h1 := HB0.out; have h2 := HO0.out.size; have h3 := HW0.out; have h4 : W0.heap.size = w.heap.size + 1 := by { rw [← h3]; simp }; have h5 := (onlyN W0 nq).size; have h6 := HO2W.out; omega
            have HTH := hide (there_kept (there_kept HTH2.out HOA.out (fun h => h)) HW3.out.only (by omega))
            have HO3 := hide ((o2 HO2.out HOA.out).trans HW3.out.only (fun i hi e => by omega))
            go_upto_region 13 with fail
            go_wp2_with (refine wpList_build_rec rfl rfl ?_; go_frame; refine wpList_put_rec rfl (.tmp 2) (.tmp 51) rfl b0 rfl Rc.none Loc.none rfl HTH.out ?_; intro W9 HW9; go_frame)
            refine bodyPost_ret (results_rec3 rfl rfl HW9.out.load) rfl ?_
            exact ⟨⟨Rc.none, 0, 41, Loc.none, di_rest HL8.out HNZ.out (by have := HNC.out; omega) HSE.out ⟨q, st, by rw [← HBD.out]; exact HST.out, HLS.out, .inr ⟨by rw [← HBD.out]; exact HX.out, rfl, rfl, rfl⟩⟩, ⟨none_at _, fun h0 => absurd h0 (by decide)⟩, rfl⟩, HO3.out.trans HW9.out.only (fun i hi e => by omega)⟩
        · have hs' : (z != (m : Int)) = true := by simpa using hs
          have HD : Hid (DecIs (bl S) .none 0 30) := di_sum HL8.out HNZ.out HNC.out (by rw [← HBD.out, HZZ.out, HM.out]; exact hs)
          clear hs
          go_enter Tryz.func4, Tryz.ntmps4
          go_upto_region 1 with fail
          rw [HB0.out]
          rw [show w.alloc (.cells #[.int .i64 0, .int .i64 0, .int .i64 0, .int .u8 0, .int .i64 0, .int .i64 0, .int .i64 0, .int .i64 0, .int .i64 0, .int .i64 0, .string ⟨#[]⟩, .slice none 0 0, .slice none 0 0, .slice none 0 0, .slice none 0 0, .slice none 0 0] 28) = W0 from HW0.out]
          go_wp2_with fail
          refine (HCA.out _).mono ?_
          rintro e w1 ⟨rfl, hw1⟩
          obtain rfl := hw1.symm
          go_upto_region 4 with fail
          go_quiet ((go_at_call 8; exact Calls.quiet_of_same (HCC.out _)))
          have HTH := hide (there_kept HTH0.out (onlyN W0 nq) (fun h => h))
          have HO1 := hide (o2 HO0.out (onlyN W0 nq))
          go_wp2_with fail
          refine (HCS.out _).mono ?_
          rintro e w1 ⟨rfl, hw1⟩
          obtain rfl := hw1.symm
          go_upto_region 10 with fail
          go_wp2_with (refine wpList_build_rec rfl rfl ?_; go_frame; refine wpList_put_rec rfl (.tmp 2) (.tmp 41) rfl b0 rfl Rc.none Loc.none rfl HTH.out ?_; intro W9 HW9; go_frame)
          refine bodyPost_ret (results_rec3 rfl rfl HW9.out.load) rfl ?_
          exact ⟨⟨Rc.none, 0, _, Loc.none, HD.out, ⟨none_at _, fun h0 => absurd h0 (by decide)⟩, rfl⟩, HO1.out.trans HW9.out.only (fun i hi e => by omega)⟩
end Go.Proofs.YtfjmidcldjfckaaGreatDoor
