/- Parts. -/
import Derived.Test.YtajjakljheafjaaGreatK45
set_option maxRecDepth 100000
namespace Go.Proofs.YtajjakljheafjaaGreat
open Go.RowKit
abbrev pvS (s : Sh) : Pv := ⟨s.p.lsn, s.p.kind, s.p.level, s.p.right, s.p.high, s.pa, s.p.items.length, s.pc⟩
abbrev wantV (k : Int) (t : ByteArray) (s g : Int) : Value := .agg #[.int .i64 k, .string t, .int .i64 s, .int .i64 g]
theorem eqW_run (k : Int) (t : ByteArray) (s g : Int) (w : World) : (binOp .eql 32 (wantV k t s g) (wantV k t s g)).run Tryz.prog w = .ok (.bool true) w := by
  simp [go_sem]
theorem neW_run (k : Int) (t : ByteArray) (s g : Int) (w : World) : (binOp .neq 32 (wantV k t s g) (wantV k t s g)).run Tryz.prog w = .ok (.bool false) w := by
  simp [go_sem]
set_option maxRecDepth 100000 in
set_option maxHeartbeats 3200000 in
theorem nil_law (w : World) (s : Sh) :
    Calls Tryz.prog 5 #[.agg s.cl.toArray] w fun e w' => e = .returned (.bool true) ∧ Only (fun _ => False) w w' := by
  have HO := hide (onlyA w (.cells s.cl.toArray 44))
  have HB := hide (Cb.new w s.cl 44)
  have HPG : Hid (∀ W, Calls Tryz.prog 12 #[.pointer none, .agg (vvO s.V s.q).ar, .agg (pvS s).ar, .slice s.fa s.fr.length s.fc] W (NoP W)) := fun W => page_no W _ _ _ _ _ _ (fun W2 _ => wants_nil W2 3)
  have HND : Hid (∀ W, Calls Tryz.prog 11 #[.pointer none, .agg (pvS s).ar] W fun e w' => e = .returned (.int .i64 0) ∧ Only (fun _ => False) W w') := fun W => Need_nil W _
  have HRP : Hid (∀ W, Calls Tryz.prog 13 #[.pointer none] W fun e w' => e = .returned (.agg #[.int .i64 0, .bool false, .string ⟨#[]⟩, .slice none 0 0]) ∧ Only (fun _ => False) W w') := fun W => Reply_no W _ (fun W2 _ => wants_nil W2 4)
  have heq := eqW_run 0 ⟨#[]⟩ 0 0
  unfold Pv.ar Vv.ar at *
  unfold Sh.cl at *
  go_enter Tryz.func5, Tryz.ntmps5
  go_upto_region 1 with fail
  obtain ⟨W0, hW0⟩ : ∃ x, w.alloc (.cells #[.int .i64 s.ask, .int .i64 s.p.lsn, .int .i64 s.p.kind, .int .i64 s.p.level, .int .i64 s.p.right, .string s.p.high, .slice s.pa s.p.items.length s.pc, .int .i64 s.V.m, .int .i64 s.V.next, .slice s.q.aA s.V.act.length s.q.cA, .int .i64 s.V.own, .slice s.q.aR s.V.run.length s.q.cR, .int .i64 s.V.pg.lsn, .int .i64 s.V.pg.kind, .int .i64 s.V.pg.level, .int .i64 s.V.pg.right, .string s.V.pg.high, .slice s.q.aP s.V.pg.items.length s.q.cP, .slice s.fa s.fr.length s.fc, .bool s.got, .int .i64 s.e, .int .i64 s.n] 44) = x := ⟨_, rfl⟩
  have HB : Hid (Cb W0 w.heap.size s.cl) := by rw [← hW0]; exact HB.out
  have HO : Hid (Only (fun _ => False) w W0) := by rw [← hW0]; exact HO.out
  rw [hW0]
  clear hW0
  have c0 := HB.out.c 0 _ rfl
  have c1 := HB.out.c 1 _ rfl
  have c2 := HB.out.c 2 _ rfl
  have c3 := HB.out.c 3 _ rfl
  have c4 := HB.out.c 4 _ rfl
  have c5 := HB.out.c 5 _ rfl
  have c6 := HB.out.c 6 _ rfl
  have c7 := HB.out.c 7 _ rfl
  have c8 := HB.out.c 8 _ rfl
  have c9 := HB.out.c 9 _ rfl
  have c10 := HB.out.c 10 _ rfl
  have c11 := HB.out.c 11 _ rfl
  have c12 := HB.out.c 12 _ rfl
  have c13 := HB.out.c 13 _ rfl
  have c14 := HB.out.c 14 _ rfl
  have c15 := HB.out.c 15 _ rfl
  have c16 := HB.out.c 16 _ rfl
  have c17 := HB.out.c 17 _ rfl
  have c18 := HB.out.c 18 _ rfl
  have c19 := HB.out.c 19 _ rfl
  have c20 := HB.out.c 20 _ rfl
  have c21 := HB.out.c 21 _ rfl
  go_wp2_with fail
  refine (Lock_nil W0 true 0).mono ?_
  rintro x w1 ⟨rfl, h1⟩
  obtain rfl := h1.symm
  go_wp2_with fail
  refine (Space_nil W0 s.n).mono ?_
  rintro x w1 ⟨rfl, h1⟩
  obtain rfl := h1.symm
  go_wp2_with fail
  refine (Fail_nil W0 s.e).mono ?_
  rintro x w1 ⟨rfl, h1⟩
  obtain rfl := h1.symm
  go_wp2_with fail
  refine (HPG.out W0).mono ?_
  rintro x w2 ⟨rfl, ho⟩
  have HB2 := hide (HB.out.more ho)
  have HO2 := hide (o2 HO.out ho)
  clear ho HB HO HPG c0 c1 c2 c3 c4 c5 c6 c7 c8 c9 c10 c11 c12 c13 c14 c15 c16 c17 c18 c19 c20 c21
  have HC2 := hide (Cb.new w2 Hr.none.cl 50)
  have HX2 := hide (onlyA w2 (.cells Hr.none.cells 50))
  go_upto_region 6 with (refine wpList_put_cb rfl 50 (.tmp 4) (.tmp 25) (by rfl) w2.heap.size (by rfl) Hr.none.cl Hr.none.cl (by rfl) (by exact Tryz.sizeRecF) (by rfl) (by rfl) HC2.out ?_; intro W3 HW3; go_frame)
  have HX3 := hide (HX2.out.trans HW3.out.2 (fun i hi e => by omega))
  have HB3 := hide (HB2.out.more HX3.out)
  have HO3 := hide (o2 HO2.out HX3.out)
  clear HC2 HX2 HX3 HB2 HO2
  go_wp2_with fail
  refine (Want_nil W3).mono ?_
  rintro x w4 ⟨rfl, ho⟩
  have HB4 := hide (HB3.out.more ho)
  have HO4 := hide (o2 HO3.out ho)
  clear ho HB3 HO3
  have c0 := HB4.out.c 0 _ rfl
  have c1 := HB4.out.c 1 _ rfl
  have c2 := HB4.out.c 2 _ rfl
  have c3 := HB4.out.c 3 _ rfl
  have c4 := HB4.out.c 4 _ rfl
  have c5 := HB4.out.c 5 _ rfl
  have c6 := HB4.out.c 6 _ rfl
  have c7 := HB4.out.c 7 _ rfl
  have c8 := HB4.out.c 8 _ rfl
  have c9 := HB4.out.c 9 _ rfl
  have c10 := HB4.out.c 10 _ rfl
  have c11 := HB4.out.c 11 _ rfl
  have c12 := HB4.out.c 12 _ rfl
  have c13 := HB4.out.c 13 _ rfl
  have c14 := HB4.out.c 14 _ rfl
  have c15 := HB4.out.c 15 _ rfl
  have c16 := HB4.out.c 16 _ rfl
  have c17 := HB4.out.c 17 _ rfl
  have c18 := HB4.out.c 18 _ rfl
  have c19 := HB4.out.c 19 _ rfl
  have c20 := HB4.out.c 20 _ rfl
  have c21 := HB4.out.c 21 _ rfl
  go_wp2_with fail
  refine (HND.out w4).mono ?_
  rintro x w5 ⟨rfl, ho⟩
  have HO5 := hide (o2 HO4.out ho)
  clear ho HB4 HO4 c0 c1 c2 c3 c4 c5 c6 c7 c8 c9 c10 c11 c12 c13 c14 c15 c16 c17 c18 c19 c20 c21
  go_wp2_with fail
  refine (HRP.out w5).mono ?_
  rintro x w6 ⟨rfl, ho⟩
  have HO6 := hide (o2 HO5.out ho)
  clear ho HO5
  go_wp2_with fail
  refine (reply_none w6).mono ?_
  rintro x w7 ⟨rfl, ho⟩
  have HO7 := hide (o2 HO6.out ho)
  clear ho HO6
  go_wp2_with fail
  refine (lwawake_any w7).mono ?_
  rintro x w8 ⟨rfl, ho⟩
  have HO8 := hide (o2 HO7.out ho)
  clear ho HO7
  go_wp2_with fail
  go_ret
  exact ⟨rfl, HO8.out⟩
end Go.Proofs.YtajjakljheafjaaGreat
