/- What Mark does where it goes through. -/
import Derived.Test.YtpbpamhlenogoaaHIns
namespace Go.Proofs.Ytpbpamhlenogoaa
open Go.RowKit

/-- The variables of Mark: the page, and what is answered. -/
structure Mst (w W : World) (a k v r : Int) (h : ByteArray) (ao : Option Addr) (n cp : Nat) : Prop where
  pg : Pag W w.heap.size (.int .i64 a) (.int .i64 k) (.int .i64 v) (.int .i64 r) (.string h) (.slice ao n cp)
  res : Hb W (w.heap.size + 1) Hr.none
  only : Only (fun _ => False) w W
theorem Mst.new (w : World) (a k v r : Int) (h : ByteArray) (ao : Option Addr) (n cp : Nat) : Mst w ((w.alloc (.cells #[.int .i64 a, .int .i64 k, .int .i64 v, .int .i64 r, .string h, .slice ao n cp] 24)).alloc (.cells Hr.none.cells 34)) a k v r h ao n cp := by
  refine ⟨(Pag.new w _ _ _ _ _ _).more (onlyA _ _), ?_, o2 (onlyA _ _) (onlyA _ _)⟩
  have := Hb.new (w.alloc (.cells #[.int .i64 a, .int .i64 k, .int .i64 v, .int .i64 r, .string h, .slice ao n cp] 24)) Hr.none
  rw [World.size_alloc] at this
  exact this
theorem Mst.more {w W W' : World} {a k v r : Int} {h : ByteArray} {ao : Option Addr} {n cp : Nat} (H : Mst w W a k v r h ao n cp) (ho : Only (fun _ => False) W W') : Mst w W' a k v r h ao n cp := ⟨H.pg.more ho, H.res.more ho, o2 H.only ho⟩
set_option maxRecDepth 100000 in
set_option maxHeartbeats 1600000 in
theorem mark_ok (w : World) (a v r : Int) (h : ByteArray) (B cp : Nat) (ao : Option Addr) (l : List ByteArray) (j : Nat) (t : Tu) (g own : Int) (hS : Strs w B ao l) (hF : Fit ao l.length cp) (hh : h.size ≤ 140737488355328) (hj : j < l.length) (hd : decT (bl l[j]) = some t) (h1 : 1 ≤ own) (h2 : own ≤ 1024) (h3 : ¬ own = t.xmax)
    (hf : fitL h (putL l j (str (Tu.enc ⟨t.xmin, own, t.frozen, t.key, t.value⟩))) = true) :
    Calls Try.prog 19 #[pv a 2 v r h ao l.length cp, .int .i64 g, .int .i64 (j : Int), .int .i64 own] w fun e w' => e = .returned (outI ⟨2, own, g, (j : Int), t.xmax, own, ⟨#[]⟩⟩ 0) ∧ Only (fun _ => False) w w' := by
  have hok := (enc_decT hd).1
  have hok' := Tu.ok_iff.1 hok
  have hokn : Tu.ok ⟨t.xmin, own, t.frozen, t.key, t.value⟩ = true := Tu.ok_iff.2 (by simp only; omega)
  have e1 : Tu.err ⟨t.xmin, own, t.frozen, t.key, t.value⟩ = 0 := by unfold Tu.err; rw [hokn]; rfl
  have e2 : Tu.out ⟨t.xmin, own, t.frozen, t.key, t.value⟩ = Tu.enc ⟨t.xmin, own, t.frozen, t.key, t.value⟩ := by unfold Tu.out; rw [hokn]; rfl
  have HM0 := hide (Mst.new w a 2 v r h ao l.length cp)
  have HVE : Hid (∀ W, Only (fun _ => False) w W → Calls Try.prog 26 #[.agg #[.int .i64 a, .int .i64 2, .int .i64 v, .int .i64 r, .string h, .slice ao l.length cp], .int .i64 (j : Int)] W fun e w' => e = .returned (.tuple #[.agg #[.int .i64 t.xmin, .int .i64 t.xmax, .bool t.frozen, .string t.key, .string t.value], .int .i64 0]) ∧ Only (fun _ => False) W w') := fun W ho => by
    have := version_any W a 2 v r h B cp ao l (j : Int) (hS.more ho)
    rw [verL_at hj, hd] at this
    exact this
  have HEN : Hid (∀ W, Calls Try.prog 35 #[.agg #[.int .i64 t.xmin, .int .i64 t.xmax, .bool t.frozen, .string t.key, .string t.value], .int .i64 own] W fun e w' => e = .returned (.tuple #[.string (str (Tu.enc ⟨t.xmin, own, t.frozen, t.key, t.value⟩)), .bool true]) ∧ Only (fun _ => False) W w') := fun W => by
    have := ended_ok W t own (by omega) h3 (by omega) (by omega)
    rw [e1, e2] at this
    exact this
  have HSW : Hid (∀ W, Only (fun _ => False) w W → Calls Try.prog 16 #[.agg #[.int .i64 a, .int .i64 2, .int .i64 v, .int .i64 r, .string h, .slice ao l.length cp], .int .i64 (j : Int), .string (str (Tu.enc ⟨t.xmin, own, t.frozen, t.key, t.value⟩))] W fun e w' => (∃ V, e = .returned (.tuple #[.int .i64 V, .int .i64 0])) ∧ Only (fun _ => False) W w') := fun W ho => by
    have := sizeWith_any W a 2 v r h B cp ao l j (str (Tu.enc ⟨t.xmin, own, t.frozen, t.key, t.value⟩)) (hS.more ho) hF hh (by rw [str_size, enc_lenT hokn]; simp only; omega) (by omega)
    rw [szE_fit hf] at this
    refine this.mono ?_
    rintro e w' ⟨rfl, ho⟩
    exact ⟨⟨_, rfl⟩, ho⟩
  obtain ⟨S, hSS⟩ : ∃ S, str (Tu.enc ⟨t.xmin, own, t.frozen, t.key, t.value⟩) = S := ⟨_, rfl⟩
  rw [hSS] at HEN HSW
  obtain ⟨xa, xb, xc, xd, xe⟩ := t
  simp only at HVE HEN ⊢
  clear hS hF hd hf hok hok' hokn e1 e2 hSS h3
  go_enter Try.func19, Try.ntmps19
  go_upto_region 1 with fail
  obtain ⟨W0, hW0⟩ : ∃ y, (w.alloc (.cells #[.int .i64 a, .int .i64 2, .int .i64 v, .int .i64 r, .string h, .slice ao l.length cp] 24)).alloc (.cells Hr.none.cells 34) = y := ⟨_, rfl⟩
  rw [hW0] at HM0 ⊢
  clear hW0
  obtain ⟨p0, p1, p2, p3, p4, p5, _⟩ := HM0.out.pg
  go_wp2_with fail
  refine (HVE.out _ HM0.out.only).mono ?_
  rintro e w1 ⟨rfl, ho1⟩
  have HM1 := hide ((HM0.out.more ho1).more (onlyA w1 (.cells #[.int .i64 xa, .int .i64 xb, .bool xc, .string xd, .string xe] 26)))
  have HT1 := hide (Tb.new w1 ⟨xa, xb, xc, xd, xe⟩)
  clear ho1 p0 p1 p2 p3 p4 p5
  go_upto_region 2 with fail
  obtain ⟨b, hb⟩ : ∃ b, w1.heap.size = b := ⟨_, rfl⟩
  obtain ⟨w2, hw2⟩ : ∃ y, w1.alloc (.cells #[.int .i64 xa, .int .i64 xb, .bool xc, .string xd, .string xe] 26) = y := ⟨_, rfl⟩
  rw [hw2] at HM1 ⊢
  have HT2 : Hid (Tb w2 b ⟨xa, xb, xc, xd, xe⟩) := by rw [← hw2, ← hb]; exact HT1.out
  rw [hb]
  clear hw2 hb HT1
  obtain ⟨t0, t1, t2, t3, t4, _⟩ := HT2.out
  simp only at t0 t1 t2 t3 t4
  go_wp2_with fail
  refine (HEN.out _).mono ?_
  rintro e w3 ⟨rfl, ho3⟩
  have HM3 := hide (HM1.out.more ho3)
  have HT3 := hide (HT2.out.more ho3)
  clear ho3 t0 t1 t2 t3 t4
  obtain ⟨p0, p1, p2, p3, p4, p5, _⟩ := HM3.out.pg
  go_wp2_with fail
  refine (HSW.out _ HM3.out.only).mono ?_
  rintro e w4 ⟨⟨V, rfl⟩, ho4⟩
  have HM4 := hide (HM3.out.more ho4)
  have t1 := (HT3.out.more ho4).c1
  simp only at t1
  clear ho4 p0 p1 p2 p3 p4 p5
  go_upto_region 10 with fail
  go_wp2_with (refine wpList_build_mark rfl (.tmp 46) (.tmp 47) (.tmp 48) (.tmp 50) (.tmp 51) rfl own g (j : Int) xb own rfl rfl rfl rfl rfl ?_; go_frame; refine wpList_put_hr rfl (.tmp 8) (.tmp 52) rfl (w.heap.size + 1) rfl Hr.none ⟨2, own, g, (j : Int), xb, own, ⟨#[]⟩⟩ rfl HM4.out.res ?_; intro W9 HW9; go_frame)
  refine bodyPost_ret (results_hr rfl rfl HW9.out.at_) rfl ?_
  exact ⟨rfl, HM4.out.only.trans HW9.out.only (fun i hi e => by omega)⟩
end Go.Proofs.Ytpbpamhlenogoaa
