/- What the document's Begin and End do. -/
import Derived.Test.YtmcghpeamnmbpaaORefB
import Derived.Lib.AppendZeros
namespace Go.Proofs.Ytmcghpeamnmbpaa
open Go.RowKit Go.Maps

theorem GRow.srcT {α : Type} {E : Lay α} {ty : TypeId} {w : World} {base cp : Nat} {ao : Option Addr} {L : List α} (h : GRow E ty w base (.slice ao L.length cp) L) {j : Nat} (hj : j ≤ L.length) : GSrc E w ao j (L.take j) := by
  refine ⟨by rw [List.length_take]; omega, ?_⟩
  rcases h.head with ⟨rfl, rfl, _⟩ | ⟨g, rfl, _, _, _, _, _, hc⟩
  · exact .inl ⟨rfl, by simpa using hj⟩
  · refine .inr ⟨_, rfl, fun i u hu => ?_⟩
    rw [add_at, Nat.zero_add]
    refine hc i u ?_
    have e : L.flatMap E.e = (L.take j).flatMap E.e ++ (L.drop j).flatMap E.e := by rw [← List.flatMap_append, List.take_append_drop]
    rw [e, List.getElem?_append_left (List.getElem?_eq_some_iff.1 hu).1]
    exact hu
theorem GRow.srcD {α : Type} {E : Lay α} {ty : TypeId} {w : World} {base cp g : Nat} {L : List α} (h : GRow E ty w base (.slice (some ⟨g, 0, none⟩) L.length cp) L) {j : Nat} (hj : j ≤ L.length) {A2 : Option Addr} (hA : (if cp = j then some (⟨g, 0, none⟩ : Addr) else some ⟨g, j * E.c, none⟩) = A2) : GSrc E w A2 (L.length - j) (L.drop j) := by
  refine ⟨by rw [List.length_drop], ?_⟩
  rcases h.head with ⟨e, _⟩ | ⟨g', e, _, _, hc, _, _, hcell⟩
  · cases e
  · injection e with e
    injection e with e
    subst e
    refine .inr ?_
    by_cases hcj : cp = j
    · rw [if_pos hcj] at hA
      refine ⟨_, hA.symm, fun i u hu => ?_⟩
      have : L.drop j = [] := List.drop_eq_nil_of_le (by omega)
      rw [this] at hu
      simp at hu
    · rw [if_neg hcj] at hA
      refine ⟨_, hA.symm, fun i u hu => ?_⟩
      rw [add_at]
      refine hcell _ u ?_
      have e : L.flatMap E.e = (L.take j).flatMap E.e ++ (L.drop j).flatMap E.e := by rw [← List.flatMap_append, List.take_append_drop]
      have hl : ((L.take j).flatMap E.e).length = j * E.c := by rw [E.length, List.length_take]; rw [Nat.min_eq_left (by omega)]
      rw [e, List.getElem?_append_right (by omega), hl]
      rw [show j * E.c + i - j * E.c = i by omega]
      exact hu
/-- Two appends: all rows but one. -/
theorem del_run {w : World} {base g cp : Nat} {L : List Rw} (h : RRow w base (.slice (some ⟨g, 0, none⟩) L.length cp) L) {i : Nat} (hi : i < L.length) (hn : L.length ≤ 2999999999999) {A2 : Option Addr} (hA : GSrc ER w A2 (L.length - (i + 1)) (L.drop (i + 1))) :
    ∃ v1 w2 a3 c3 w3, (Builtin.append_ #[64, 64] 64 #[.slice none 0 0, .slice (some ⟨g, 0, none⟩) i cp]).run Try.prog w = .ok v1 w2
      ∧ (Builtin.append_ #[64, 64] 64 #[v1, .slice A2 (L.length - (i + 1)) (cp - (i + 1))]).run Try.prog w2 = .ok (.slice a3 (L.take i ++ L.drop (i + 1)).length c3) w3
      ∧ RRow w3 w.heap.size (.slice a3 (L.take i ++ L.drop (i + 1)).length c3) (L.take i ++ L.drop (i + 1))
      ∧ Only (fun _ => False) w w2 ∧ Only (fun _ => False) w w3 := by
  obtain ⟨v1, w2, r1, q1, g1, _⟩ := rrow_append (GRow.nil w w.heap.size) (GRow.srcT h (Nat.le_of_lt hi)) (by simp; omega) (Nat.le_refl _) 64 cp
  rw [List.nil_append] at q1
  have o1 : Only (fun _ => False) w w2 := Only.grown g1 (fun k hk => by cases hk)
  have hl1 : (L.take i).length = i := by rw [List.length_take]; omega
  obtain ⟨v2, w3, r2, q2, g2, _⟩ := rrow_append q1 (hA.more o1) (by omega) o1.size 64 (cp - (i + 1))
  obtain ⟨a3, c3, rfl⟩ := q2.form
  exact ⟨v1, w2, a3, c3, w3, r1, r2, q2, o1, o1.trans (Only.grown (S := fun k => w.heap.size ≤ k) g2 (fun b hb => (q1.low b hb).1)) (fun i hi e => by omega)⟩
/-- Three appends: one row more. -/
theorem ins_run {w : World} {base cp : Nat} {ao : Option Addr} {L : List Rw} (h : RRow w base (.slice ao L.length cp) L) {i : Nat} (hi : i ≤ L.length) (hn : L.length ≤ 2999999999998) (x : Rw) {A2 : Option Addr} (hA : GSrc ER w A2 (L.length - i) (L.drop i)) :
    ∃ v1 w2 v2 w3 a4 c4 w4, (Builtin.append_ #[64, 64] 64 #[.slice none 0 0, .slice ao i cp]).run Try.prog w = .ok v1 w2
      ∧ (Builtin.append_ #[64, 64] 64 #[v1, .slice (some ⟨w2.heap.size, 0, none⟩) 1 1]).run Try.prog (w2.alloc (.cells #[.int .i64 x.who, .int .i64 x.s.nx, .slice x.s.ao x.s.act.length x.s.cp, .int .i64 x.xid, .int .i64 x.fst, .int .i64 x.lst, .int .i64 x.und] 75)) = .ok v2 w3
      ∧ (Builtin.append_ #[64, 64] 64 #[v2, .slice A2 (L.length - i) (cp - i)]).run Try.prog w3 = .ok (.slice a4 (L.take i ++ [x] ++ L.drop i).length c4) w4
      ∧ RRow w4 w.heap.size (.slice a4 (L.take i ++ [x] ++ L.drop i).length c4) (L.take i ++ [x] ++ L.drop i)
      ∧ Only (fun _ => False) w w2 ∧ Only (fun _ => False) w w3 ∧ Only (fun _ => False) w w4 := by
  obtain ⟨v1, w2, r1, q1, g1, _⟩ := rrow_append (GRow.nil w w.heap.size) (GRow.srcT h hi) (by simp; omega) (Nat.le_refl _) 64 cp
  rw [List.nil_append] at q1
  have o1 : Only (fun _ => False) w w2 := Only.grown g1 (fun k hk => by cases hk)
  have hl1 : (L.take i).length = i := by rw [List.length_take]; omega
  obtain ⟨v2, w3, r2, q2, g2, _⟩ := rrow_one q1 x (by omega) o1.size 64 1
  have o2 : Only (fun _ => False) w w3 := GRow.only q1 o1 g2
  obtain ⟨v3, w4, r3, q3, g3, _⟩ := rrow_append q2 (hA.more o2) (by rw [List.length_append]; simp; omega) o2.size 64 (cp - i)
  obtain ⟨a4, c4, rfl⟩ := q3.form
  exact ⟨v1, w2, v2, w3, a4, c4, w4, r1, r2, r3, q3, o1, o2, o2.trans (Only.grown (S := fun k => w.heap.size ≤ k) g3 (fun b hb => (q2.low b hb).1)) (fun i hi e => by omega)⟩
/-- The rows have been laid anew. -/
theorem Rm.repl {W : World} {Y : Nat → Prop} {r n' b0 b1 c3 : Nat} {f' : Tt} {a3 : Option Addr} {R3 : List Rw} {v0 : Value} (hc : W.cell? ⟨r, 0, none⟩ = some v0) (hf : W.frozen? ⟨r, 0, none⟩ = false) (hr : r < b0) (hb : b0 ≤ b1) (hrow : RRow W b1 (.slice a3 R3.length c3) R3) (hnm : ∀ x ∈ R3, Nm W (fun k => (Y k ∨ b0 ≤ k) ∧ k ≠ r ∧ k < b1) x.s.ao x.s.act) (hy : Y r) (hi : RIs f' R3) (hn : R3.length ≤ n') (hok : f'.Ok n') : Rm (W.setCell ⟨r, 0, none⟩ (.slice a3 R3.length c3)) (Zp Y b0) r n' f' a3 c3 R3 := by
  have ho := Only.put W r 0 (.slice a3 R3.length c3)
  refine ⟨World.cell?_setCell_same _ _ _ hc, by rw [World.frozen?_setCell]; exact hf, GRow.base (hrow.kept ho (fun k hk e => by have := (hrow.low k hk).1; omega)) (Nat.zero_le _), fun g o s e => ?_, fun x hx => ?_, .inl hy, hi, hn, hok⟩
  · rcases GRow.head hrow with ⟨e2, _⟩ | ⟨g2, e2, hg, _⟩
    · rw [e] at e2; cases e2
    · rw [e] at e2
      injection e2 with e2
      injection e2 with e2
      subst e2
      exact ⟨.inr (Nat.le_trans hb hg), by omega⟩
  · refine ((hnm x hx).kept ho (fun k _ hq e => hq.2.1 e)).mono (fun k _ hq => ⟨hq.1, hq.2.1, fun g o s e e2 => ?_⟩)
    rcases GRow.head hrow with ⟨e3, _⟩ | ⟨g2, e3, hg, _⟩
    · rw [e] at e3; cases e3
    · rw [e] at e3
      injection e3 with e3
      injection e3 with e3
      have := hq.2.2
      omega
theorem Rt.kept {S Y : Nat → Prop} {w w' : World} {r n : Nat} {f : Tt} (H : Rt w Y r n f) (ho : Only S w w') (hS : ∀ k, k < w.heap.size → Y k → ¬ S k) : Rt w' Y r n f := by
  obtain ⟨ao, cp, R, H⟩ := H
  exact ⟨ao, cp, R, H.kept ho hS⟩
set_option maxRecDepth 100000 in
set_option maxHeartbeats 3200000 in
theorem rend_any (w : World) (Y : Nat → Prop) (r n : Nat) (f : Tt) (ao : Option Addr) (cp : Nat) (R : List Rw) (H : Rm w Y r n f ao cp R) (hY : ∀ k, Y k → k < w.heap.size) (hn : n ≤ 2999999999998) (a : Int) : Calls Try.prog 17 #[.pointer (some ⟨r, 0, none⟩), .int .i64 a] w fun e w' => TxS e w' (ofT f a) (.int .i64 (endE f a)) ∧ Rt w' (Zp Y w.heap.size) r n (f.drop a) ∧ Only (fun k => k = r) w w' := by
  have HO := hide (onlyA w #[.int .i64 0, .slice none 0 0, .int .i64 0, .int .i64 0, .int .i64 0, .int .i64 0] 37)
  have HZ := hide (zero_cb w)
  obtain ⟨W1, hW1⟩ : ∃ x, w.alloc (.cells #[.int .i64 0, .slice none 0 0, .int .i64 0, .int .i64 0, .int .i64 0, .int .i64 0] 37) = x := ⟨_, rfl⟩
  obtain ⟨sz, hsz⟩ : ∃ z, w.heap.size = z := ⟨_, rfl⟩
  rw [hW1] at HO HZ
  rw [hsz] at HZ hY
  have HW1 := hide hW1
  have HSZ := hide hsz
  have HYL := hide hY
  have hH := H.more HO.out
  have HH := hide hH
  have HH0 := hide H
  have hlen := H.hn
  have HC := hide (rat_any W1 Y r n f ao cp R hH (by omega) a)
  have HOK := hide H.hi
  clear H hH hW1 hsz hY
  go_enter Try.func17, Try.ntmps17
  go_upto_region 1 with fail
  rw [HW1.out, HSZ.out]
  go_wp2_with fail
  refine HC.out.mono ?_
  rintro e w2 ⟨⟨i, has, rfl, hA⟩, hO⟩
  have HA := hide hA
  have hz := HZ.out.more hO
  have HZ2 := hide hz
  have HO2 := hide (o2 HO.out hO)
  have hr := HH.out.more hO
  have HR2 := hide hr
  have c0 := hr.c0
  clear hA hO HC
  cases has with
  | false =>
    have z0 := hz.c 0 _ rfl
    have z1 := hz.c 1 _ rfl
    have z2 := hz.c 2 _ rfl
    have z3 := hz.c 3 _ rfl
    have z4 := hz.c 4 _ rfl
    have z5 := hz.c 5 _ rfl
    have y0 := hz.f 0
    have y1 := hz.f 1
    have y2 := hz.f 2
    have y3 := hz.f 3
    have y4 := hz.f 4
    have y5 := hz.f 5
    have hf := HOK.out.none HA.out
    have HF := hide hf
    clear hf hz hr
    go_wp2_with fail
    refine bodyPost_ret (results_tx rfl rfl (Cb.six HZ2.out _ _ _ _ _ _)) rfl ?_
    have h9 : Only (fun _ => False) w _ := HO2.out.trans (Only.six w2 sz (.int .i64 0) (.slice none 0 0) (.int .i64 0) (.int .i64 0) (.int .i64 0) (.int .i64 0)) (fun i hi e => by have := HSZ.out; omega)
    rw [Tt.drop_none HF.out]
    unfold ofT endE
    rw [HF.out]
    exact ⟨⟨none, 0, rfl, Nm.none _ _ _⟩, ⟨_, _, _, (HH0.out.more h9).wide (fun k h => .inl h)⟩, h9.mono (fun _ _ h => h.elim)⟩
  | true =>
    obtain ⟨hi, hwi, hf⟩ := HOK.out.some HA.out
    obtain ⟨g, rfl, _, _, _, hcp, _, k1, k2, k3, k4, k5, k6⟩ := hr.row hi
    have hnm := HH0.out.nm R[i] (List.getElem_mem hi)
    have HDEL := hide (HOK.out.del hi)
    rw [hwi] at HDEL
    obtain ⟨x, hx⟩ : ∃ x, R[i] = x := ⟨_, rfl⟩
    rw [hx] at k1 k2 k3 k4 k5 k6 hnm hf
    obtain ⟨xw, ⟨nx, xa, xc, act⟩, xi, fi, la, un⟩ := x
    simp only at k1 k2 k3 k4 k5 k6 hnm
    have HF := hide hf
    have HNM := hide hnm
    have hj0 : (0 : Int) ≤ (i : Int) := by omega
    have hj1 : (i : Int) < (R.length : Int) := by omega
    clear hx hf hnm hwi hz hr
    go_upto_region 5 with fail
    have HB : Hid (Cb (w2.alloc (.cells #[.int .i64 nx, .slice xa act.length xc, .int .i64 xi, .int .i64 fi, .int .i64 la, .int .i64 un] 37)) w2.heap.size [.int .i64 nx, .slice xa act.length xc, .int .i64 xi, .int .i64 fi, .int .i64 la, .int .i64 un]) := Cb.new w2 _ _
    have HOB := hide (onlyA w2 #[.int .i64 nx, .slice xa act.length xc, .int .i64 xi, .int .i64 fi, .int .i64 la, .int .i64 un] 37)
    have HR3 := hide (HR2.out.more HOB.out)
    have HZ3 := hide (HZ2.out.more HOB.out)
    obtain ⟨W3, hW3⟩ : ∃ x, w2.alloc (.cells #[.int .i64 nx, .slice xa act.length xc, .int .i64 xi, .int .i64 fi, .int .i64 la, .int .i64 un] 37) = x := ⟨_, rfl⟩
    rw [hW3] at HB HOB HR3 HZ3 ⊢
    obtain ⟨b8, hb8⟩ : ∃ b, w2.heap.size = b := ⟨_, rfl⟩
    rw [hb8] at HB ⊢
    have HB8 := hide hb8
    clear hW3 hb8 c0 k1 k2 k3 k4 k5 k6
    obtain ⟨A2, hA2⟩ : ∃ A2, (if cp = i + 1 then some (⟨g, 0, none⟩ : Addr) else some ⟨g, (i + 1) * 7, none⟩) = A2 := ⟨_, rfl⟩
    obtain ⟨v1, w4, a3, c3, w5, r1, r2, q3, p1, p2⟩ := del_run HR3.out.h hi (by omega) (GRow.srcD HR3.out.h (j := i + 1) (by omega) hA2)
    have hll : (R.take i ++ R.drop (i + 1)).length ≤ n := by
      simp only [List.length_append, List.length_take, List.length_drop]
      omega
    have HNMS : Hid (∀ x ∈ R.take i ++ R.drop (i + 1), Nm w5 (fun k => (Y k ∨ sz + 1 ≤ k) ∧ k ≠ r ∧ k < W3.heap.size) x.s.ao x.s.act) := fun x hx => by
      have hxR : x ∈ R := (List.mem_append.1 hx).elim List.mem_of_mem_take List.mem_of_mem_drop
      exact ((HR3.out.nm x hxR).mono (R := fun k => (Y k ∨ sz + 1 ≤ k) ∧ k ≠ r ∧ k < W3.heap.size) (fun k hk hq => ⟨.inl hq.1, hq.2.1, hk⟩)).more p2
    obtain ⟨NL, hNL⟩ : ∃ l, R.take i ++ R.drop (i + 1) = l := ⟨_, rfl⟩
    rw [hNL] at r2 q3 hll HNMS HDEL
    have HA1 := hide r1
    have HA2 := hide r2
    have HP2 := hide p2
    have HQ3 := hide q3
    have c03 := HR3.out.c0
    have c04 := (HR3.out.more p1).c0
    have c05 := (HR3.out.more p2).c0
    have f05 := (HR3.out.more p2).f0
    have HC5 := hide c05
    have HF5 := hide f05
    have HB5 := hide (HB.out.more p2)
    have HZ5 := hide (HZ3.out.more p2)
    have hsw := HOB.out.size
    have HRL : Hid (r < sz) := by have := HH0.out.lt; have := HSZ.out; unfold Hid; omega
    have hjc : (i : Int) ≤ (cp : Int) := by omega
    have hjl : (i : Int) ≤ (R.length : Int) := by omega
    have hi1 : (i : Int) + 1 ≤ (R.length : Int) := by omega
    have hi2 : (i : Int) + 1 ≤ (cp : Int) := by omega
    have hi0 : (0 : Int) ≤ (i : Int) + 1 := by omega
    have hlc : (R.length : Int) ≤ (cp : Int) := by omega
    clear r1 r2 q3 p1 p2 hNL hsw
    go_upto_region 6 with fail
    go_upto_region 7 with (at_builtin; go_must (refine Lib.wpList_append_run _ rfl (.tmp 27) (.tmp 33) _ _ rfl (.slice none 0 0) (.slice (some ⟨g, 0, none⟩) i cp) rfl rfl _ _ HA1.out ?_); go_frame)
    go_upto_region 8 with (at_builtin; go_must (refine Lib.wpList_append_run _ rfl (.tmp 36) (.tmp 43) _ _ rfl v1 (.slice A2 (R.length - (i + 1)) (cp - (i + 1))) rfl rfl _ _ HA2.out ?_); go_frame)
    have HO6 := hide (Only.put w5 r 0 (.slice a3 NL.length c3))
    have hw2 : sz + 1 ≤ w2.heap.size := HZ2.out.lt
    have HR6 := hide (Rm.repl (b0 := sz + 1) (b1 := W3.heap.size) (n' := n) (f' := f.drop a) (Y := Y) HC5.out HF5.out (by have := HRL.out; omega) (by have := HOB.out.size; omega) HQ3.out HNMS.out HH0.out.yr HDEL.out hll (HH0.out.ok.drop a))
    obtain ⟨W6, hW6⟩ : ∃ x, w5.setCell ⟨r, 0, none⟩ (.slice a3 NL.length c3) = x := ⟨_, rfl⟩
    rw [hW6] at HO6 HR6 ⊢
    have hb6 := HB5.out.kept HO6.out (by have := HRL.out; have := HB8.out; omega)
    have hz6 := HZ5.out.kept HO6.out (by have := HRL.out; omega)
    have HZ6 := hide hz6
    have e0 := hb6.c 0 _ rfl
    have e1 := hb6.c 1 _ rfl
    have e2 := hb6.c 2 _ rfl
    have e3 := hb6.c 3 _ rfl
    have e4 := hb6.c 4 _ rfl
    have e5 := hb6.c 5 _ rfl
    have z0 := hz6.c 0 _ rfl
    have z1 := hz6.c 1 _ rfl
    have z2 := hz6.c 2 _ rfl
    have z3 := hz6.c 3 _ rfl
    have z4 := hz6.c 4 _ rfl
    have z5 := hz6.c 5 _ rfl
    have y0 := hz6.f 0
    have y1 := hz6.f 1
    have y2 := hz6.f 2
    have y3 := hz6.f 3
    have y4 := hz6.f 4
    have y5 := hz6.f 5
    clear hW6 hb6 hz6 c03 c04 c05 f05 hw2
    go_wp2_with fail
    refine bodyPost_ret (results_tx rfl rfl (Cb.six HZ6.out _ _ _ _ _ _)) rfl ?_
    have hsz := HSZ.out
    have hrl := HRL.out
    have h05 : Only (fun _ => False) w w5 := o2 (o2 HO2.out HOB.out) HP2.out
    have h06 : Only (fun k => k = r) w W6 := (h05.mono (T := fun k => k = r) (fun _ _ h => h.elim)).trans HO6.out (fun _ _ h => h)
    have hsix := Only.six W6 sz (.int .i64 nx) (.slice xa act.length xc) (.int .i64 xi) (.int .i64 fi) (.int .i64 la) (.int .i64 un)
    have hkept := ((((HNM.out.more h05).kept HO6.out (fun k _ hq e => hq.2.1 e)).mono (R := fun k => Y k ∧ k ≠ r) (fun k _ hq => ⟨hq.1, hq.2.1⟩)).kept hsix (fun k _ hq e => by have := HYL.out k hq.1; omega)).mono (R := fun _ => True) (fun _ _ _ => trivial)
    unfold ofT endE
    rw [HF.out, hsz]
    have hne : ∀ k, k < W6.heap.size → Zp Y (sz + 1) k → ¬ k = sz := fun k _ hk e => by
      rcases hk with h | h
      · have := HYL.out k h
        omega
      · omega
    exact ⟨⟨xa, xc, rfl, hkept⟩, ⟨_, _, _, (HR6.out.kept hsix hne).wide (fun k h => h.elim .inl (fun h => .inr (by omega)))⟩, h06.trans hsix (fun k hk e => by omega)⟩
set_option maxRecDepth 100000 in
set_option maxHeartbeats 3200000 in
theorem rbegin_any (w : World) (Y : Nat → Prop) (r n : Nat) (f : Tt) (ao : Option Addr) (cp : Nat) (R : List Rw) (H : Rm w Y r n f ao cp R) (hn : n ≤ 2999999999998) (a : Int) (ha : N64 a) (Q : Nat → Prop) (nx : Int) (aL : Option Addr) (cL : Nat) (L : List Int) (hL : Nm w Q aL L) : Calls Try.prog 11 #[.pointer (some ⟨r, 0, none⟩), .int .i64 a, .agg #[.int .i64 nx, .slice aL L.length cL]] w fun e w' => e = .returned (.int .i64 (beginE f a)) ∧ Rt w' (Zp Y w.heap.size) r (n + 1) (beginF f a nx L) ∧ Only (fun k => k = r) w w' := by
  have HO := hide (onlyA w #[.int .i64 nx, .slice aL L.length cL] 29)
  have HZ : Hid (Cb (w.alloc (.cells #[.int .i64 nx, .slice aL L.length cL] 29)) w.heap.size [.int .i64 nx, .slice aL L.length cL]) := Cb.new w _ _
  obtain ⟨W1, hW1⟩ : ∃ x, w.alloc (.cells #[.int .i64 nx, .slice aL L.length cL] 29) = x := ⟨_, rfl⟩
  obtain ⟨sz, hsz⟩ : ∃ z, w.heap.size = z := ⟨_, rfl⟩
  rw [hW1] at HO HZ
  rw [hsz] at HZ
  have HW1 := hide hW1
  have HSZ := hide hsz
  have HLL := hide hL
  have hH := H.more HO.out
  have HH := hide hH
  have HH0 := hide H
  have HBO := hide (beginF_ok H.ok ha nx L)
  have hlen := H.hn
  have HC := hide (rat_any W1 Y r n f ao cp R hH (by omega) a)
  have HOK := hide H.hi
  clear H hH hW1 hsz hL ha
  go_enter Try.func11, Try.ntmps11
  go_upto_region 1 with fail
  rw [HW1.out, HSZ.out]
  go_wp2_with fail
  refine HC.out.mono ?_
  rintro e w2 ⟨⟨i, has, rfl, hA⟩, hO⟩
  have HA := hide hA
  have HZ2 := hide (HZ.out.more hO)
  have HO2 := hide (o2 HO.out hO)
  have HR2 := hide (HH.out.more hO)
  clear hA hO HC
  cases has with
  | true =>
    obtain ⟨hi, _, hf⟩ := HOK.out.some HA.out
    have HF := hide hf
    clear hf
    go_wp2_with fail
    go_ret
    unfold beginE beginF
    rw [HF.out]
    exact ⟨rfl, ⟨_, _, _, (HH0.out.more HO2.out).wide (fun k h => .inl h) |>.mono (Nat.le_succ n)⟩, HO2.out.mono (fun _ _ h => h.elim)⟩
  | false =>
    have hf := HOK.out.none HA.out
    have HF := hide hf
    clear hf
    have hsrc := (HLL.out.more HO2.out).src (fun e => by
      by_cases h0 : 0 < L.length
      · obtain ⟨k, o, e2, _⟩ := HLL.out.at_ h0
        rw [e] at e2
        cases e2
      · exact List.eq_nil_of_length_eq_zero (by omega))
    have hll := HLL.out.len
    obtain ⟨v1, w3, r1, q1, g1, _⟩ := irow_append (GRow.nil w2 w2.heap.size) hsrc (by simp; omega) (Nat.le_refl _) 27 cL
    rw [List.nil_append] at q1
    obtain ⟨a1, c1, rfl⟩ := q1.form
    have p1 : Only (fun _ => False) w2 w3 := Only.grown g1 (fun k hk => by cases hk)
    have HA1 := hide r1
    have HN1 := hide (GRow.nm q1 hll)
    have HZ3 := HZ2.out.more p1
    have b1 := (HZ2.out).c 1 _ rfl
    have b2 := HZ3.c 1 _ rfl
    have f2 := HZ3.f 1
    have hb4 := HZ3.set 1 (.slice a1 L.length c1)
    have HB4 : Hid (Cb (w3.setCell ⟨sz, 1, none⟩ (.slice a1 L.length c1)) sz [.int .i64 nx, .slice a1 L.length c1]) := hb4
    have HOP := hide (Only.put w3 sz 1 (.slice a1 L.length c1))
    have HP1 := hide p1
    clear r1 q1 g1 p1 hsrc HZ3 hb4
    go_upto_region 6 with (at_builtin; go_must (refine Lib.wpList_append_run _ rfl (.tmp 18) (.tmp 20) _ _ rfl (.slice none 0 0) (.slice aL L.length cL) rfl rfl _ _ HA1.out ?_); go_frame)
    go_upto_region 8 with fail
    obtain ⟨W4, hW4⟩ : ∃ x, w3.setCell ⟨sz, 1, none⟩ (.slice a1 L.length c1) = x := ⟨_, rfl⟩
    rw [hW4] at HB4 HOP ⊢
    have hrl : r < sz := by have := HH0.out.lt; have := HSZ.out; omega
    have h04 : Only (fun k => k = sz) w W4 := ((o2 HO2.out HP1.out).mono (T := fun k => k = sz) (fun _ _ h => h.elim)).trans HOP.out (fun _ _ h => h)
    have HR4 := hide (HH0.out.kept h04 (fun k hk _ e => by have := HSZ.out; omega))
    have HW4 : Hid (Only (fun _ => False) w W4) := h04.trans (Only.refl (fun _ => False) W4) (fun _ _ h => h.elim) |>.mono (T := fun k => k = sz) (fun _ _ h => h) |> fun h => ⟨h.os, h.tape, h.output, h.size, fun k hk _ => h.block k hk (fun e => by have := HSZ.out; omega)⟩
    have hile := HA.out.le
    rcases GRow.head HR4.out.h with ⟨rfl, rfl, rfl⟩ | ⟨g, rfl, _, _, hcp, _, _, _⟩
    · obtain rfl : i = 0 := by simpa using hile
      obtain ⟨u1, w5, u2, w6, a4, c4, w7, r1, r2, r3, q4, o1, o6, o7⟩ := ins_run (i := 0) HR4.out.h (Nat.zero_le _) (by omega) ⟨a, ⟨nx, a1, c1, L⟩, 0, 0, 0, 0⟩ (A2 := none) ⟨by simp, .inl ⟨rfl, by simp⟩⟩
      have HI : Hid (RIs (f.set a (Tx.new nx L)) (([] : List Rw).take 0 ++ [⟨a, ⟨nx, a1, c1, L⟩, 0, 0, 0, 0⟩] ++ ([] : List Rw).drop 0)) := HOK.out.ins HA.out (x := ⟨a, ⟨nx, a1, c1, L⟩, 0, 0, 0, 0⟩) rfl
      have hnl : (([] : List Rw).take 0 ++ [(⟨a, ⟨nx, a1, c1, L⟩, 0, 0, 0, 0⟩ : Rw)] ++ ([] : List Rw).drop 0).length ≤ n + 1 := by
        simp only [List.length_append, List.length_take, List.length_drop, List.length_singleton]
        omega
      have HNMS : Hid (∀ x ∈ ([] : List Rw).take 0 ++ [(⟨a, ⟨nx, a1, c1, L⟩, 0, 0, 0, 0⟩ : Rw)] ++ ([] : List Rw).drop 0, Nm w7 (fun k => (Y k ∨ sz ≤ k) ∧ k ≠ r ∧ k < W4.heap.size) x.s.ao x.s.act) := fun x hx => by
        have hx2 : x ∈ ([] : List Rw) ∨ x = ⟨a, ⟨nx, a1, c1, L⟩, 0, 0, 0, 0⟩ := by
          rcases List.mem_append.1 hx with hx | hx
          · rcases List.mem_append.1 hx with hx | hx
            · exact .inl (List.mem_of_mem_take hx)
            · exact .inr (List.mem_singleton.1 hx)
          · exact .inl (List.mem_of_mem_drop hx)
        rcases hx2 with hx2 | rfl
        · exact ((HR4.out.nm x hx2).mono (R := fun k => (Y k ∨ sz ≤ k) ∧ k ≠ r ∧ k < W4.heap.size) (fun k hk hq => ⟨.inl hq.1, hq.2.1, hk⟩)).more o7
        · have h2 : sz < w2.heap.size := HZ2.out.lt
          exact ((HN1.out.kept HOP.out (fun k _ hk e => by omega)).mono (R := fun k => (Y k ∨ sz ≤ k) ∧ k ≠ r ∧ k < W4.heap.size) (fun k hk hq => ⟨.inr (by omega), by omega, hk⟩)).more o7
      obtain ⟨NL, hNL⟩ : ∃ l, ([] : List Rw).take 0 ++ [(⟨a, ⟨nx, a1, c1, L⟩, 0, 0, 0, 0⟩ : Rw)] ++ ([] : List Rw).drop 0 = l := ⟨_, rfl⟩
      rw [hNL] at r3 q4 hnl HNMS HI
      have HA4 := hide r1
      have HA5 := hide r2
      have HA6 := hide r3
      have HQ4 := hide q4
      have c04 := HR4.out.c0
      have c05 := (HR4.out.more o1).c0
      have c06 := (HR4.out.more o6).c0
      have c07 := (HR4.out.more o7).c0
      have f07 := (HR4.out.more o7).f0
      have HC7 := hide c07
      have HF7 := hide f07
      have e0 := (HB4.out.more o1).c 0 _ rfl
      have e1 := (HB4.out.more o1).c 1 _ rfl
      have HO7 := hide o7
      have HRL := hide hrl
      have HH4 : Hid (sz ≤ W4.heap.size) := Nat.le_of_lt HB4.out.lt
      have hjc : (0 : Int) ≤ (0 : Int) := by omega
      have hjl : (0 : Int) ≤ (([] : List Rw).length : Int) := by omega
      have hlc : (([] : List Rw).length : Int) ≤ (0 : Int) := by omega
      clear r1 r2 r3 q4 o1 o6 o7 hNL hW4 b1 b2 f2 h04 hll hrl
      go_upto_region 9 with (at_builtin; go_must (refine Lib.wpList_append_run _ rfl (.tmp 24) (.tmp 30) _ _ rfl (.slice none 0 0) (.slice none 0 0) rfl rfl _ _ HA4.out ?_); go_frame)
      go_upto_region 10 with (at_builtin; go_must (refine Lib.wpList_append_run _ rfl (.tmp 32) (.tmp 37) _ _ rfl u1 (.slice (some ⟨w5.heap.size, 0, none⟩) 1 1) rfl rfl _ _ HA5.out ?_); go_frame)
      go_wp2_with (at_builtin; go_must (refine Lib.wpList_append_run _ rfl (.tmp 40) (.tmp 46) _ _ rfl u2 (.slice none 0 0) rfl rfl _ _ HA6.out ?_); go_frame)
      go_ret
      have hrm := Rm.repl (b0 := sz) (b1 := W4.heap.size) (n' := n + 1) (f' := f.set a (Tx.new nx L)) (Y := Y) HC7.out HF7.out HRL.out HH4.out HQ4.out HNMS.out HH0.out.yr HI.out hnl (by have := HBO.out; unfold beginF at this; rw [HF.out] at this; exact Tt.Ok.mono this (Nat.le_succ n))
      unfold beginE beginF
      rw [HF.out, HSZ.out]
      exact ⟨rfl, ⟨_, _, _, hrm⟩, ((o2 HW4.out HO7.out).mono (T := fun k => k = r) (fun _ _ h => h.elim)).trans (Only.put _ _ _ _) (fun _ _ h => h)⟩
    · obtain ⟨A2, hA2⟩ : ∃ A2, (if cp = i then some (⟨g, 0, none⟩ : Addr) else some ⟨g, i * 7, none⟩) = A2 := ⟨_, rfl⟩
      obtain ⟨u1, w5, u2, w6, a4, c4, w7, r1, r2, r3, q4, o1, o6, o7⟩ := ins_run HR4.out.h hile (by omega) ⟨a, ⟨nx, a1, c1, L⟩, 0, 0, 0, 0⟩ (GRow.srcD HR4.out.h hile hA2)
      have HI : Hid (RIs (f.set a (Tx.new nx L)) (R.take i ++ [⟨a, ⟨nx, a1, c1, L⟩, 0, 0, 0, 0⟩] ++ R.drop i)) := HOK.out.ins HA.out (x := ⟨a, ⟨nx, a1, c1, L⟩, 0, 0, 0, 0⟩) rfl
      have hnl : (R.take i ++ [(⟨a, ⟨nx, a1, c1, L⟩, 0, 0, 0, 0⟩ : Rw)] ++ R.drop i).length ≤ n + 1 := by
        simp only [List.length_append, List.length_take, List.length_drop, List.length_singleton]
        omega
      have HNMS : Hid (∀ x ∈ R.take i ++ [(⟨a, ⟨nx, a1, c1, L⟩, 0, 0, 0, 0⟩ : Rw)] ++ R.drop i, Nm w7 (fun k => (Y k ∨ sz ≤ k) ∧ k ≠ r ∧ k < W4.heap.size) x.s.ao x.s.act) := fun x hx => by
        have hx2 : x ∈ R ∨ x = ⟨a, ⟨nx, a1, c1, L⟩, 0, 0, 0, 0⟩ := by
          rcases List.mem_append.1 hx with hx | hx
          · rcases List.mem_append.1 hx with hx | hx
            · exact .inl (List.mem_of_mem_take hx)
            · exact .inr (List.mem_singleton.1 hx)
          · exact .inl (List.mem_of_mem_drop hx)
        rcases hx2 with hx2 | rfl
        · exact ((HR4.out.nm x hx2).mono (R := fun k => (Y k ∨ sz ≤ k) ∧ k ≠ r ∧ k < W4.heap.size) (fun k hk hq => ⟨.inl hq.1, hq.2.1, hk⟩)).more o7
        · have h2 : sz < w2.heap.size := HZ2.out.lt
          exact ((HN1.out.kept HOP.out (fun k _ hk e => by omega)).mono (R := fun k => (Y k ∨ sz ≤ k) ∧ k ≠ r ∧ k < W4.heap.size) (fun k hk hq => ⟨.inr (by omega), by omega, hk⟩)).more o7
      obtain ⟨NL, hNL⟩ : ∃ l, R.take i ++ [(⟨a, ⟨nx, a1, c1, L⟩, 0, 0, 0, 0⟩ : Rw)] ++ R.drop i = l := ⟨_, rfl⟩
      rw [hNL] at r3 q4 hnl HNMS HI
      have HA4 := hide r1
      have HA5 := hide r2
      have HA6 := hide r3
      have HQ4 := hide q4
      have c04 := HR4.out.c0
      have c05 := (HR4.out.more o1).c0
      have c06 := (HR4.out.more o6).c0
      have c07 := (HR4.out.more o7).c0
      have f07 := (HR4.out.more o7).f0
      have HC7 := hide c07
      have HF7 := hide f07
      have e0 := (HB4.out.more o1).c 0 _ rfl
      have e1 := (HB4.out.more o1).c 1 _ rfl
      have HO7 := hide o7
      have HRL := hide hrl
      have HH4 : Hid (sz ≤ W4.heap.size) := Nat.le_of_lt HB4.out.lt
      have hj0 : (0 : Int) ≤ (i : Int) := by omega
      have hjc : (i : Int) ≤ (cp : Int) := by omega
      have hjl : (i : Int) ≤ (R.length : Int) := by omega
      have hlc : (R.length : Int) ≤ (cp : Int) := by omega
      clear r1 r2 r3 q4 o1 o6 o7 hNL hW4 b1 b2 f2 h04 hll hrl
      go_upto_region 9 with (at_builtin; go_must (refine Lib.wpList_append_run _ rfl (.tmp 24) (.tmp 30) _ _ rfl (.slice none 0 0) (.slice (some ⟨g, 0, none⟩) i cp) rfl rfl _ _ HA4.out ?_); go_frame)
      go_upto_region 10 with (at_builtin; go_must (refine Lib.wpList_append_run _ rfl (.tmp 32) (.tmp 37) _ _ rfl u1 (.slice (some ⟨w5.heap.size, 0, none⟩) 1 1) rfl rfl _ _ HA5.out ?_); go_frame)
      go_wp2_with (at_builtin; go_must (refine Lib.wpList_append_run _ rfl (.tmp 40) (.tmp 46) _ _ rfl u2 (.slice A2 (R.length - i) (cp - i)) rfl rfl _ _ HA6.out ?_); go_frame)
      go_ret
      have hrm := Rm.repl (b0 := sz) (b1 := W4.heap.size) (n' := n + 1) (f' := f.set a (Tx.new nx L)) (Y := Y) HC7.out HF7.out HRL.out HH4.out HQ4.out HNMS.out HH0.out.yr HI.out hnl (by have := HBO.out; unfold beginF at this; rw [HF.out] at this; exact Tt.Ok.mono this (Nat.le_succ n))
      unfold beginE beginF
      rw [HF.out, HSZ.out]
      exact ⟨rfl, ⟨_, _, _, hrm⟩, ((o2 HW4.out HO7.out).mono (T := fun k => k = r) (fun _ _ h => h.elim)).trans (Only.put _ _ _ _) (fun _ _ h => h)⟩
end Go.Proofs.Ytmcghpeamnmbpaa
