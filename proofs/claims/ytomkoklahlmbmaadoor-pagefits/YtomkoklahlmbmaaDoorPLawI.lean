/- Walk of PageFits. -/
import Derived.Test.YtomkoklahlmbmaaDoorPLawG
namespace Go.Proofs.YtomkoklahlmbmaaDoor
open Go.RowKit

set_option maxRecDepth 100000 in
set_option maxHeartbeats 3200000 in
theorem fits_neg (w : World) (a k v r : Int) (h : ByteArray) (B cp : Nat) (ao : Option Addr) (l : List ByteArray) (hS : Strs w B ao l) (hF : Fit ao l.length cp) (hh : h.size ≤ 140737488355328) (ha : a < 9223372036854775808) (m : Int) (hm0 : -9223372036854775808 ≤ m) (hm1 : m < 9223372036854775808) (hmn : m < 0) :
    Calls Tryd.prog 6 #[.agg #[.int .i64 a, .int .i64 k, .int .i64 v, .int .i64 r, .string h, .slice ao l.length cp], .int .i64 m] w fun e w' => e = .returned (.bool true) ∧ Only (fun _ => False) w w' := by
  have HS := hide hS
  have HF := hide hF
  have HO0 := hide (onlyA w (.cells #[.int .i64 a, .int .i64 k, .int .i64 v, .int .i64 r, .string h, .slice ao l.length cp] 24))
  have HP0 := hide (Pag.new w (.int .i64 a) (.int .i64 k) (.int .i64 v) (.int .i64 r) (.string h) (.slice ao l.length cp))
  obtain ⟨W0, hW0⟩ : ∃ W0, w.alloc (.cells #[.int .i64 a, .int .i64 k, .int .i64 v, .int .i64 r, .string h, .slice ao l.length cp] 24) = W0 := ⟨_, rfl⟩
  rw [hW0] at HO0 HP0
  have HW0 := hide hW0
  clear hW0 hS hF
  go_enter Tryd.func6, Tryd.ntmps6
  go_wp2_with fail
  rw [HW0.out]
  have he := pencode_any W0 a k v r h B cp ao l (HS.out.more HO0.out) hh ha
  refine Calls.mono he ?_
  clear he
  rintro e w1 ⟨rfl, ho1⟩
  have HO1 := hide (o2 HO0.out ho1)
  have HP1 := hide (HP0.out.more ho1)
  clear ho1
  by_cases hv : Pg.inRange ⟨a, k, v, r, h, l⟩ ∧ Pg.fits ⟨a, k, v, r, h, l⟩
  · rw [out_ok hv.1 hv.2]
    obtain ⟨E, hE⟩ : ∃ E, str (Pg.enc ⟨a, k, v, r, h, l⟩) = E := ⟨_, rfl⟩
    have hEs : E.size = 512 := by rw [← hE, str_size]; exact enc_len _ hv.2.2.2
    have hE0 : 0 < E.size := by omega
    have hee : E.toList.isEmpty = false := str_some E hE0
    obtain ⟨hf1, hf2, hf3⟩ := hv.2
    have HV := hide hv.1
    simp only [Pg.size] at hf1 hf2 hf3
    simp only [hE]
    clear hE hEs hv
    obtain ⟨p0, p1, p2, p3, p4, p5, _⟩ := HP1.out
    go_wp2_with fail
    refine (proom_any w1 a k v r h B cp ao l (HS.out.more HO1.out) hh).mono ?_
    rintro e w2 ⟨rfl, ho2⟩
    have HO2 := hide (o2 HO1.out ho2)
    have HP2 := hide (HP1.out.more ho2)
    have HS2 := hide (HS.out.more (o2 HO1.out ho2))
    clear ho2 p0 p1 p2 p3 p4 p5
    obtain ⟨n, hn⟩ : ∃ n, roomZ l.length (wrap64 (20 + h.size + isz l)) = n := ⟨_, rfl⟩
    rw [hn]
    have hn' := room_cases l.length h.size (isz l) n hf2 hf3 hn
    have HN := hide hn'
    obtain ⟨N1, hN1⟩ : ∃ N1 : Nat, n + 1 = (N1 : Int) := ⟨(n + 1).toNat, by omega⟩
    have hN1b : N1 ≤ 1000 := by omega
    obtain ⟨O1, Z1, hz1, hmk1, hcv1⟩ := zeros_made N1 hN1b
    have hwr1 : IntKind.i64.wrap (N1 : Int) = (N1 : Int) := wraps_i64 _ (by omega) (by omega)
    obtain ⟨q, hq⟩ : ∃ q : Nat, (l.length : Int) + 1 = (q : Int) := ⟨l.length + 1, by omega⟩
    have hwq : IntKind.i64.wrap (q : Int) = (q : Int) := wraps_i64 _ (by omega) (by omega)
    have hq1 : 0 < q := by omega
    have HQL : Hid (q = l.length + 1) := by unfold Hid; omega
    have HBAD : Hid (∀ i, i ≤ l.length → _) := fun i hi => put_bad w2 a k v r h B cp ao l i Z1 HS2.out HF.out hh (by omega) hi (by omega) (by omega)
    clear hn hn'
    obtain ⟨p0, p1, p2, p3, p4, p5, _⟩ := HP2.out
    have hm2 := Int.emod_nonneg (-(m + 1)) (b := (q : Int)) (by omega)
    have hm3 := Int.emod_lt_of_pos (-(m + 1)) (b := (q : Int)) (by omega)
    have htm : -((m + 1).tmod (q : Int)) = -(m + 1) % (q : Int) := by
      rw [← Int.neg_tmod, Int.tmod_eq_emod_of_nonneg (by omega)]
    obtain ⟨i, hi⟩ : ∃ i : Nat, -((m + 1).tmod (q : Int)) = (i : Int) := ⟨(-(m + 1) % (q : Int)).toNat, by omega⟩
    have hil : i ≤ l.length := by have := HQL.out; omega
    clear hm2 hm3 htm
    go_upto_region 8 with fail
    have HB1 := hide (HBAD.out i hil)
    have hcvA : ∀ (W : World) (g : Nat), g = W.heap.size → (convert 42 9 (.slice (some ⟨g, 0, none⟩) N1 N1)).run Tryd.prog (W.alloc O1) = .ok (.string Z1) (W.alloc O1) := fun W g hg => hcv1 W g _ hg (Only.refl _ _)
    have hcvB : ∀ (W : World) (g : Nat) (o : Obj), g = W.heap.size → (convert 42 9 (.slice (some ⟨g, 0, none⟩) N1 N1)).run Tryd.prog ((W.alloc O1).alloc o) = .ok (.string Z1) ((W.alloc O1).alloc o) := fun W g o hg => hcv1 W g _ hg (onlyA _ _)
    have hcvC : ∀ (W : World) (g : Nat), g = W.heap.size → (convert 42 9 (.slice (some ⟨g, 0, none⟩) N1 N1)).run Tryd.prog (W.alloc O1).drew = .ok (.string Z1) (W.alloc O1).drew := fun W g hg => hcv1 W g _ hg (Only.drew _ _)
    have hcvD : ∀ (W : World) (g : Nat) (o : Obj), g = W.heap.size → (convert 42 9 (.slice (some ⟨g, 0, none⟩) N1 N1)).run Tryd.prog ((W.alloc O1).alloc o).drew = .ok (.string Z1) ((W.alloc O1).alloc o).drew := fun W g o hg => hcv1 W g _ hg (o2 (onlyA _ _) (Only.drew _ _))
    have hlt2 : w.heap.size < w2.heap.size := HP2.out.lt
    have hne1 : w2.heap.size ≠ w.heap.size := by omega
    have hne2 : w2.heap.size + 1 ≠ w.heap.size := by omega
    clear hcv1 HBAD hz1 hE0
    try simp only [hi]
    clear hi
    go_cut [9] (fun t wc => t = .int .i64 3 ∧ Hid (Only (fun _ => False) w2 wc))
    case first =>
      refine wp_region_noPanic ?_
      refine wp_region_held_drew (S := fun W => Only (fun _ => False) w2 W) (by kernel_rfl) (Only.drew _ _) (fun hHeld => ?_)
      refine wpAnyH_take (i := 0) (oi := { dst := some 46, op := Op.load 24 (Operand.tmp 2), type := 24, pos := "law.go:131", after := #[], guard := none }) (v := .agg #[.int .i64 a, .int .i64 k, .int .i64 v, .int .i64 r, .string h, .slice ao l.length cp]) rfl (by kernel_rfl) (by kernel_rfl) (by kernel_rfl) (fun _ _ _ h => h) (yieldsIf_load_page (by rfl) _ rfl _ rfl (fun W hW => HP2.out.more hW)) (by assumption) ?_
      simp only [Act.put, List.setIfInBounds_toArray, List.set_cons_zero, List.set_cons_succ]
      refine wpAnyH_take (i := 1) (oi := { dst := some 47, op := Op.move (Operand.tmp 1), type := 3, pos := "law.go:131", after := #[], guard := none }) (v := .int .i64 (i : Int)) rfl (by kernel_rfl) (by kernel_rfl) (by kernel_rfl) (fun _ _ _ h => h) (Or.inl ⟨by rfl, fun w' hSw => by clear hSw; go_simp⟩) (by assumption) ?_
      simp only [Act.put, List.setIfInBounds_toArray, List.set_cons_zero, List.set_cons_succ]
      refine wpAnyH_take (i := 2) (oi := { dst := some 48, op := Op.move (Operand.tmp 7), type := 3, pos := "law.go:131", after := #[], guard := none }) (v := .int .i64 n) rfl (by kernel_rfl) (by kernel_rfl) (by kernel_rfl) (fun _ _ _ h => h) (Or.inl ⟨by rfl, fun w' hSw => by clear hSw; go_simp⟩) (by assumption) ?_
      simp only [Act.put, List.setIfInBounds_toArray, List.set_cons_zero, List.set_cons_succ]
      refine wpAnyH_take (i := 3) (oi := { dst := some 49, op := Op.binOp BinOp.add 3 (Operand.tmp 48) (Operand.const (Value.int IntKind.i64 1)) 3, type := 3, pos := "law.go:131", after := #[{ on := 2, ground := Ground.data }], guard := none }) (v := .int .i64 (N1 : Int)) rfl (by kernel_rfl) (by kernel_rfl) (by kernel_rfl) (fun _ _ _ h => h) (Or.inl ⟨by rfl, fun w' hSw => by clear hSw; go_simp⟩) (by assumption) ?_
      simp only [Act.put, List.setIfInBounds_toArray, List.set_cons_zero, List.set_cons_succ]
      refine wpAnyH_ready (rs := [4, 10]) (by kernel_rfl) (by simp) ?_
      refine AllReadyH.cons (o := { dst := some 50, op := Op.makeSlice 42 (Operand.tmp 49) (Operand.tmp 49), type := 42, pos := "law.go:131", after := #[{ on := 3, ground := Ground.data }, { on := 3, ground := Ground.data }], guard := none }) rfl (fun K hK => ?_) (AllReadyH.cons (o := { dst := some 8, op := Op.alloc 24, type := 0, pos := "law.go:131", after := #[], guard := none }) rfl (fun K hK => ?_) (AllReadyH.nil))
      · go_simp
        refine hK.out _ _ (by (repeat (first | exact Only.drew _ _ | exact Only.refl _ _ | refine o2 ?_ (onlyA _ _) | refine o2 ?_ (Only.drew _ _)))) (fun hHeld => ?_)
        clear hK K
        try simp only [Act.put, List.setIfInBounds_toArray, List.set_cons_zero, List.set_cons_succ]
        refine wpAnyH_ready (rs := [5, 10]) (by kernel_rfl) (by simp) ?_
        refine AllReadyH.cons (o := { dst := some 51, op := Op.convert 42 9 (Operand.tmp 50), type := 9, pos := "law.go:131", after := #[{ on := 4, ground := Ground.data }], guard := none }) rfl (fun K hK => ?_) (AllReadyH.cons (o := { dst := some 8, op := Op.alloc 24, type := 0, pos := "law.go:131", after := #[], guard := none }) rfl (fun K hK => ?_) (AllReadyH.nil))
        · go_simp
          refine hK.out _ _ (by (repeat (first | exact Only.drew _ _ | exact Only.refl _ _ | refine o2 ?_ (onlyA _ _) | refine o2 ?_ (Only.drew _ _)))) (fun hHeld => ?_)
          clear hK K
          try simp only [Act.put, List.setIfInBounds_toArray, List.set_cons_zero, List.set_cons_succ]
          refine wpAnyH_ready (rs := [6, 10]) (by kernel_rfl) (by simp) ?_
          refine AllReadyH.cons (o := { dst := some 52, op := Op.call { callee := Callee.value (Operand.func 17), args := #[Operand.tmp 46, Operand.tmp 47, Operand.tmp 51], argTypes := #[24, 3, 9] }, type := 33, pos := "law.go:131", after := #[{ on := 0, ground := Ground.data }, { on := 1, ground := Ground.data }, { on := 5, ground := Ground.data }], guard := none }) rfl (fun K hK => ?_) (AllReadyH.cons (o := { dst := some 8, op := Op.alloc 24, type := 0, pos := "law.go:131", after := #[], guard := none }) rfl (fun K hK => ?_) (AllReadyH.nil))
          · go_simp
            refine (HB1.out _ (by (repeat (first | exact Only.drew _ _ | exact Only.refl _ _ | refine o2 ?_ (onlyA _ _) | refine o2 ?_ (Only.drew _ _))))).mono ?_
            rintro e x1 ⟨ao1, cp1, rfl, HX1, hk1, hk2⟩
            have hx1 := HX1.out.size
            refine hK.out _ _ (HX1.out) (fun hHeld => ?_)
            clear hK K
            try simp only [Act.put, List.setIfInBounds_toArray, List.set_cons_zero, List.set_cons_succ]
            refine wpAnyH_take (i := 7) (oi := { dst := some 45, op := Op.move (Operand.tmp 52), type := 33, pos := "law.go:131", after := #[{ on := 6, ground := Ground.data }], guard := none }) (v := .tuple #[.agg #[.int .i64 0, .int .i64 0, .int .i64 0, .int .i64 0, .string ⟨#[]⟩, .slice ao1 0 cp1], .int .i64 3]) rfl (by kernel_rfl) (by kernel_rfl) (by kernel_rfl) (fun _ _ _ h => h) (Or.inl ⟨by rfl, fun w' hSw => by clear hSw; go_simp⟩) (by assumption) ?_
            simp only [Act.put, List.setIfInBounds_toArray, List.set_cons_zero, List.set_cons_succ]
            refine wpAnyH_take (i := 8) (oi := { dst := some 53, op := Op.extract (Operand.tmp 45) 0, type := 24, pos := "law.go:131", after := #[{ on := 7, ground := Ground.data }], guard := none }) (v := .agg #[.int .i64 0, .int .i64 0, .int .i64 0, .int .i64 0, .string ⟨#[]⟩, .slice ao1 0 cp1]) rfl (by kernel_rfl) (by kernel_rfl) (by kernel_rfl) (fun _ _ _ h => h) (Or.inl ⟨by rfl, fun w' hSw => by clear hSw; go_simp⟩) (by assumption) ?_
            simp only [Act.put, List.setIfInBounds_toArray, List.set_cons_zero, List.set_cons_succ]
            refine wpAnyH_take (i := 9) (oi := { dst := some 54, op := Op.extract (Operand.tmp 45) 1, type := 26, pos := "law.go:131", after := #[{ on := 7, ground := Ground.data }, { on := 11, ground := Ground.gcOnly Departure.lateStores }], guard := none }) (v := .int .i64 3) rfl (by kernel_rfl) (by kernel_rfl) (by kernel_rfl) (fun _ _ _ h => h) (Or.inl ⟨by rfl, fun w' hSw => by clear hSw; go_simp⟩) (by assumption) ?_
            simp only [Act.put, List.setIfInBounds_toArray, List.set_cons_zero, List.set_cons_succ]
            refine wpAnyH_ready (rs := [10]) (by kernel_rfl) (by simp) ?_
            refine AllReadyH.cons (o := { dst := some 8, op := Op.alloc 24, type := 0, pos := "law.go:131", after := #[], guard := none }) rfl (fun K hK => ?_) (AllReadyH.nil)
            go_simp
            refine hK.out _ _ (o2 HX1.out (onlyA _ _)) (fun hHeld => ?_)
            clear hK K
            try simp only [Act.put, List.setIfInBounds_toArray, List.set_cons_zero, List.set_cons_succ]
            refine wpAnyH_ready (rs := [11]) (by kernel_rfl) (by simp) ?_
            refine AllReadyH.cons (o := { dst := none, op := Op.store 24 (Operand.tmp 8) (Operand.tmp 53), type := 0, pos := "law.go:131", after := #[{ on := 10, ground := Ground.data }, { on := 8, ground := Ground.data }, { on := 6, ground := Ground.chain }, { on := 0, ground := Ground.phase }, { on := 1, ground := Ground.phase }, { on := 2, ground := Ground.phase }, { on := 3, ground := Ground.phase }, { on := 4, ground := Ground.phase }, { on := 5, ground := Ground.phase }, { on := 6, ground := Ground.phase }, { on := 7, ground := Ground.phase }, { on := 8, ground := Ground.phase }, { on := 9, ground := Ground.textOnly Departure.lateStores }, { on := 10, ground := Ground.phase }], guard := none }) rfl (fun K hK => ?_) AllReadyH.nil
            go_simp
            refine hK.out _ _ (o2 HX1.out (onlyA _ _)) (fun hHeld => ?_)
            clear hK K
            try simp only [Act.put, List.setIfInBounds_toArray, List.set_cons_zero, List.set_cons_succ]
            refine wpAnyH_take (i := 12) (oi := { dst := some 9, op := Op.assign (Operand.tmp 54), type := 26, pos := "law.go:131", after := #[{ on := 9, ground := Ground.data }, { on := 11, ground := Ground.chain }, { on := 0, ground := Ground.phase }, { on := 1, ground := Ground.phase }, { on := 2, ground := Ground.phase }, { on := 3, ground := Ground.phase }, { on := 4, ground := Ground.phase }, { on := 5, ground := Ground.phase }, { on := 6, ground := Ground.phase }, { on := 7, ground := Ground.phase }, { on := 8, ground := Ground.phase }, { on := 9, ground := Ground.phase }, { on := 10, ground := Ground.phase }, { on := 11, ground := Ground.phase }], guard := none }) (v := .int .i64 3) rfl (by kernel_rfl) (by kernel_rfl) (by kernel_rfl) (fun _ _ _ h => h) (Or.inl ⟨by rfl, fun w' hSw => by clear hSw; go_simp⟩) (by assumption) ?_
            simp only [Act.put, List.setIfInBounds_toArray, List.set_cons_zero, List.set_cons_succ]
            refine wpAnyH_done (by kernel_rfl) ?_ _
            refine NoPanic.normal ?_
            go_wp2_with fail
            go_meet
            exact ⟨rfl, hide hHeld⟩
          · go_simp
            refine hK.out _ _ (by (repeat (first | exact Only.drew _ _ | exact Only.refl _ _ | refine o2 ?_ (onlyA _ _) | refine o2 ?_ (Only.drew _ _)))) (fun hHeld => ?_)
            clear hK K
            try simp only [Act.put, List.setIfInBounds_toArray, List.set_cons_zero, List.set_cons_succ]
            refine wpAnyH_ready (rs := [6]) (by kernel_rfl) (by simp) ?_
            refine AllReadyH.cons (o := { dst := some 52, op := Op.call { callee := Callee.value (Operand.func 17), args := #[Operand.tmp 46, Operand.tmp 47, Operand.tmp 51], argTypes := #[24, 3, 9] }, type := 33, pos := "law.go:131", after := #[{ on := 0, ground := Ground.data }, { on := 1, ground := Ground.data }, { on := 5, ground := Ground.data }], guard := none }) rfl (fun K hK => ?_) (AllReadyH.nil)
            go_simp
            refine (HB1.out _ (by (repeat (first | exact Only.drew _ _ | exact Only.refl _ _ | refine o2 ?_ (onlyA _ _) | refine o2 ?_ (Only.drew _ _))))).mono ?_
            rintro e x1 ⟨ao1, cp1, rfl, HX1, hk1, hk2⟩
            have hx1 := HX1.out.size
            refine hK.out _ _ (HX1.out) (fun hHeld => ?_)
            clear hK K
            try simp only [Act.put, List.setIfInBounds_toArray, List.set_cons_zero, List.set_cons_succ]
            refine wpAnyH_take (i := 7) (oi := { dst := some 45, op := Op.move (Operand.tmp 52), type := 33, pos := "law.go:131", after := #[{ on := 6, ground := Ground.data }], guard := none }) (v := .tuple #[.agg #[.int .i64 0, .int .i64 0, .int .i64 0, .int .i64 0, .string ⟨#[]⟩, .slice ao1 0 cp1], .int .i64 3]) rfl (by kernel_rfl) (by kernel_rfl) (by kernel_rfl) (fun _ _ _ h => h) (Or.inl ⟨by rfl, fun w' hSw => by clear hSw; go_simp⟩) (by assumption) ?_
            simp only [Act.put, List.setIfInBounds_toArray, List.set_cons_zero, List.set_cons_succ]
            refine wpAnyH_take (i := 8) (oi := { dst := some 53, op := Op.extract (Operand.tmp 45) 0, type := 24, pos := "law.go:131", after := #[{ on := 7, ground := Ground.data }], guard := none }) (v := .agg #[.int .i64 0, .int .i64 0, .int .i64 0, .int .i64 0, .string ⟨#[]⟩, .slice ao1 0 cp1]) rfl (by kernel_rfl) (by kernel_rfl) (by kernel_rfl) (fun _ _ _ h => h) (Or.inl ⟨by rfl, fun w' hSw => by clear hSw; go_simp⟩) (by assumption) ?_
            simp only [Act.put, List.setIfInBounds_toArray, List.set_cons_zero, List.set_cons_succ]
            refine wpAnyH_take (i := 9) (oi := { dst := some 54, op := Op.extract (Operand.tmp 45) 1, type := 26, pos := "law.go:131", after := #[{ on := 7, ground := Ground.data }, { on := 11, ground := Ground.gcOnly Departure.lateStores }], guard := none }) (v := .int .i64 3) rfl (by kernel_rfl) (by kernel_rfl) (by kernel_rfl) (fun _ _ _ h => h) (Or.inl ⟨by rfl, fun w' hSw => by clear hSw; go_simp⟩) (by assumption) ?_
            simp only [Act.put, List.setIfInBounds_toArray, List.set_cons_zero, List.set_cons_succ]
            refine wpAnyH_ready (rs := [11]) (by kernel_rfl) (by simp) ?_
            refine AllReadyH.cons (o := { dst := none, op := Op.store 24 (Operand.tmp 8) (Operand.tmp 53), type := 0, pos := "law.go:131", after := #[{ on := 10, ground := Ground.data }, { on := 8, ground := Ground.data }, { on := 6, ground := Ground.chain }, { on := 0, ground := Ground.phase }, { on := 1, ground := Ground.phase }, { on := 2, ground := Ground.phase }, { on := 3, ground := Ground.phase }, { on := 4, ground := Ground.phase }, { on := 5, ground := Ground.phase }, { on := 6, ground := Ground.phase }, { on := 7, ground := Ground.phase }, { on := 8, ground := Ground.phase }, { on := 9, ground := Ground.textOnly Departure.lateStores }, { on := 10, ground := Ground.phase }], guard := none }) rfl (fun K hK => ?_) AllReadyH.nil
            go_simp
            refine hK.out _ _ (six_new HX1.out (by omega) _ _ _ _ _ _) (fun hHeld => ?_)
            clear hK K
            try simp only [Act.put, List.setIfInBounds_toArray, List.set_cons_zero, List.set_cons_succ]
            refine wpAnyH_take (i := 12) (oi := { dst := some 9, op := Op.assign (Operand.tmp 54), type := 26, pos := "law.go:131", after := #[{ on := 9, ground := Ground.data }, { on := 11, ground := Ground.chain }, { on := 0, ground := Ground.phase }, { on := 1, ground := Ground.phase }, { on := 2, ground := Ground.phase }, { on := 3, ground := Ground.phase }, { on := 4, ground := Ground.phase }, { on := 5, ground := Ground.phase }, { on := 6, ground := Ground.phase }, { on := 7, ground := Ground.phase }, { on := 8, ground := Ground.phase }, { on := 9, ground := Ground.phase }, { on := 10, ground := Ground.phase }, { on := 11, ground := Ground.phase }], guard := none }) (v := .int .i64 3) rfl (by kernel_rfl) (by kernel_rfl) (by kernel_rfl) (fun _ _ _ h => h) (Or.inl ⟨by rfl, fun w' hSw => by clear hSw; go_simp⟩) (by assumption) ?_
            simp only [Act.put, List.setIfInBounds_toArray, List.set_cons_zero, List.set_cons_succ]
            refine wpAnyH_done (by kernel_rfl) ?_ _
            refine NoPanic.normal ?_
            go_wp2_with fail
            go_meet
            exact ⟨rfl, hide hHeld⟩
        · go_simp
          refine hK.out _ _ (by (repeat (first | exact Only.drew _ _ | exact Only.refl _ _ | refine o2 ?_ (onlyA _ _) | refine o2 ?_ (Only.drew _ _)))) (fun hHeld => ?_)
          clear hK K
          try simp only [Act.put, List.setIfInBounds_toArray, List.set_cons_zero, List.set_cons_succ]
          refine wpAnyH_ready (rs := [5]) (by kernel_rfl) (by simp) ?_
          refine AllReadyH.cons (o := { dst := some 51, op := Op.convert 42 9 (Operand.tmp 50), type := 9, pos := "law.go:131", after := #[{ on := 4, ground := Ground.data }], guard := none }) rfl (fun K hK => ?_) (AllReadyH.nil)
          go_simp
          refine hK.out _ _ (by (repeat (first | exact Only.drew _ _ | exact Only.refl _ _ | refine o2 ?_ (onlyA _ _) | refine o2 ?_ (Only.drew _ _)))) (fun hHeld => ?_)
          clear hK K
          try simp only [Act.put, List.setIfInBounds_toArray, List.set_cons_zero, List.set_cons_succ]
          refine wpAnyH_ready (rs := [6]) (by kernel_rfl) (by simp) ?_
          refine AllReadyH.cons (o := { dst := some 52, op := Op.call { callee := Callee.value (Operand.func 17), args := #[Operand.tmp 46, Operand.tmp 47, Operand.tmp 51], argTypes := #[24, 3, 9] }, type := 33, pos := "law.go:131", after := #[{ on := 0, ground := Ground.data }, { on := 1, ground := Ground.data }, { on := 5, ground := Ground.data }], guard := none }) rfl (fun K hK => ?_) (AllReadyH.nil)
          go_simp
          refine (HB1.out _ (by (repeat (first | exact Only.drew _ _ | exact Only.refl _ _ | refine o2 ?_ (onlyA _ _) | refine o2 ?_ (Only.drew _ _))))).mono ?_
          rintro e x1 ⟨ao1, cp1, rfl, HX1, hk1, hk2⟩
          have hx1 := HX1.out.size
          refine hK.out _ _ (HX1.out) (fun hHeld => ?_)
          clear hK K
          try simp only [Act.put, List.setIfInBounds_toArray, List.set_cons_zero, List.set_cons_succ]
          refine wpAnyH_take (i := 7) (oi := { dst := some 45, op := Op.move (Operand.tmp 52), type := 33, pos := "law.go:131", after := #[{ on := 6, ground := Ground.data }], guard := none }) (v := .tuple #[.agg #[.int .i64 0, .int .i64 0, .int .i64 0, .int .i64 0, .string ⟨#[]⟩, .slice ao1 0 cp1], .int .i64 3]) rfl (by kernel_rfl) (by kernel_rfl) (by kernel_rfl) (fun _ _ _ h => h) (Or.inl ⟨by rfl, fun w' hSw => by clear hSw; go_simp⟩) (by assumption) ?_
          simp only [Act.put, List.setIfInBounds_toArray, List.set_cons_zero, List.set_cons_succ]
          refine wpAnyH_take (i := 8) (oi := { dst := some 53, op := Op.extract (Operand.tmp 45) 0, type := 24, pos := "law.go:131", after := #[{ on := 7, ground := Ground.data }], guard := none }) (v := .agg #[.int .i64 0, .int .i64 0, .int .i64 0, .int .i64 0, .string ⟨#[]⟩, .slice ao1 0 cp1]) rfl (by kernel_rfl) (by kernel_rfl) (by kernel_rfl) (fun _ _ _ h => h) (Or.inl ⟨by rfl, fun w' hSw => by clear hSw; go_simp⟩) (by assumption) ?_
          simp only [Act.put, List.setIfInBounds_toArray, List.set_cons_zero, List.set_cons_succ]
          refine wpAnyH_take (i := 9) (oi := { dst := some 54, op := Op.extract (Operand.tmp 45) 1, type := 26, pos := "law.go:131", after := #[{ on := 7, ground := Ground.data }, { on := 11, ground := Ground.gcOnly Departure.lateStores }], guard := none }) (v := .int .i64 3) rfl (by kernel_rfl) (by kernel_rfl) (by kernel_rfl) (fun _ _ _ h => h) (Or.inl ⟨by rfl, fun w' hSw => by clear hSw; go_simp⟩) (by assumption) ?_
          simp only [Act.put, List.setIfInBounds_toArray, List.set_cons_zero, List.set_cons_succ]
          refine wpAnyH_ready (rs := [11]) (by kernel_rfl) (by simp) ?_
          refine AllReadyH.cons (o := { dst := none, op := Op.store 24 (Operand.tmp 8) (Operand.tmp 53), type := 0, pos := "law.go:131", after := #[{ on := 10, ground := Ground.data }, { on := 8, ground := Ground.data }, { on := 6, ground := Ground.chain }, { on := 0, ground := Ground.phase }, { on := 1, ground := Ground.phase }, { on := 2, ground := Ground.phase }, { on := 3, ground := Ground.phase }, { on := 4, ground := Ground.phase }, { on := 5, ground := Ground.phase }, { on := 6, ground := Ground.phase }, { on := 7, ground := Ground.phase }, { on := 8, ground := Ground.phase }, { on := 9, ground := Ground.textOnly Departure.lateStores }, { on := 10, ground := Ground.phase }], guard := none }) rfl (fun K hK => ?_) AllReadyH.nil
          go_simp
          refine hK.out _ _ (six_new HX1.out (by omega) _ _ _ _ _ _) (fun hHeld => ?_)
          clear hK K
          try simp only [Act.put, List.setIfInBounds_toArray, List.set_cons_zero, List.set_cons_succ]
          refine wpAnyH_take (i := 12) (oi := { dst := some 9, op := Op.assign (Operand.tmp 54), type := 26, pos := "law.go:131", after := #[{ on := 9, ground := Ground.data }, { on := 11, ground := Ground.chain }, { on := 0, ground := Ground.phase }, { on := 1, ground := Ground.phase }, { on := 2, ground := Ground.phase }, { on := 3, ground := Ground.phase }, { on := 4, ground := Ground.phase }, { on := 5, ground := Ground.phase }, { on := 6, ground := Ground.phase }, { on := 7, ground := Ground.phase }, { on := 8, ground := Ground.phase }, { on := 9, ground := Ground.phase }, { on := 10, ground := Ground.phase }, { on := 11, ground := Ground.phase }], guard := none }) (v := .int .i64 3) rfl (by kernel_rfl) (by kernel_rfl) (by kernel_rfl) (fun _ _ _ h => h) (Or.inl ⟨by rfl, fun w' hSw => by clear hSw; go_simp⟩) (by assumption) ?_
          simp only [Act.put, List.setIfInBounds_toArray, List.set_cons_zero, List.set_cons_succ]
          refine wpAnyH_done (by kernel_rfl) ?_ _
          refine NoPanic.normal ?_
          go_wp2_with fail
          go_meet
          exact ⟨rfl, hide hHeld⟩
      · go_simp
        refine hK.out _ _ (by (repeat (first | exact Only.drew _ _ | exact Only.refl _ _ | refine o2 ?_ (onlyA _ _) | refine o2 ?_ (Only.drew _ _)))) (fun hHeld => ?_)
        clear hK K
        try simp only [Act.put, List.setIfInBounds_toArray, List.set_cons_zero, List.set_cons_succ]
        refine wpAnyH_ready (rs := [4]) (by kernel_rfl) (by simp) ?_
        refine AllReadyH.cons (o := { dst := some 50, op := Op.makeSlice 42 (Operand.tmp 49) (Operand.tmp 49), type := 42, pos := "law.go:131", after := #[{ on := 3, ground := Ground.data }, { on := 3, ground := Ground.data }], guard := none }) rfl (fun K hK => ?_) (AllReadyH.nil)
        go_simp
        refine hK.out _ _ (by (repeat (first | exact Only.drew _ _ | exact Only.refl _ _ | refine o2 ?_ (onlyA _ _) | refine o2 ?_ (Only.drew _ _)))) (fun hHeld => ?_)
        clear hK K
        try simp only [Act.put, List.setIfInBounds_toArray, List.set_cons_zero, List.set_cons_succ]
        refine wpAnyH_ready (rs := [5]) (by kernel_rfl) (by simp) ?_
        refine AllReadyH.cons (o := { dst := some 51, op := Op.convert 42 9 (Operand.tmp 50), type := 9, pos := "law.go:131", after := #[{ on := 4, ground := Ground.data }], guard := none }) rfl (fun K hK => ?_) (AllReadyH.nil)
        go_simp
        refine hK.out _ _ (by (repeat (first | exact Only.drew _ _ | exact Only.refl _ _ | refine o2 ?_ (onlyA _ _) | refine o2 ?_ (Only.drew _ _)))) (fun hHeld => ?_)
        clear hK K
        try simp only [Act.put, List.setIfInBounds_toArray, List.set_cons_zero, List.set_cons_succ]
        refine wpAnyH_ready (rs := [6]) (by kernel_rfl) (by simp) ?_
        refine AllReadyH.cons (o := { dst := some 52, op := Op.call { callee := Callee.value (Operand.func 17), args := #[Operand.tmp 46, Operand.tmp 47, Operand.tmp 51], argTypes := #[24, 3, 9] }, type := 33, pos := "law.go:131", after := #[{ on := 0, ground := Ground.data }, { on := 1, ground := Ground.data }, { on := 5, ground := Ground.data }], guard := none }) rfl (fun K hK => ?_) (AllReadyH.nil)
        go_simp
        refine (HB1.out _ (by (repeat (first | exact Only.drew _ _ | exact Only.refl _ _ | refine o2 ?_ (onlyA _ _) | refine o2 ?_ (Only.drew _ _))))).mono ?_
        rintro e x1 ⟨ao1, cp1, rfl, HX1, hk1, hk2⟩
        have hx1 := HX1.out.size
        refine hK.out _ _ (HX1.out) (fun hHeld => ?_)
        clear hK K
        try simp only [Act.put, List.setIfInBounds_toArray, List.set_cons_zero, List.set_cons_succ]
        refine wpAnyH_take (i := 7) (oi := { dst := some 45, op := Op.move (Operand.tmp 52), type := 33, pos := "law.go:131", after := #[{ on := 6, ground := Ground.data }], guard := none }) (v := .tuple #[.agg #[.int .i64 0, .int .i64 0, .int .i64 0, .int .i64 0, .string ⟨#[]⟩, .slice ao1 0 cp1], .int .i64 3]) rfl (by kernel_rfl) (by kernel_rfl) (by kernel_rfl) (fun _ _ _ h => h) (Or.inl ⟨by rfl, fun w' hSw => by clear hSw; go_simp⟩) (by assumption) ?_
        simp only [Act.put, List.setIfInBounds_toArray, List.set_cons_zero, List.set_cons_succ]
        refine wpAnyH_take (i := 8) (oi := { dst := some 53, op := Op.extract (Operand.tmp 45) 0, type := 24, pos := "law.go:131", after := #[{ on := 7, ground := Ground.data }], guard := none }) (v := .agg #[.int .i64 0, .int .i64 0, .int .i64 0, .int .i64 0, .string ⟨#[]⟩, .slice ao1 0 cp1]) rfl (by kernel_rfl) (by kernel_rfl) (by kernel_rfl) (fun _ _ _ h => h) (Or.inl ⟨by rfl, fun w' hSw => by clear hSw; go_simp⟩) (by assumption) ?_
        simp only [Act.put, List.setIfInBounds_toArray, List.set_cons_zero, List.set_cons_succ]
        refine wpAnyH_take (i := 9) (oi := { dst := some 54, op := Op.extract (Operand.tmp 45) 1, type := 26, pos := "law.go:131", after := #[{ on := 7, ground := Ground.data }, { on := 11, ground := Ground.gcOnly Departure.lateStores }], guard := none }) (v := .int .i64 3) rfl (by kernel_rfl) (by kernel_rfl) (by kernel_rfl) (fun _ _ _ h => h) (Or.inl ⟨by rfl, fun w' hSw => by clear hSw; go_simp⟩) (by assumption) ?_
        simp only [Act.put, List.setIfInBounds_toArray, List.set_cons_zero, List.set_cons_succ]
        refine wpAnyH_ready (rs := [11]) (by kernel_rfl) (by simp) ?_
        refine AllReadyH.cons (o := { dst := none, op := Op.store 24 (Operand.tmp 8) (Operand.tmp 53), type := 0, pos := "law.go:131", after := #[{ on := 10, ground := Ground.data }, { on := 8, ground := Ground.data }, { on := 6, ground := Ground.chain }, { on := 0, ground := Ground.phase }, { on := 1, ground := Ground.phase }, { on := 2, ground := Ground.phase }, { on := 3, ground := Ground.phase }, { on := 4, ground := Ground.phase }, { on := 5, ground := Ground.phase }, { on := 6, ground := Ground.phase }, { on := 7, ground := Ground.phase }, { on := 8, ground := Ground.phase }, { on := 9, ground := Ground.textOnly Departure.lateStores }, { on := 10, ground := Ground.phase }], guard := none }) rfl (fun K hK => ?_) AllReadyH.nil
        go_simp
        refine hK.out _ _ (six_new HX1.out (by omega) _ _ _ _ _ _) (fun hHeld => ?_)
        clear hK K
        try simp only [Act.put, List.setIfInBounds_toArray, List.set_cons_zero, List.set_cons_succ]
        refine wpAnyH_take (i := 12) (oi := { dst := some 9, op := Op.assign (Operand.tmp 54), type := 26, pos := "law.go:131", after := #[{ on := 9, ground := Ground.data }, { on := 11, ground := Ground.chain }, { on := 0, ground := Ground.phase }, { on := 1, ground := Ground.phase }, { on := 2, ground := Ground.phase }, { on := 3, ground := Ground.phase }, { on := 4, ground := Ground.phase }, { on := 5, ground := Ground.phase }, { on := 6, ground := Ground.phase }, { on := 7, ground := Ground.phase }, { on := 8, ground := Ground.phase }, { on := 9, ground := Ground.phase }, { on := 10, ground := Ground.phase }, { on := 11, ground := Ground.phase }], guard := none }) (v := .int .i64 3) rfl (by kernel_rfl) (by kernel_rfl) (by kernel_rfl) (fun _ _ _ h => h) (Or.inl ⟨by rfl, fun w' hSw => by clear hSw; go_simp⟩) (by assumption) ?_
        simp only [Act.put, List.setIfInBounds_toArray, List.set_cons_zero, List.set_cons_succ]
        refine wpAnyH_done (by kernel_rfl) ?_ _
        refine NoPanic.normal ?_
        go_wp2_with fail
        go_meet
        exact ⟨rfl, hide hHeld⟩
    case rest =>
      obtain ⟨rfl, HX3⟩ := hcut
      have HP3 := hide (HP2.out.more HX3.out)
      have HS3 := hide (HS2.out.more HX3.out)
      have HO3 := hide (o2 HO2.out HX3.out)
      clear p0 p1 p2 p3 p4 p5 hcvA hcvB hcvC hcvD hmk1 HB1 hne1 hne2 hlt2
      rcases HN.out with ⟨hn0, hnn⟩ | ⟨hn0, hnn, hl4⟩
      · subst hn0
        clear hN1 hwr1 hnn HN
        go_wp2_with fail
        refine (awake_any _).mono ?_
        rintro e w4 ⟨rfl, ho4⟩
        have HO4 := hide (o2 HO3.out ho4)
        clear ho4
        go_wp2_with fail
        go_ret
        exact ⟨rfl, HO4.out⟩
      · obtain ⟨N, hN⟩ : ∃ N : Nat, n = (N : Int) := ⟨n.toNat, by omega⟩
        subst hN
        have hNb : N ≤ 1000 := by omega
        obtain ⟨O2, Z2, hz2, hmk2, hcv2⟩ := zeros_made N hNb
        have hwr2 : IntKind.i64.wrap (N : Int) = (N : Int) := wraps_i64 _ (by omega) (by omega)
        have hsum : 20 + h.size + (isz l + 2 + Z2.size) = 512 := by rw [hz2]; omega
        have hcond : ¬ (255 < l.length + 1 ∨ 512 < 20 + h.size + (isz l + 2 + Z2.size)) := by omega
        have hpos : 0 < (l.take i ++ Z2 :: l.drop i).length := by rw [put_len]; omega
        have HG := hide (put_good wc a k v r h B cp ao l i Z2 HS3.out HF.out hh (by omega) hil (by omega) hcond)
        have HNL : Hid ((l.take i ++ Z2 :: l.drop i).take i ++ (l.take i ++ Z2 :: l.drop i).drop (i + 1) = l) := put_out l i Z2 hil
        have HNI := hide (isz_put l i Z2)
        have HNP := hide (put_len l i Z2)
        obtain ⟨nl, hnl⟩ : ∃ nl, l.take i ++ Z2 :: l.drop i = nl := ⟨_, rfl⟩
        rw [hnl] at HG HNL HNI HNP hpos
        have HV2 : Hid (Pg.out ⟨a, k, v, r, h, nl⟩ = (Pg.enc ⟨a, k, v, r, h, nl⟩, 0)) := out_ok HV.out ⟨by omega, (by show nl.length ≤ 255; have := HNP.out; omega), (by simp only [Pg.size]; have := HNI.out; omega)⟩
        have hinl : i < nl.length := by have := HNP.out; omega
        have hszn : 20 + h.size + isz nl = 512 := by have := HNI.out; omega
        clear hnl hcond hnn hn0 hl4 hsum
        have hcvA2 : ∀ (W : World) (g : Nat), g = W.heap.size → (convert 42 9 (.slice (some ⟨g, 0, none⟩) N N)).run Tryd.prog (W.alloc O2) = .ok (.string Z2) (W.alloc O2) := fun W g hg => hcv2 W g _ hg (Only.refl _ _)
        have hcvB2 : ∀ (W : World) (g : Nat) (o : Obj), g = W.heap.size → (convert 42 9 (.slice (some ⟨g, 0, none⟩) N N)).run Tryd.prog ((W.alloc O2).alloc o) = .ok (.string Z2) ((W.alloc O2).alloc o) := fun W g o hg => hcv2 W g _ hg (onlyA _ _)
        have hcvC2 : ∀ (W : World) (g : Nat), g = W.heap.size → (convert 42 9 (.slice (some ⟨g, 0, none⟩) N N)).run Tryd.prog (W.alloc O2).drew = .ok (.string Z2) (W.alloc O2).drew := fun W g hg => hcv2 W g _ hg (Only.drew _ _)
        have hcvD2 : ∀ (W : World) (g : Nat) (o : Obj), g = W.heap.size → (convert 42 9 (.slice (some ⟨g, 0, none⟩) N N)).run Tryd.prog ((W.alloc O2).alloc o).drew = .ok (.string Z2) ((W.alloc O2).alloc o).drew := fun W g o hg => hcv2 W g _ hg (o2 (onlyA _ _) (Only.drew _ _))
        clear hcv2 hz2 hN1 hwr1
        go_upto_region 11 with fail
        go_cut [10, 11] (fun p t wd => ∃ bx B2 ao2 cp2, p = .pointer (some ⟨bx, 0, none⟩) ∧ t = .int .i64 0 ∧ Hid (Bxd wc wd bx a k v r h B2 ao2 cp2 nl))
        case first =>
          refine wp_region_noPanic ?_
          refine wp_region_held_drew (S := fun W => Only (fun _ => False) wc W) (by kernel_rfl) (Only.drew _ _) (fun hHeld => ?_)
          refine wpAnyH_take (i := 0) (oi := { dst := some 67, op := Op.load 24 (Operand.tmp 2), type := 24, pos := "law.go:135", after := #[], guard := none }) (v := .agg #[.int .i64 a, .int .i64 k, .int .i64 v, .int .i64 r, .string h, .slice ao l.length cp]) rfl (by kernel_rfl) (by kernel_rfl) (by kernel_rfl) (fun _ _ _ h => h) (yieldsIf_load_page (by rfl) _ rfl _ rfl (fun W hW => HP3.out.more hW)) (by assumption) ?_
          simp only [Act.put, List.setIfInBounds_toArray, List.set_cons_zero, List.set_cons_succ]
          refine wpAnyH_take (i := 1) (oi := { dst := some 68, op := Op.move (Operand.tmp 1), type := 3, pos := "law.go:135", after := #[], guard := none }) (v := .int .i64 (i : Int)) rfl (by kernel_rfl) (by kernel_rfl) (by kernel_rfl) (fun _ _ _ h => h) (Or.inl ⟨by rfl, fun w' hSw => by clear hSw; go_simp⟩) (by assumption) ?_
          simp only [Act.put, List.setIfInBounds_toArray, List.set_cons_zero, List.set_cons_succ]
          refine wpAnyH_take (i := 2) (oi := { dst := some 69, op := Op.move (Operand.tmp 7), type := 3, pos := "law.go:135", after := #[], guard := none }) (v := .int .i64 (N : Int)) rfl (by kernel_rfl) (by kernel_rfl) (by kernel_rfl) (fun _ _ _ h => h) (Or.inl ⟨by rfl, fun w' hSw => by clear hSw; go_simp⟩) (by assumption) ?_
          simp only [Act.put, List.setIfInBounds_toArray, List.set_cons_zero, List.set_cons_succ]
          refine wpAnyH_ready (rs := [3, 9]) (by kernel_rfl) (by simp) ?_
          refine AllReadyH.cons (o := { dst := some 70, op := Op.makeSlice 42 (Operand.tmp 69) (Operand.tmp 69), type := 42, pos := "law.go:135", after := #[{ on := 2, ground := Ground.data }, { on := 2, ground := Ground.data }], guard := none }) rfl (fun K hK => ?_) (AllReadyH.cons (o := { dst := some 10, op := Op.alloc 24, type := 0, pos := "law.go:135", after := #[], guard := none }) rfl (fun K hK => ?_) (AllReadyH.nil))
          · go_simp
            refine hK.out _ _ (by (repeat (first | exact Only.drew _ _ | exact Only.refl _ _ | refine o2 ?_ (onlyA _ _) | refine o2 ?_ (Only.drew _ _)))) (fun hHeld => ?_)
            clear hK K
            try simp only [Act.put, List.setIfInBounds_toArray, List.set_cons_zero, List.set_cons_succ]
            refine wpAnyH_ready (rs := [4, 9]) (by kernel_rfl) (by simp) ?_
            refine AllReadyH.cons (o := { dst := some 71, op := Op.convert 42 9 (Operand.tmp 70), type := 9, pos := "law.go:135", after := #[{ on := 3, ground := Ground.data }], guard := none }) rfl (fun K hK => ?_) (AllReadyH.cons (o := { dst := some 10, op := Op.alloc 24, type := 0, pos := "law.go:135", after := #[], guard := none }) rfl (fun K hK => ?_) (AllReadyH.nil))
            · go_simp
              refine hK.out _ _ (by (repeat (first | exact Only.drew _ _ | exact Only.refl _ _ | refine o2 ?_ (onlyA _ _) | refine o2 ?_ (Only.drew _ _)))) (fun hHeld => ?_)
              clear hK K
              try simp only [Act.put, List.setIfInBounds_toArray, List.set_cons_zero, List.set_cons_succ]
              refine wpAnyH_ready (rs := [5, 9]) (by kernel_rfl) (by simp) ?_
              refine AllReadyH.cons (o := { dst := some 72, op := Op.call { callee := Callee.value (Operand.func 17), args := #[Operand.tmp 67, Operand.tmp 68, Operand.tmp 71], argTypes := #[24, 3, 9] }, type := 33, pos := "law.go:135", after := #[{ on := 0, ground := Ground.data }, { on := 1, ground := Ground.data }, { on := 4, ground := Ground.data }], guard := none }) rfl (fun K hK => ?_) (AllReadyH.cons (o := { dst := some 10, op := Op.alloc 24, type := 0, pos := "law.go:135", after := #[], guard := none }) rfl (fun K hK => ?_) (AllReadyH.nil))
              · go_simp
                refine (HG.out _ (by (repeat (first | exact Only.drew _ _ | exact Only.refl _ _ | refine o2 ?_ (onlyA _ _) | refine o2 ?_ (Only.drew _ _))))).mono ?_
                rintro e x1 ⟨B2, ao2, cp2, rfl, HQ2, HX1, hk1, hk2⟩
                have hx1 := HX1.out.size
                refine hK.out _ _ (HX1.out) (fun hHeld => ?_)
                clear hK K
                try simp only [Act.put, List.setIfInBounds_toArray, List.set_cons_zero, List.set_cons_succ]
                refine wpAnyH_take (i := 6) (oi := { dst := some 66, op := Op.move (Operand.tmp 72), type := 33, pos := "law.go:135", after := #[{ on := 5, ground := Ground.data }], guard := none }) (v := .tuple #[.agg #[.int .i64 a, .int .i64 k, .int .i64 v, .int .i64 r, .string h, .slice ao2 nl.length cp2], .int .i64 0]) rfl (by kernel_rfl) (by kernel_rfl) (by kernel_rfl) (fun _ _ _ h => h) (Or.inl ⟨by rfl, fun w' hSw => by clear hSw; go_simp⟩) (by assumption) ?_
                simp only [Act.put, List.setIfInBounds_toArray, List.set_cons_zero, List.set_cons_succ]
                refine wpAnyH_take (i := 7) (oi := { dst := some 73, op := Op.extract (Operand.tmp 66) 0, type := 24, pos := "law.go:135", after := #[{ on := 6, ground := Ground.data }], guard := none }) (v := .agg #[.int .i64 a, .int .i64 k, .int .i64 v, .int .i64 r, .string h, .slice ao2 nl.length cp2]) rfl (by kernel_rfl) (by kernel_rfl) (by kernel_rfl) (fun _ _ _ h => h) (Or.inl ⟨by rfl, fun w' hSw => by clear hSw; go_simp⟩) (by assumption) ?_
                simp only [Act.put, List.setIfInBounds_toArray, List.set_cons_zero, List.set_cons_succ]
                refine wpAnyH_take (i := 8) (oi := { dst := some 74, op := Op.extract (Operand.tmp 66) 1, type := 26, pos := "law.go:135", after := #[{ on := 6, ground := Ground.data }, { on := 10, ground := Ground.gcOnly Departure.lateStores }], guard := none }) (v := .int .i64 0) rfl (by kernel_rfl) (by kernel_rfl) (by kernel_rfl) (fun _ _ _ h => h) (Or.inl ⟨by rfl, fun w' hSw => by clear hSw; go_simp⟩) (by assumption) ?_
                simp only [Act.put, List.setIfInBounds_toArray, List.set_cons_zero, List.set_cons_succ]
                refine wpAnyH_ready (rs := [9]) (by kernel_rfl) (by simp) ?_
                refine AllReadyH.cons (o := { dst := some 10, op := Op.alloc 24, type := 0, pos := "law.go:135", after := #[], guard := none }) rfl (fun K hK => ?_) (AllReadyH.nil)
                go_simp
                refine hK.out _ _ (o2 HX1.out (onlyA _ _)) (fun hHeld => ?_)
                clear hK K
                try simp only [Act.put, List.setIfInBounds_toArray, List.set_cons_zero, List.set_cons_succ]
                refine wpAnyH_ready (rs := [10]) (by kernel_rfl) (by simp) ?_
                refine AllReadyH.cons (o := { dst := none, op := Op.store 24 (Operand.tmp 10) (Operand.tmp 73), type := 0, pos := "law.go:135", after := #[{ on := 9, ground := Ground.data }, { on := 7, ground := Ground.data }, { on := 5, ground := Ground.chain }, { on := 0, ground := Ground.phase }, { on := 1, ground := Ground.phase }, { on := 2, ground := Ground.phase }, { on := 3, ground := Ground.phase }, { on := 4, ground := Ground.phase }, { on := 5, ground := Ground.phase }, { on := 6, ground := Ground.phase }, { on := 7, ground := Ground.phase }, { on := 8, ground := Ground.textOnly Departure.lateStores }, { on := 9, ground := Ground.phase }], guard := none }) rfl (fun K hK => ?_) AllReadyH.nil
                go_simp
                refine hK.out _ _ (o2 HX1.out (onlyA _ _)) (fun hHeld => ?_)
                clear hK K
                try simp only [Act.put, List.setIfInBounds_toArray, List.set_cons_zero, List.set_cons_succ]
                refine wpAnyH_take (i := 11) (oi := { dst := some 11, op := Op.assign (Operand.tmp 74), type := 26, pos := "law.go:135", after := #[{ on := 8, ground := Ground.data }, { on := 10, ground := Ground.chain }, { on := 0, ground := Ground.phase }, { on := 1, ground := Ground.phase }, { on := 2, ground := Ground.phase }, { on := 3, ground := Ground.phase }, { on := 4, ground := Ground.phase }, { on := 5, ground := Ground.phase }, { on := 6, ground := Ground.phase }, { on := 7, ground := Ground.phase }, { on := 8, ground := Ground.phase }, { on := 9, ground := Ground.phase }, { on := 10, ground := Ground.phase }], guard := none }) (v := .int .i64 0) rfl (by kernel_rfl) (by kernel_rfl) (by kernel_rfl) (fun _ _ _ h => h) (Or.inl ⟨by rfl, fun w' hSw => by clear hSw; go_simp⟩) (by assumption) ?_
                simp only [Act.put, List.setIfInBounds_toArray, List.set_cons_zero, List.set_cons_succ]
                refine wpAnyH_done (by kernel_rfl) ?_ _
                refine NoPanic.normal ?_
                go_wp2_with fail
                go_meet
                exact ⟨_, B2, ao2, cp2, rfl, rfl, hide ⟨Pag.new x1 _ _ _ _ _ _, HQ2.out.strs.more (onlyA _ _), HQ2.out.fit, hHeld⟩⟩
              · go_simp
                refine hK.out _ _ (by (repeat (first | exact Only.drew _ _ | exact Only.refl _ _ | refine o2 ?_ (onlyA _ _) | refine o2 ?_ (Only.drew _ _)))) (fun hHeld => ?_)
                clear hK K
                try simp only [Act.put, List.setIfInBounds_toArray, List.set_cons_zero, List.set_cons_succ]
                refine wpAnyH_ready (rs := [5]) (by kernel_rfl) (by simp) ?_
                refine AllReadyH.cons (o := { dst := some 72, op := Op.call { callee := Callee.value (Operand.func 17), args := #[Operand.tmp 67, Operand.tmp 68, Operand.tmp 71], argTypes := #[24, 3, 9] }, type := 33, pos := "law.go:135", after := #[{ on := 0, ground := Ground.data }, { on := 1, ground := Ground.data }, { on := 4, ground := Ground.data }], guard := none }) rfl (fun K hK => ?_) (AllReadyH.nil)
                go_simp
                refine (HG.out _ (by (repeat (first | exact Only.drew _ _ | exact Only.refl _ _ | refine o2 ?_ (onlyA _ _) | refine o2 ?_ (Only.drew _ _))))).mono ?_
                rintro e x1 ⟨B2, ao2, cp2, rfl, HQ2, HX1, hk1, hk2⟩
                have hx1 := HX1.out.size
                refine hK.out _ _ (HX1.out) (fun hHeld => ?_)
                clear hK K
                try simp only [Act.put, List.setIfInBounds_toArray, List.set_cons_zero, List.set_cons_succ]
                refine wpAnyH_take (i := 6) (oi := { dst := some 66, op := Op.move (Operand.tmp 72), type := 33, pos := "law.go:135", after := #[{ on := 5, ground := Ground.data }], guard := none }) (v := .tuple #[.agg #[.int .i64 a, .int .i64 k, .int .i64 v, .int .i64 r, .string h, .slice ao2 nl.length cp2], .int .i64 0]) rfl (by kernel_rfl) (by kernel_rfl) (by kernel_rfl) (fun _ _ _ h => h) (Or.inl ⟨by rfl, fun w' hSw => by clear hSw; go_simp⟩) (by assumption) ?_
                simp only [Act.put, List.setIfInBounds_toArray, List.set_cons_zero, List.set_cons_succ]
                refine wpAnyH_take (i := 7) (oi := { dst := some 73, op := Op.extract (Operand.tmp 66) 0, type := 24, pos := "law.go:135", after := #[{ on := 6, ground := Ground.data }], guard := none }) (v := .agg #[.int .i64 a, .int .i64 k, .int .i64 v, .int .i64 r, .string h, .slice ao2 nl.length cp2]) rfl (by kernel_rfl) (by kernel_rfl) (by kernel_rfl) (fun _ _ _ h => h) (Or.inl ⟨by rfl, fun w' hSw => by clear hSw; go_simp⟩) (by assumption) ?_
                simp only [Act.put, List.setIfInBounds_toArray, List.set_cons_zero, List.set_cons_succ]
                refine wpAnyH_take (i := 8) (oi := { dst := some 74, op := Op.extract (Operand.tmp 66) 1, type := 26, pos := "law.go:135", after := #[{ on := 6, ground := Ground.data }, { on := 10, ground := Ground.gcOnly Departure.lateStores }], guard := none }) (v := .int .i64 0) rfl (by kernel_rfl) (by kernel_rfl) (by kernel_rfl) (fun _ _ _ h => h) (Or.inl ⟨by rfl, fun w' hSw => by clear hSw; go_simp⟩) (by assumption) ?_
                simp only [Act.put, List.setIfInBounds_toArray, List.set_cons_zero, List.set_cons_succ]
                refine wpAnyH_ready (rs := [10]) (by kernel_rfl) (by simp) ?_
                refine AllReadyH.cons (o := { dst := none, op := Op.store 24 (Operand.tmp 10) (Operand.tmp 73), type := 0, pos := "law.go:135", after := #[{ on := 9, ground := Ground.data }, { on := 7, ground := Ground.data }, { on := 5, ground := Ground.chain }, { on := 0, ground := Ground.phase }, { on := 1, ground := Ground.phase }, { on := 2, ground := Ground.phase }, { on := 3, ground := Ground.phase }, { on := 4, ground := Ground.phase }, { on := 5, ground := Ground.phase }, { on := 6, ground := Ground.phase }, { on := 7, ground := Ground.phase }, { on := 8, ground := Ground.textOnly Departure.lateStores }, { on := 9, ground := Ground.phase }], guard := none }) rfl (fun K hK => ?_) AllReadyH.nil
                go_simp
                refine hK.out _ _ (six_new HX1.out (by omega) _ _ _ _ _ _) (fun hHeld => ?_)
                clear hK K
                try simp only [Act.put, List.setIfInBounds_toArray, List.set_cons_zero, List.set_cons_succ]
                refine wpAnyH_take (i := 11) (oi := { dst := some 11, op := Op.assign (Operand.tmp 74), type := 26, pos := "law.go:135", after := #[{ on := 8, ground := Ground.data }, { on := 10, ground := Ground.chain }, { on := 0, ground := Ground.phase }, { on := 1, ground := Ground.phase }, { on := 2, ground := Ground.phase }, { on := 3, ground := Ground.phase }, { on := 4, ground := Ground.phase }, { on := 5, ground := Ground.phase }, { on := 6, ground := Ground.phase }, { on := 7, ground := Ground.phase }, { on := 8, ground := Ground.phase }, { on := 9, ground := Ground.phase }, { on := 10, ground := Ground.phase }], guard := none }) (v := .int .i64 0) rfl (by kernel_rfl) (by kernel_rfl) (by kernel_rfl) (fun _ _ _ h => h) (Or.inl ⟨by rfl, fun w' hSw => by clear hSw; go_simp⟩) (by assumption) ?_
                simp only [Act.put, List.setIfInBounds_toArray, List.set_cons_zero, List.set_cons_succ]
                refine wpAnyH_done (by kernel_rfl) ?_ _
                refine NoPanic.normal ?_
                go_wp2_with fail
                go_meet
                have hb := Bxd.before (a := a) (k := k) (v := v) (r := r) (h := h) (o2 (o2 (onlyA wc _) (onlyA _ _)) (Only.drew _ _)) ((Pag.new' (wc.alloc O2) (wc.heap.size + 1) (by simp) (.int .i64 0) (.int .i64 0) (.int .i64 0) (.int .i64 0) (.string ⟨#[]⟩) (.slice none 0 0)).more (Only.drew _ _)) (by omega) HQ2.out
                exact ⟨_, B2, ao2, cp2, rfl, rfl, hide hb⟩
            · go_simp
              refine hK.out _ _ (by (repeat (first | exact Only.drew _ _ | exact Only.refl _ _ | refine o2 ?_ (onlyA _ _) | refine o2 ?_ (Only.drew _ _)))) (fun hHeld => ?_)
              clear hK K
              try simp only [Act.put, List.setIfInBounds_toArray, List.set_cons_zero, List.set_cons_succ]
              refine wpAnyH_ready (rs := [4]) (by kernel_rfl) (by simp) ?_
              refine AllReadyH.cons (o := { dst := some 71, op := Op.convert 42 9 (Operand.tmp 70), type := 9, pos := "law.go:135", after := #[{ on := 3, ground := Ground.data }], guard := none }) rfl (fun K hK => ?_) (AllReadyH.nil)
              go_simp
              refine hK.out _ _ (by (repeat (first | exact Only.drew _ _ | exact Only.refl _ _ | refine o2 ?_ (onlyA _ _) | refine o2 ?_ (Only.drew _ _)))) (fun hHeld => ?_)
              clear hK K
              try simp only [Act.put, List.setIfInBounds_toArray, List.set_cons_zero, List.set_cons_succ]
              refine wpAnyH_ready (rs := [5]) (by kernel_rfl) (by simp) ?_
              refine AllReadyH.cons (o := { dst := some 72, op := Op.call { callee := Callee.value (Operand.func 17), args := #[Operand.tmp 67, Operand.tmp 68, Operand.tmp 71], argTypes := #[24, 3, 9] }, type := 33, pos := "law.go:135", after := #[{ on := 0, ground := Ground.data }, { on := 1, ground := Ground.data }, { on := 4, ground := Ground.data }], guard := none }) rfl (fun K hK => ?_) (AllReadyH.nil)
              go_simp
              refine (HG.out _ (by (repeat (first | exact Only.drew _ _ | exact Only.refl _ _ | refine o2 ?_ (onlyA _ _) | refine o2 ?_ (Only.drew _ _))))).mono ?_
              rintro e x1 ⟨B2, ao2, cp2, rfl, HQ2, HX1, hk1, hk2⟩
              have hx1 := HX1.out.size
              refine hK.out _ _ (HX1.out) (fun hHeld => ?_)
              clear hK K
              try simp only [Act.put, List.setIfInBounds_toArray, List.set_cons_zero, List.set_cons_succ]
              refine wpAnyH_take (i := 6) (oi := { dst := some 66, op := Op.move (Operand.tmp 72), type := 33, pos := "law.go:135", after := #[{ on := 5, ground := Ground.data }], guard := none }) (v := .tuple #[.agg #[.int .i64 a, .int .i64 k, .int .i64 v, .int .i64 r, .string h, .slice ao2 nl.length cp2], .int .i64 0]) rfl (by kernel_rfl) (by kernel_rfl) (by kernel_rfl) (fun _ _ _ h => h) (Or.inl ⟨by rfl, fun w' hSw => by clear hSw; go_simp⟩) (by assumption) ?_
              simp only [Act.put, List.setIfInBounds_toArray, List.set_cons_zero, List.set_cons_succ]
              refine wpAnyH_take (i := 7) (oi := { dst := some 73, op := Op.extract (Operand.tmp 66) 0, type := 24, pos := "law.go:135", after := #[{ on := 6, ground := Ground.data }], guard := none }) (v := .agg #[.int .i64 a, .int .i64 k, .int .i64 v, .int .i64 r, .string h, .slice ao2 nl.length cp2]) rfl (by kernel_rfl) (by kernel_rfl) (by kernel_rfl) (fun _ _ _ h => h) (Or.inl ⟨by rfl, fun w' hSw => by clear hSw; go_simp⟩) (by assumption) ?_
              simp only [Act.put, List.setIfInBounds_toArray, List.set_cons_zero, List.set_cons_succ]
              refine wpAnyH_take (i := 8) (oi := { dst := some 74, op := Op.extract (Operand.tmp 66) 1, type := 26, pos := "law.go:135", after := #[{ on := 6, ground := Ground.data }, { on := 10, ground := Ground.gcOnly Departure.lateStores }], guard := none }) (v := .int .i64 0) rfl (by kernel_rfl) (by kernel_rfl) (by kernel_rfl) (fun _ _ _ h => h) (Or.inl ⟨by rfl, fun w' hSw => by clear hSw; go_simp⟩) (by assumption) ?_
              simp only [Act.put, List.setIfInBounds_toArray, List.set_cons_zero, List.set_cons_succ]
              refine wpAnyH_ready (rs := [10]) (by kernel_rfl) (by simp) ?_
              refine AllReadyH.cons (o := { dst := none, op := Op.store 24 (Operand.tmp 10) (Operand.tmp 73), type := 0, pos := "law.go:135", after := #[{ on := 9, ground := Ground.data }, { on := 7, ground := Ground.data }, { on := 5, ground := Ground.chain }, { on := 0, ground := Ground.phase }, { on := 1, ground := Ground.phase }, { on := 2, ground := Ground.phase }, { on := 3, ground := Ground.phase }, { on := 4, ground := Ground.phase }, { on := 5, ground := Ground.phase }, { on := 6, ground := Ground.phase }, { on := 7, ground := Ground.phase }, { on := 8, ground := Ground.textOnly Departure.lateStores }, { on := 9, ground := Ground.phase }], guard := none }) rfl (fun K hK => ?_) AllReadyH.nil
              go_simp
              refine hK.out _ _ (six_new HX1.out (by omega) _ _ _ _ _ _) (fun hHeld => ?_)
              clear hK K
              try simp only [Act.put, List.setIfInBounds_toArray, List.set_cons_zero, List.set_cons_succ]
              refine wpAnyH_take (i := 11) (oi := { dst := some 11, op := Op.assign (Operand.tmp 74), type := 26, pos := "law.go:135", after := #[{ on := 8, ground := Ground.data }, { on := 10, ground := Ground.chain }, { on := 0, ground := Ground.phase }, { on := 1, ground := Ground.phase }, { on := 2, ground := Ground.phase }, { on := 3, ground := Ground.phase }, { on := 4, ground := Ground.phase }, { on := 5, ground := Ground.phase }, { on := 6, ground := Ground.phase }, { on := 7, ground := Ground.phase }, { on := 8, ground := Ground.phase }, { on := 9, ground := Ground.phase }, { on := 10, ground := Ground.phase }], guard := none }) (v := .int .i64 0) rfl (by kernel_rfl) (by kernel_rfl) (by kernel_rfl) (fun _ _ _ h => h) (Or.inl ⟨by rfl, fun w' hSw => by clear hSw; go_simp⟩) (by assumption) ?_
              simp only [Act.put, List.setIfInBounds_toArray, List.set_cons_zero, List.set_cons_succ]
              refine wpAnyH_done (by kernel_rfl) ?_ _
              refine NoPanic.normal ?_
              go_wp2_with fail
              go_meet
              have hb := Bxd.before (a := a) (k := k) (v := v) (r := r) (h := h) (o2 (o2 (onlyA wc _) (onlyA _ _)) (Only.drew _ _)) ((Pag.new' (wc.alloc O2) (wc.heap.size + 1) (by simp) (.int .i64 0) (.int .i64 0) (.int .i64 0) (.int .i64 0) (.string ⟨#[]⟩) (.slice none 0 0)).more (Only.drew _ _)) (by omega) HQ2.out
              exact ⟨_, B2, ao2, cp2, rfl, rfl, hide hb⟩
          · go_simp
            refine hK.out _ _ (by (repeat (first | exact Only.drew _ _ | exact Only.refl _ _ | refine o2 ?_ (onlyA _ _) | refine o2 ?_ (Only.drew _ _)))) (fun hHeld => ?_)
            clear hK K
            try simp only [Act.put, List.setIfInBounds_toArray, List.set_cons_zero, List.set_cons_succ]
            refine wpAnyH_ready (rs := [3]) (by kernel_rfl) (by simp) ?_
            refine AllReadyH.cons (o := { dst := some 70, op := Op.makeSlice 42 (Operand.tmp 69) (Operand.tmp 69), type := 42, pos := "law.go:135", after := #[{ on := 2, ground := Ground.data }, { on := 2, ground := Ground.data }], guard := none }) rfl (fun K hK => ?_) (AllReadyH.nil)
            go_simp
            refine hK.out _ _ (by (repeat (first | exact Only.drew _ _ | exact Only.refl _ _ | refine o2 ?_ (onlyA _ _) | refine o2 ?_ (Only.drew _ _)))) (fun hHeld => ?_)
            clear hK K
            try simp only [Act.put, List.setIfInBounds_toArray, List.set_cons_zero, List.set_cons_succ]
            refine wpAnyH_ready (rs := [4]) (by kernel_rfl) (by simp) ?_
            refine AllReadyH.cons (o := { dst := some 71, op := Op.convert 42 9 (Operand.tmp 70), type := 9, pos := "law.go:135", after := #[{ on := 3, ground := Ground.data }], guard := none }) rfl (fun K hK => ?_) (AllReadyH.nil)
            go_simp
            refine hK.out _ _ (by (repeat (first | exact Only.drew _ _ | exact Only.refl _ _ | refine o2 ?_ (onlyA _ _) | refine o2 ?_ (Only.drew _ _)))) (fun hHeld => ?_)
            clear hK K
            try simp only [Act.put, List.setIfInBounds_toArray, List.set_cons_zero, List.set_cons_succ]
            refine wpAnyH_ready (rs := [5]) (by kernel_rfl) (by simp) ?_
            refine AllReadyH.cons (o := { dst := some 72, op := Op.call { callee := Callee.value (Operand.func 17), args := #[Operand.tmp 67, Operand.tmp 68, Operand.tmp 71], argTypes := #[24, 3, 9] }, type := 33, pos := "law.go:135", after := #[{ on := 0, ground := Ground.data }, { on := 1, ground := Ground.data }, { on := 4, ground := Ground.data }], guard := none }) rfl (fun K hK => ?_) (AllReadyH.nil)
            go_simp
            refine (HG.out _ (by (repeat (first | exact Only.drew _ _ | exact Only.refl _ _ | refine o2 ?_ (onlyA _ _) | refine o2 ?_ (Only.drew _ _))))).mono ?_
            rintro e x1 ⟨B2, ao2, cp2, rfl, HQ2, HX1, hk1, hk2⟩
            have hx1 := HX1.out.size
            refine hK.out _ _ (HX1.out) (fun hHeld => ?_)
            clear hK K
            try simp only [Act.put, List.setIfInBounds_toArray, List.set_cons_zero, List.set_cons_succ]
            refine wpAnyH_take (i := 6) (oi := { dst := some 66, op := Op.move (Operand.tmp 72), type := 33, pos := "law.go:135", after := #[{ on := 5, ground := Ground.data }], guard := none }) (v := .tuple #[.agg #[.int .i64 a, .int .i64 k, .int .i64 v, .int .i64 r, .string h, .slice ao2 nl.length cp2], .int .i64 0]) rfl (by kernel_rfl) (by kernel_rfl) (by kernel_rfl) (fun _ _ _ h => h) (Or.inl ⟨by rfl, fun w' hSw => by clear hSw; go_simp⟩) (by assumption) ?_
            simp only [Act.put, List.setIfInBounds_toArray, List.set_cons_zero, List.set_cons_succ]
            refine wpAnyH_take (i := 7) (oi := { dst := some 73, op := Op.extract (Operand.tmp 66) 0, type := 24, pos := "law.go:135", after := #[{ on := 6, ground := Ground.data }], guard := none }) (v := .agg #[.int .i64 a, .int .i64 k, .int .i64 v, .int .i64 r, .string h, .slice ao2 nl.length cp2]) rfl (by kernel_rfl) (by kernel_rfl) (by kernel_rfl) (fun _ _ _ h => h) (Or.inl ⟨by rfl, fun w' hSw => by clear hSw; go_simp⟩) (by assumption) ?_
            simp only [Act.put, List.setIfInBounds_toArray, List.set_cons_zero, List.set_cons_succ]
            refine wpAnyH_take (i := 8) (oi := { dst := some 74, op := Op.extract (Operand.tmp 66) 1, type := 26, pos := "law.go:135", after := #[{ on := 6, ground := Ground.data }, { on := 10, ground := Ground.gcOnly Departure.lateStores }], guard := none }) (v := .int .i64 0) rfl (by kernel_rfl) (by kernel_rfl) (by kernel_rfl) (fun _ _ _ h => h) (Or.inl ⟨by rfl, fun w' hSw => by clear hSw; go_simp⟩) (by assumption) ?_
            simp only [Act.put, List.setIfInBounds_toArray, List.set_cons_zero, List.set_cons_succ]
            refine wpAnyH_ready (rs := [10]) (by kernel_rfl) (by simp) ?_
            refine AllReadyH.cons (o := { dst := none, op := Op.store 24 (Operand.tmp 10) (Operand.tmp 73), type := 0, pos := "law.go:135", after := #[{ on := 9, ground := Ground.data }, { on := 7, ground := Ground.data }, { on := 5, ground := Ground.chain }, { on := 0, ground := Ground.phase }, { on := 1, ground := Ground.phase }, { on := 2, ground := Ground.phase }, { on := 3, ground := Ground.phase }, { on := 4, ground := Ground.phase }, { on := 5, ground := Ground.phase }, { on := 6, ground := Ground.phase }, { on := 7, ground := Ground.phase }, { on := 8, ground := Ground.textOnly Departure.lateStores }, { on := 9, ground := Ground.phase }], guard := none }) rfl (fun K hK => ?_) AllReadyH.nil
            go_simp
            refine hK.out _ _ (six_new HX1.out (by omega) _ _ _ _ _ _) (fun hHeld => ?_)
            clear hK K
            try simp only [Act.put, List.setIfInBounds_toArray, List.set_cons_zero, List.set_cons_succ]
            refine wpAnyH_take (i := 11) (oi := { dst := some 11, op := Op.assign (Operand.tmp 74), type := 26, pos := "law.go:135", after := #[{ on := 8, ground := Ground.data }, { on := 10, ground := Ground.chain }, { on := 0, ground := Ground.phase }, { on := 1, ground := Ground.phase }, { on := 2, ground := Ground.phase }, { on := 3, ground := Ground.phase }, { on := 4, ground := Ground.phase }, { on := 5, ground := Ground.phase }, { on := 6, ground := Ground.phase }, { on := 7, ground := Ground.phase }, { on := 8, ground := Ground.phase }, { on := 9, ground := Ground.phase }, { on := 10, ground := Ground.phase }], guard := none }) (v := .int .i64 0) rfl (by kernel_rfl) (by kernel_rfl) (by kernel_rfl) (fun _ _ _ h => h) (Or.inl ⟨by rfl, fun w' hSw => by clear hSw; go_simp⟩) (by assumption) ?_
            simp only [Act.put, List.setIfInBounds_toArray, List.set_cons_zero, List.set_cons_succ]
            refine wpAnyH_done (by kernel_rfl) ?_ _
            refine NoPanic.normal ?_
            go_wp2_with fail
            go_meet
            have hb := Bxd.before (a := a) (k := k) (v := v) (r := r) (h := h) (o2 (o2 (onlyA wc _) (onlyA _ _)) (Only.drew _ _)) ((Pag.new wc (.int .i64 0) (.int .i64 0) (.int .i64 0) (.int .i64 0) (.string ⟨#[]⟩) (.slice none 0 0)).more (o2 (onlyA _ _) (Only.drew _ _))) (by omega) HQ2.out
            exact ⟨_, B2, ao2, cp2, rfl, rfl, hide hb⟩
        case rest =>
          obtain ⟨bx, B2, ao2, cp2, rfl, rfl, HX⟩ := hcut
          obtain ⟨o5, e5, _⟩ := HX.out.strs.at_ hpos
          subst e5
          have HE := hide (Fe.mk (w := w) (HP3.out.more HX.out.only) (HS3.out.more HX.out.only) HX.out.pag HX.out.strs (o2 HO3.out HX.out.only))
          have HOUT := hide (out_some _ a k v r h B2 B2 o5 cp2 nl i HX.out.strs HX.out.fit hinl)
          rw [HNL.out] at HOUT
          obtain ⟨q0, q1, q2, q3, q4, q5, _⟩ := HE.out.px
          go_wp2_with fail
          refine HOUT.out.mono ?_
          rintro e w5 ⟨B5, ao5, cp5, rfl, hs5, hf5, ho5, _⟩
          simp only at hs5 hf5 ⊢
          have HS5 := hide hs5
          have HE5 := hide (HE.out.more ho5)
          clear q0 q1 q2 q3 q4 q5 ho5 hs5 hf5 HOUT
          go_upto_region 13 with fail
          obtain ⟨W6, hW6⟩ : ∃ W6, w5.alloc (.cells #[.int .i64 a, .int .i64 k, .int .i64 v, .int .i64 r, .string h, .slice ao5 l.length cp5] 24) = W6 := ⟨_, rfl⟩
          have HP6 := hide (Pag.new w5 (.int .i64 a) (.int .i64 k) (.int .i64 v) (.int .i64 r) (.string h) (.slice ao5 l.length cp5))
          have HA6 := hide (onlyA w5 (.cells #[.int .i64 a, .int .i64 k, .int .i64 v, .int .i64 r, .string h, .slice ao5 l.length cp5] 24))
          rw [hW6] at HP6 HA6 ⊢
          clear hW6
          have HS6 := hide (HS5.out.more HA6.out)
          have HE6 := hide (HE5.out.more HA6.out)
          obtain ⟨q0, q1, q2, q3, q4, q5, _⟩ := HE6.out.px
          go_wp2_with fail
          have he := pencode_any W6 a k v r h B2 cp2 (some ⟨B2, o5, none⟩) nl HE6.out.sx hh ha
          rw [HV2.out] at he
          refine Calls.mono he ?_
          clear he
          rintro e w7 ⟨rfl, ho7⟩
          simp only
          obtain ⟨E7, hE7⟩ : ∃ E7, str (Pg.enc ⟨a, k, v, r, h, nl⟩) = E7 := ⟨_, rfl⟩
          rw [hE7]
          have HE7 := hide (HE6.out.more ho7)
          have HS7 := hide (HS6.out.more ho7)
          have HP7 := hide (HP6.out.more ho7)
          clear hE7 ho7 q0 q1 q2 q3 q4 q5
          go_wp2_with fail
          refine (awake_any w7).mono ?_
          rintro e w8 ⟨rfl, ho8⟩
          have HE8 := hide (HE7.out.more ho8)
          have HS8 := hide (HS7.out.more ho8)
          have HP8 := hide (HP7.out.more ho8)
          clear ho8
          obtain ⟨q0, q1, q2, q3, q4, q5, _⟩ := HP8.out
          obtain ⟨p0, p1, p2, p3, p4, p5, _⟩ := HE8.out.pp
          go_wp2_with fail
          have hsm := psame_any w8 a k v r a k v r h h B5 B cp5 cp ao5 ao l l HS8.out HE8.out.sp
          rw [show decide (a = a ∧ k = k ∧ v = v ∧ r = r ∧ h = h ∧ l = l) = true by simp] at hsm
          refine Calls.mono hsm ?_
          clear hsm
          rintro e w9 ⟨rfl, ho9⟩
          have HE9 := hide (HE8.out.more ho9)
          clear ho9 q0 q1 q2 q3 q4 q5 p0 p1 p2 p3 p4 p5
          obtain ⟨q0, q1, q2, q3, q4, q5, _⟩ := HE9.out.px
          go_wp2_with fail
          have hsz := psize_any w9 a k v r h B2 cp2 (some ⟨B2, o5, none⟩) nl HE9.out.sx hh
          rw [show wrap64 (20 + (h.size : Int) + (isz nl : Int)) = 512 from by rw [show (20 + (h.size : Int) + (isz nl : Int)) = 512 by omega]; exact w64_id 512 (by decide)] at hsz
          refine Calls.mono hsz ?_
          clear hsz
          rintro e w10 ⟨rfl, ho10⟩
          have HO10 := hide (o2 HE9.out.only ho10)
          clear ho10 q0 q1 q2 q3 q4 q5
          go_wp2_with fail
          go_ret
          exact ⟨rfl, HO10.out⟩
  · have hx : ∃ c : Int, Pg.out ⟨a, k, v, r, h, l⟩ = ([], c) ∧ (c != 0) = true := by
      by_cases h1 : Pg.inRange ⟨a, k, v, r, h, l⟩
      · by_cases h2 : Pg.fits ⟨a, k, v, r, h, l⟩
        · exact absurd ⟨h1, h2⟩ hv
        · exact ⟨3, out_long h1 h2, rfl⟩
      · exact ⟨4, out_range h1, rfl⟩
    obtain ⟨c, hc, hcc⟩ := hx
    rw [hc]
    clear hc hv
    have he : str [] = ⟨#[]⟩ := rfl
    simp only [he]
    clear he
    go_wp2_with fail
    refine (awake_any _).mono ?_
    rintro e w2 ⟨rfl, ho2⟩
    have HO2 := hide (o2 HO1.out ho2)
    clear ho2
    go_wp2_with fail
    go_ret
    exact ⟨rfl, HO2.out⟩
end Go.Proofs.YtomkoklahlmbmaaDoor
