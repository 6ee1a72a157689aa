/- What the document's Decode does. -/
import Derived.Test.YtpogphaflhfmbaaGDecC
namespace Go.Proofs.Ytpogphaflhfmbaa
open Go.RowKit

theorem Cb.four {w : World} {b : Nat} {x y z t n s k f m l p : Int} (h : Cb w b ⟨x, y, z, t, n, s, k⟩) : Cb ((((w.setCell ⟨b, 0, none⟩ (.int .i64 f)).setCell ⟨b, 1, none⟩ (.int .i64 m)).setCell ⟨b, 2, none⟩ (.int .i64 l)).setCell ⟨b, 3, none⟩ (.int .i64 p)) b ⟨f, m, l, p, n, s, k⟩ :=
  ⟨(othG _ _ _ _ _ _ (by omega) (othG _ _ _ _ _ _ (by omega) (othG _ _ _ _ _ _ (by omega) (World.cell?_setCell_same _ _ _ h.c0)))), (othG _ _ _ _ _ _ (by omega) (othG _ _ _ _ _ _ (by omega) (World.cell?_setCell_same _ _ _ (othG _ _ _ _ _ _ (by omega) h.c1)))), (othG _ _ _ _ _ _ (by omega) (World.cell?_setCell_same _ _ _ (othG _ _ _ _ _ _ (by omega) (othG _ _ _ _ _ _ (by omega) h.c2)))), (World.cell?_setCell_same _ _ _ (othG _ _ _ _ _ _ (by omega) (othG _ _ _ _ _ _ (by omega) (othG _ _ _ _ _ _ (by omega) h.c3)))), (othG _ _ _ _ _ _ (by omega) (othG _ _ _ _ _ _ (by omega) (othG _ _ _ _ _ _ (by omega) (othG _ _ _ _ _ _ (by omega) h.c4)))), (othG _ _ _ _ _ _ (by omega) (othG _ _ _ _ _ _ (by omega) (othG _ _ _ _ _ _ (by omega) (othG _ _ _ _ _ _ (by omega) h.c5)))), (othG _ _ _ _ _ _ (by omega) (othG _ _ _ _ _ _ (by omega) (othG _ _ _ _ _ _ (by omega) (othG _ _ _ _ _ _ (by omega) h.c6)))), by simpa using h.f0, by simpa using h.f1, by simpa using h.f2, by simpa using h.f3, by simpa using h.f4, by simpa using h.f5, by simpa using h.f6, by simpa using h.lt⟩
theorem Only.fourG (w : World) (b : Nat) (v0 v1 v2 v3 : Value) : Only (fun k => k = b) w ((((w.setCell ⟨b, 0, none⟩ v0).setCell ⟨b, 1, none⟩ v1).setCell ⟨b, 2, none⟩ v2).setCell ⟨b, 3, none⟩ v3) := by
  have st : ∀ (W : World) (i : Nat) (v : Value), Only (fun k => k = b) W (W.setCell ⟨b, i, none⟩ v) := fun W i v => Only.setCell W ⟨b, i, none⟩ v rfl
  exact (((st _ 0 _).trans (st _ 1 _) (fun _ _ h => h)).trans (st _ 2 _) (fun _ _ h => h)).trans (st _ 3 _) (fun _ _ h => h)
set_option maxRecDepth 100000 in
set_option maxHeartbeats 3200000 in
theorem rdecode_size (s : ByteArray) (z : Int) (w : World) (h : ¬ s.size = 64) :
    Calls Try.prog 19 #[.string s, .int .i64 z] w fun e w' => e = .returned (.tuple #[noC.agg, .int .i64 223]) ∧ Only (fun _ => False) w w' := by
  have HB := hide (Cb.new w noC)
  have HO := hide (onlyA w (.cells #[.int .i64 0, .int .i64 0, .int .i64 0, .int .i64 0, .int .i64 0, .int .i64 0, .int .i64 0] 25))
  have hlt : w.heap.size ≤ w.heap.size := Nat.le_refl _
  unfold noC at HB
  simp only at HB
  obtain ⟨W0, hW0⟩ : ∃ x, w.alloc (.cells #[.int .i64 0, .int .i64 0, .int .i64 0, .int .i64 0, .int .i64 0, .int .i64 0, .int .i64 0] 25) = x := ⟨_, rfl⟩
  rw [hW0] at HB HO
  have hs : ((s.size : Int) != 64) = true := by
    have : ¬ (s.size : Int) = 64 := by omega
    simpa using this
  have hs2 : ¬ (s.size : Int) = 64 := by omega
  go_enter Try.func19, Try.ntmps19
  go_upto_region 1 with fail
  clear hW0
  obtain ⟨c0, c1, c2, c3, c4, c5, c6, cf0, cf1, cf2, cf3, cf4, cf5, cf6, _⟩ := HB.out
  go_wp2_with fail
  refine bodyPost_ret (results_ct rfl rfl (HB.out.all noC)) rfl ?_
  exact ⟨rfl, newer w.heap.size (Only.seven _ _ _ _ _ _ _ _ _) HO.out hlt⟩
set_option maxRecDepth 100000 in
set_option maxHeartbeats 3200000 in
theorem rdecode_notok (s : ByteArray) (z : Int) (w : World) (h : s.size = 64) (hok : ¬ (rdC (bl s)).ok) :
    Calls Try.prog 19 #[.string s, .int .i64 z] w fun e w' => e = .returned (.tuple #[noC.agg, .int .i64 223]) ∧ Only (fun _ => False) w w' := by
  obtain ⟨c, hc⟩ : ∃ c, rdC (bl s) = c := ⟨_, rfl⟩
  obtain ⟨T1, hT1⟩ : ∃ T, s.extract 4 8 = T := ⟨_, rfl⟩
  have HG1 : Hid (∀ W, Calls Try.prog 27 #[.string T1] W fun e w' => e = .returned (.int .i64 c.f) ∧ w' = W) := fun W => by
    have h := rof_any T1 W (by rw [← hT1, part_size s 4 8 (by omega) (by omega)]; omega)
    rw [← hT1, ext_blG] at h
    rw [← hT1, ← hc]
    exact h
  obtain ⟨T2, hT2⟩ : ∃ T, s.extract 8 12 = T := ⟨_, rfl⟩
  have HG2 : Hid (∀ W, Calls Try.prog 27 #[.string T2] W fun e w' => e = .returned (.int .i64 c.m) ∧ w' = W) := fun W => by
    have h := rof_any T2 W (by rw [← hT2, part_size s 8 12 (by omega) (by omega)]; omega)
    rw [← hT2, ext_blG] at h
    rw [← hT2, ← hc]
    exact h
  obtain ⟨T3, hT3⟩ : ∃ T, s.extract 12 16 = T := ⟨_, rfl⟩
  have HG3 : Hid (∀ W, Calls Try.prog 27 #[.string T3] W fun e w' => e = .returned (.int .i64 c.l) ∧ w' = W) := fun W => by
    have h := rof_any T3 W (by rw [← hT3, part_size s 12 16 (by omega) (by omega)]; omega)
    rw [← hT3, ext_blG] at h
    rw [← hT3, ← hc]
    exact h
  obtain ⟨T4, hT4⟩ : ∃ T, s.extract 16 20 = T := ⟨_, rfl⟩
  have HG4 : Hid (∀ W, Calls Try.prog 27 #[.string T4] W fun e w' => e = .returned (.int .i64 c.p) ∧ w' = W) := fun W => by
    have h := rof_any T4 W (by rw [← hT4, part_size s 16 20 (by omega) (by omega)]; omega)
    rw [← hT4, ext_blG] at h
    rw [← hT4, ← hc]
    exact h
  obtain ⟨T5, hT5⟩ : ∃ T, s.extract 0 4 = T := ⟨_, rfl⟩
  have HG5 : Hid (∀ W, Calls Try.prog 27 #[.string T5] W fun e w' => e = .returned (.int .i64 c.n) ∧ w' = W) := fun W => by
    have h := rof_any T5 W (by rw [← hT5, part_size s 0 4 (by omega) (by omega)]; omega)
    rw [← hT5, ext_blG] at h
    rw [← hT5, ← hc]
    exact h
  obtain ⟨T6, hT6⟩ : ∃ T, s.extract 20 26 = T := ⟨_, rfl⟩
  have HG6 : Hid (∀ W, Calls Try.prog 27 #[.string T6] W fun e w' => e = .returned (.int .i64 c.s) ∧ w' = W) := fun W => by
    have h := rof_any T6 W (by rw [← hT6, part_size s 20 26 (by omega) (by omega)]; omega)
    rw [← hT6, ext_blG] at h
    rw [← hT6, ← hc]
    exact h
  obtain ⟨T7, hT7⟩ : ∃ T, s.extract 26 32 = T := ⟨_, rfl⟩
  have HG7 : Hid (∀ W, Calls Try.prog 27 #[.string T7] W fun e w' => e = .returned (.int .i64 c.k) ∧ w' = W) := fun W => by
    have h := rof_any T7 W (by rw [← hT7, part_size s 26 32 (by omega) (by omega)]; omega)
    rw [← hT7, ext_blG] at h
    rw [← hT7, ← hc]
    exact h
  have hn : 0 ≤ c.n := by have := (rdC_bd (bl s) (by rw [bl_len]; omega)).2.2.2.2.1.1; rw [hc] at this; exact this
  rw [hc] at hok
  clear hc
  have HE := hide (fun W => rencode_any c W)
  have hr : c.out = .tuple #[.string ⟨#[]⟩, .int .i64 1] := if_neg hok
  rw [hr] at HE
  clear hr hok
  have g4 : ¬ (s.size : Int) < 4 := by omega
  have g8 : ¬ (s.size : Int) < 8 := by omega
  have g12 : ¬ (s.size : Int) < 12 := by omega
  have g16 : ¬ (s.size : Int) < 16 := by omega
  have g20 : ¬ (s.size : Int) < 20 := by omega
  have g26 : ¬ (s.size : Int) < 26 := by omega
  have g32 : ¬ (s.size : Int) < 32 := by omega
  clear hn
  have hs : ((s.size : Int) != 64) = false := by
    have : (s.size : Int) = 64 := by omega
    simpa using this
  clear h
  unfold Ct.agg at HE
  have HB := hide (Cb.new w noC)
  have HO := hide (onlyA w (.cells #[.int .i64 0, .int .i64 0, .int .i64 0, .int .i64 0, .int .i64 0, .int .i64 0, .int .i64 0] 25))
  have hlt : w.heap.size ≤ w.heap.size := Nat.le_refl _
  unfold noC at HB
  simp only at HB
  obtain ⟨W0, hW0⟩ : ∃ x, w.alloc (.cells #[.int .i64 0, .int .i64 0, .int .i64 0, .int .i64 0, .int .i64 0, .int .i64 0, .int .i64 0] 25) = x := ⟨_, rfl⟩
  rw [hW0] at HB HO
  go_enter Try.func19, Try.ntmps19
  go_upto_region 3 with fail
  clear hW0
  go_cut [6] (fun t wc => t = .pointer (some ⟨W0.heap.size, 0, none⟩) ∧ Hid (Cb wc W0.heap.size ⟨0, 0, 0, 0, c.n, c.s, c.k⟩) ∧ Hid (Only (fun _ => False) W0 wc))
  case first =>
    have HN := hide (Cb.new W0 ⟨0, 0, 0, 0, c.n, c.s, c.k⟩)
    simp only at HN
    refine wp_region_noPanic ?_
    refine wp_region_held_drew (S := fun W => Only (fun _ => False) W0 W) (by kernel_rfl) (Only.drew _ _) (fun hHeld => ?_)
    refine wpAnyH_take (i := 0) (oi := { dst := some 13, op := Op.move (Operand.tmp 0), type := 9, pos := "ref.go:56", after := #[], guard := none }) (v := .string s) rfl (by kernel_rfl) (by kernel_rfl) (by kernel_rfl) (fun _ _ _ h => h) (Or.inl ⟨by rfl, fun w' hSw => by clear hSw; go_simp⟩) (by assumption) ?_
    simp only [Act.put, List.setIfInBounds_toArray, List.set_cons_zero, List.set_cons_succ]
    refine wpAnyH_take (i := 3) (oi := { dst := some 16, op := Op.move (Operand.tmp 0), type := 9, pos := "ref.go:56", after := #[], guard := none }) (v := .string s) rfl (by kernel_rfl) (by kernel_rfl) (by kernel_rfl) (fun _ _ _ h => h) (Or.inl ⟨by rfl, fun w' hSw => by clear hSw; go_simp⟩) (by assumption) ?_
    simp only [Act.put, List.setIfInBounds_toArray, List.set_cons_zero, List.set_cons_succ]
    refine wpAnyH_take (i := 6) (oi := { dst := some 19, op := Op.move (Operand.tmp 0), type := 9, pos := "ref.go:56", after := #[], guard := none }) (v := .string s) rfl (by kernel_rfl) (by kernel_rfl) (by kernel_rfl) (fun _ _ _ h => h) (Or.inl ⟨by rfl, fun w' hSw => by clear hSw; go_simp⟩) (by assumption) ?_
    simp only [Act.put, List.setIfInBounds_toArray, List.set_cons_zero, List.set_cons_succ]
    refine wpAnyH_take (i := 1) (oi := { dst := some 14, op := Op.slice 9 (Operand.tmp 13) none (some (Operand.const (Value.int IntKind.i64 4))) none, type := 9, pos := "ref.go:56", after := #[{ on := 0, ground := Ground.data }], guard := none }) (v := .string T5) rfl (by kernel_rfl) (by kernel_rfl) (by kernel_rfl) (fun _ _ _ h => h) (Or.inl ⟨by rfl, fun w' hSw => by clear hSw; go_simp⟩) (by assumption) ?_
    simp only [Act.put, List.setIfInBounds_toArray, List.set_cons_zero, List.set_cons_succ]
    refine wpAnyH_take (i := 4) (oi := { dst := some 17, op := Op.slice 9 (Operand.tmp 16) (some (Operand.const (Value.int IntKind.i64 20))) (some (Operand.const (Value.int IntKind.i64 26))) none, type := 9, pos := "ref.go:56", after := #[{ on := 3, ground := Ground.data }], guard := none }) (v := .string T6) rfl (by kernel_rfl) (by kernel_rfl) (by kernel_rfl) (fun _ _ _ h => h) (Or.inl ⟨by rfl, fun w' hSw => by clear hSw; go_simp⟩) (by assumption) ?_
    simp only [Act.put, List.setIfInBounds_toArray, List.set_cons_zero, List.set_cons_succ]
    refine wpAnyH_take (i := 7) (oi := { dst := some 20, op := Op.slice 9 (Operand.tmp 19) (some (Operand.const (Value.int IntKind.i64 26))) (some (Operand.const (Value.int IntKind.i64 32))) none, type := 9, pos := "ref.go:56", after := #[{ on := 6, ground := Ground.data }], guard := none }) (v := .string T7) rfl (by kernel_rfl) (by kernel_rfl) (by kernel_rfl) (fun _ _ _ h => h) (Or.inl ⟨by rfl, fun w' hSw => by clear hSw; go_simp⟩) (by assumption) ?_
    simp only [Act.put, List.setIfInBounds_toArray, List.set_cons_zero, List.set_cons_succ]
    refine wpAnyH_ready (rs := [2, 10]) (by kernel_rfl) (by simp) ?_
    refine AllReadyH.cons (o := { dst := some 15, op := Op.call { callee := Callee.value (Operand.func 27), args := #[Operand.tmp 14], argTypes := #[9] }, type := 3, pos := "ref.go:56", after := #[{ on := 1, ground := Ground.data }], guard := none }) rfl (fun K hK => ?_) (AllReadyH.cons (o := { dst := some 6, op := Op.alloc 25, type := 0, pos := "ref.go:56", after := #[], guard := none }) rfl (fun K hK => ?_) (AllReadyH.nil))
    · go_simp
      refine (HG5.out _).mono ?_
      rintro e y ⟨rfl, hy⟩
      obtain rfl := hy.symm
      clear hy
      refine hK.out _ _ (Only.drew _ _) (fun hHeld => ?_)
      clear hK K
      try simp only [Act.put, List.setIfInBounds_toArray, List.set_cons_zero, List.set_cons_succ]
      refine wpAnyH_ready (rs := [5, 10]) (by kernel_rfl) (by simp) ?_
      refine AllReadyH.cons (o := { dst := some 18, op := Op.call { callee := Callee.value (Operand.func 27), args := #[Operand.tmp 17], argTypes := #[9] }, type := 3, pos := "ref.go:56", after := #[{ on := 4, ground := Ground.data }, { on := 2, ground := Ground.chain }], guard := none }) rfl (fun K hK => ?_) (AllReadyH.cons (o := { dst := some 6, op := Op.alloc 25, type := 0, pos := "ref.go:56", after := #[], guard := none }) rfl (fun K hK => ?_) (AllReadyH.nil))
      · go_simp
        refine (HG6.out _).mono ?_
        rintro e y ⟨rfl, hy⟩
        obtain rfl := hy.symm
        clear hy
        refine hK.out _ _ (Only.drew _ _) (fun hHeld => ?_)
        clear hK K
        try simp only [Act.put, List.setIfInBounds_toArray, List.set_cons_zero, List.set_cons_succ]
        refine wpAnyH_ready (rs := [8, 10]) (by kernel_rfl) (by simp) ?_
        refine AllReadyH.cons (o := { dst := some 21, op := Op.call { callee := Callee.value (Operand.func 27), args := #[Operand.tmp 20], argTypes := #[9] }, type := 3, pos := "ref.go:56", after := #[{ on := 7, ground := Ground.data }, { on := 5, ground := Ground.chain }], guard := none }) rfl (fun K hK => ?_) (AllReadyH.cons (o := { dst := some 6, op := Op.alloc 25, type := 0, pos := "ref.go:56", after := #[], guard := none }) rfl (fun K hK => ?_) (AllReadyH.nil))
        · go_simp
          refine (HG7.out _).mono ?_
          rintro e y ⟨rfl, hy⟩
          obtain rfl := hy.symm
          clear hy
          refine hK.out _ _ (Only.drew _ _) (fun hHeld => ?_)
          clear hK K
          try simp only [Act.put, List.setIfInBounds_toArray, List.set_cons_zero, List.set_cons_succ]
          refine wpAnyH_take (i := 9) (oi := { dst := some 22, op := Op.build 25 #[(1, Operand.tmp 15), (2, Operand.tmp 18), (3, Operand.tmp 21)], type := 25, pos := "ref.go:56", after := #[{ on := 2, ground := Ground.data }, { on := 5, ground := Ground.data }, { on := 8, ground := Ground.data }], guard := none }) (v := .agg #[.int .i64 0, .int .i64 0, .int .i64 0, .int .i64 0, .int .i64 c.n, .int .i64 c.s, .int .i64 c.k]) rfl (by kernel_rfl) (by kernel_rfl) (by kernel_rfl) (fun _ _ _ h => h) (Or.inl ⟨by rfl, fun w' hSw => by clear hSw; go_simp⟩) (by assumption) ?_
          simp only [Act.put, List.setIfInBounds_toArray, List.set_cons_zero, List.set_cons_succ]
          refine wpAnyH_ready (rs := [10]) (by kernel_rfl) (by simp) ?_
          refine AllReadyH.cons (o := { dst := some 6, op := Op.alloc 25, type := 0, pos := "ref.go:56", after := #[], guard := none }) rfl (fun K hK => ?_) (AllReadyH.nil)
          go_simp
          refine hK.out _ _ (o2 (onlyA _ _) (Only.drew _ _)) (fun hHeld => ?_)
          clear hK K
          try simp only [Act.put, List.setIfInBounds_toArray, List.set_cons_zero, List.set_cons_succ]
          refine wpAnyH_ready (rs := [11]) (by kernel_rfl) (by simp) ?_
          refine AllReadyH.cons (o := { dst := none, op := Op.store 25 (Operand.tmp 6) (Operand.tmp 22), type := 0, pos := "ref.go:56", after := #[{ on := 10, ground := Ground.data }, { on := 9, ground := Ground.data }, { on := 8, ground := Ground.chain }, { on := 0, ground := Ground.phase }, { on := 1, ground := Ground.phase }, { on := 2, ground := Ground.phase }, { on := 3, ground := Ground.phase }, { on := 4, ground := Ground.phase }, { on := 5, ground := Ground.phase }, { on := 6, ground := Ground.phase }, { on := 7, ground := Ground.phase }, { on := 8, ground := Ground.phase }, { on := 9, ground := Ground.phase }, { on := 10, ground := Ground.phase }], guard := none }) rfl (fun K hK => ?_) (AllReadyH.nil)
          go_simp
          refine hK.out _ _ (o2 (onlyA _ _) (Only.drew _ _)) (fun hHeld => ?_)
          clear hK K
          try simp only [Act.put, List.setIfInBounds_toArray, List.set_cons_zero, List.set_cons_succ]
          refine wpAnyH_done (by kernel_rfl) ?_ _
          refine NoPanic.normal ?_
          go_wp2_with fail
          go_meet
          exact ⟨rfl, HN.out.more (Only.drew _ _), o2 (onlyA _ _) (Only.drew _ _)⟩
        · go_simp
          refine hK.out _ _ (o2 (onlyA _ _) (Only.drew _ _)) (fun hHeld => ?_)
          clear hK K
          try simp only [Act.put, List.setIfInBounds_toArray, List.set_cons_zero, List.set_cons_succ]
          refine wpAnyH_ready (rs := [8]) (by kernel_rfl) (by simp) ?_
          refine AllReadyH.cons (o := { dst := some 21, op := Op.call { callee := Callee.value (Operand.func 27), args := #[Operand.tmp 20], argTypes := #[9] }, type := 3, pos := "ref.go:56", after := #[{ on := 7, ground := Ground.data }, { on := 5, ground := Ground.chain }], guard := none }) rfl (fun K hK => ?_) (AllReadyH.nil)
          go_simp
          refine (HG7.out _).mono ?_
          rintro e y ⟨rfl, hy⟩
          obtain rfl := hy.symm
          clear hy
          refine hK.out _ _ (o2 (onlyA _ _) (Only.drew _ _)) (fun hHeld => ?_)
          clear hK K
          try simp only [Act.put, List.setIfInBounds_toArray, List.set_cons_zero, List.set_cons_succ]
          refine wpAnyH_take (i := 9) (oi := { dst := some 22, op := Op.build 25 #[(1, Operand.tmp 15), (2, Operand.tmp 18), (3, Operand.tmp 21)], type := 25, pos := "ref.go:56", after := #[{ on := 2, ground := Ground.data }, { on := 5, ground := Ground.data }, { on := 8, ground := Ground.data }], guard := none }) (v := .agg #[.int .i64 0, .int .i64 0, .int .i64 0, .int .i64 0, .int .i64 c.n, .int .i64 c.s, .int .i64 c.k]) rfl (by kernel_rfl) (by kernel_rfl) (by kernel_rfl) (fun _ _ _ h => h) (Or.inl ⟨by rfl, fun w' hSw => by clear hSw; go_simp⟩) (by assumption) ?_
          simp only [Act.put, List.setIfInBounds_toArray, List.set_cons_zero, List.set_cons_succ]
          refine wpAnyH_ready (rs := [11]) (by kernel_rfl) (by simp) ?_
          refine AllReadyH.cons (o := { dst := none, op := Op.store 25 (Operand.tmp 6) (Operand.tmp 22), type := 0, pos := "ref.go:56", after := #[{ on := 10, ground := Ground.data }, { on := 9, ground := Ground.data }, { on := 8, ground := Ground.chain }, { on := 0, ground := Ground.phase }, { on := 1, ground := Ground.phase }, { on := 2, ground := Ground.phase }, { on := 3, ground := Ground.phase }, { on := 4, ground := Ground.phase }, { on := 5, ground := Ground.phase }, { on := 6, ground := Ground.phase }, { on := 7, ground := Ground.phase }, { on := 8, ground := Ground.phase }, { on := 9, ground := Ground.phase }, { on := 10, ground := Ground.phase }], guard := none }) rfl (fun K hK => ?_) (AllReadyH.nil)
          go_simp
          refine hK.out _ _ (o2 (onlyA _ _) (Only.drew _ _)) (fun hHeld => ?_)
          clear hK K
          try simp only [Act.put, List.setIfInBounds_toArray, List.set_cons_zero, List.set_cons_succ]
          refine wpAnyH_done (by kernel_rfl) ?_ _
          refine NoPanic.normal ?_
          go_wp2_with fail
          go_meet
          exact ⟨rfl, HN.out.more (Only.drew _ _), o2 (onlyA _ _) (Only.drew _ _)⟩
      · go_simp
        refine hK.out _ _ (o2 (onlyA _ _) (Only.drew _ _)) (fun hHeld => ?_)
        clear hK K
        try simp only [Act.put, List.setIfInBounds_toArray, List.set_cons_zero, List.set_cons_succ]
        refine wpAnyH_ready (rs := [5]) (by kernel_rfl) (by simp) ?_
        refine AllReadyH.cons (o := { dst := some 18, op := Op.call { callee := Callee.value (Operand.func 27), args := #[Operand.tmp 17], argTypes := #[9] }, type := 3, pos := "ref.go:56", after := #[{ on := 4, ground := Ground.data }, { on := 2, ground := Ground.chain }], guard := none }) rfl (fun K hK => ?_) (AllReadyH.nil)
        go_simp
        refine (HG6.out _).mono ?_
        rintro e y ⟨rfl, hy⟩
        obtain rfl := hy.symm
        clear hy
        refine hK.out _ _ (o2 (onlyA _ _) (Only.drew _ _)) (fun hHeld => ?_)
        clear hK K
        try simp only [Act.put, List.setIfInBounds_toArray, List.set_cons_zero, List.set_cons_succ]
        refine wpAnyH_ready (rs := [8]) (by kernel_rfl) (by simp) ?_
        refine AllReadyH.cons (o := { dst := some 21, op := Op.call { callee := Callee.value (Operand.func 27), args := #[Operand.tmp 20], argTypes := #[9] }, type := 3, pos := "ref.go:56", after := #[{ on := 7, ground := Ground.data }, { on := 5, ground := Ground.chain }], guard := none }) rfl (fun K hK => ?_) (AllReadyH.nil)
        go_simp
        refine (HG7.out _).mono ?_
        rintro e y ⟨rfl, hy⟩
        obtain rfl := hy.symm
        clear hy
        refine hK.out _ _ (o2 (onlyA _ _) (Only.drew _ _)) (fun hHeld => ?_)
        clear hK K
        try simp only [Act.put, List.setIfInBounds_toArray, List.set_cons_zero, List.set_cons_succ]
        refine wpAnyH_take (i := 9) (oi := { dst := some 22, op := Op.build 25 #[(1, Operand.tmp 15), (2, Operand.tmp 18), (3, Operand.tmp 21)], type := 25, pos := "ref.go:56", after := #[{ on := 2, ground := Ground.data }, { on := 5, ground := Ground.data }, { on := 8, ground := Ground.data }], guard := none }) (v := .agg #[.int .i64 0, .int .i64 0, .int .i64 0, .int .i64 0, .int .i64 c.n, .int .i64 c.s, .int .i64 c.k]) rfl (by kernel_rfl) (by kernel_rfl) (by kernel_rfl) (fun _ _ _ h => h) (Or.inl ⟨by rfl, fun w' hSw => by clear hSw; go_simp⟩) (by assumption) ?_
        simp only [Act.put, List.setIfInBounds_toArray, List.set_cons_zero, List.set_cons_succ]
        refine wpAnyH_ready (rs := [11]) (by kernel_rfl) (by simp) ?_
        refine AllReadyH.cons (o := { dst := none, op := Op.store 25 (Operand.tmp 6) (Operand.tmp 22), type := 0, pos := "ref.go:56", after := #[{ on := 10, ground := Ground.data }, { on := 9, ground := Ground.data }, { on := 8, ground := Ground.chain }, { on := 0, ground := Ground.phase }, { on := 1, ground := Ground.phase }, { on := 2, ground := Ground.phase }, { on := 3, ground := Ground.phase }, { on := 4, ground := Ground.phase }, { on := 5, ground := Ground.phase }, { on := 6, ground := Ground.phase }, { on := 7, ground := Ground.phase }, { on := 8, ground := Ground.phase }, { on := 9, ground := Ground.phase }, { on := 10, ground := Ground.phase }], guard := none }) rfl (fun K hK => ?_) (AllReadyH.nil)
        go_simp
        refine hK.out _ _ (o2 (onlyA _ _) (Only.drew _ _)) (fun hHeld => ?_)
        clear hK K
        try simp only [Act.put, List.setIfInBounds_toArray, List.set_cons_zero, List.set_cons_succ]
        refine wpAnyH_done (by kernel_rfl) ?_ _
        refine NoPanic.normal ?_
        go_wp2_with fail
        go_meet
        exact ⟨rfl, HN.out.more (Only.drew _ _), o2 (onlyA _ _) (Only.drew _ _)⟩
    · go_simp
      refine hK.out _ _ (o2 (onlyA _ _) (Only.drew _ _)) (fun hHeld => ?_)
      clear hK K
      try simp only [Act.put, List.setIfInBounds_toArray, List.set_cons_zero, List.set_cons_succ]
      refine wpAnyH_ready (rs := [2]) (by kernel_rfl) (by simp) ?_
      refine AllReadyH.cons (o := { dst := some 15, op := Op.call { callee := Callee.value (Operand.func 27), args := #[Operand.tmp 14], argTypes := #[9] }, type := 3, pos := "ref.go:56", after := #[{ on := 1, ground := Ground.data }], guard := none }) rfl (fun K hK => ?_) (AllReadyH.nil)
      go_simp
      refine (HG5.out _).mono ?_
      rintro e y ⟨rfl, hy⟩
      obtain rfl := hy.symm
      clear hy
      refine hK.out _ _ (o2 (onlyA _ _) (Only.drew _ _)) (fun hHeld => ?_)
      clear hK K
      try simp only [Act.put, List.setIfInBounds_toArray, List.set_cons_zero, List.set_cons_succ]
      refine wpAnyH_ready (rs := [5]) (by kernel_rfl) (by simp) ?_
      refine AllReadyH.cons (o := { dst := some 18, op := Op.call { callee := Callee.value (Operand.func 27), args := #[Operand.tmp 17], argTypes := #[9] }, type := 3, pos := "ref.go:56", after := #[{ on := 4, ground := Ground.data }, { on := 2, ground := Ground.chain }], guard := none }) rfl (fun K hK => ?_) (AllReadyH.nil)
      go_simp
      refine (HG6.out _).mono ?_
      rintro e y ⟨rfl, hy⟩
      obtain rfl := hy.symm
      clear hy
      refine hK.out _ _ (o2 (onlyA _ _) (Only.drew _ _)) (fun hHeld => ?_)
      clear hK K
      try simp only [Act.put, List.setIfInBounds_toArray, List.set_cons_zero, List.set_cons_succ]
      refine wpAnyH_ready (rs := [8]) (by kernel_rfl) (by simp) ?_
      refine AllReadyH.cons (o := { dst := some 21, op := Op.call { callee := Callee.value (Operand.func 27), args := #[Operand.tmp 20], argTypes := #[9] }, type := 3, pos := "ref.go:56", after := #[{ on := 7, ground := Ground.data }, { on := 5, ground := Ground.chain }], guard := none }) rfl (fun K hK => ?_) (AllReadyH.nil)
      go_simp
      refine (HG7.out _).mono ?_
      rintro e y ⟨rfl, hy⟩
      obtain rfl := hy.symm
      clear hy
      refine hK.out _ _ (o2 (onlyA _ _) (Only.drew _ _)) (fun hHeld => ?_)
      clear hK K
      try simp only [Act.put, List.setIfInBounds_toArray, List.set_cons_zero, List.set_cons_succ]
      refine wpAnyH_take (i := 9) (oi := { dst := some 22, op := Op.build 25 #[(1, Operand.tmp 15), (2, Operand.tmp 18), (3, Operand.tmp 21)], type := 25, pos := "ref.go:56", after := #[{ on := 2, ground := Ground.data }, { on := 5, ground := Ground.data }, { on := 8, ground := Ground.data }], guard := none }) (v := .agg #[.int .i64 0, .int .i64 0, .int .i64 0, .int .i64 0, .int .i64 c.n, .int .i64 c.s, .int .i64 c.k]) rfl (by kernel_rfl) (by kernel_rfl) (by kernel_rfl) (fun _ _ _ h => h) (Or.inl ⟨by rfl, fun w' hSw => by clear hSw; go_simp⟩) (by assumption) ?_
      simp only [Act.put, List.setIfInBounds_toArray, List.set_cons_zero, List.set_cons_succ]
      refine wpAnyH_ready (rs := [11]) (by kernel_rfl) (by simp) ?_
      refine AllReadyH.cons (o := { dst := none, op := Op.store 25 (Operand.tmp 6) (Operand.tmp 22), type := 0, pos := "ref.go:56", after := #[{ on := 10, ground := Ground.data }, { on := 9, ground := Ground.data }, { on := 8, ground := Ground.chain }, { on := 0, ground := Ground.phase }, { on := 1, ground := Ground.phase }, { on := 2, ground := Ground.phase }, { on := 3, ground := Ground.phase }, { on := 4, ground := Ground.phase }, { on := 5, ground := Ground.phase }, { on := 6, ground := Ground.phase }, { on := 7, ground := Ground.phase }, { on := 8, ground := Ground.phase }, { on := 9, ground := Ground.phase }, { on := 10, ground := Ground.phase }], guard := none }) rfl (fun K hK => ?_) (AllReadyH.nil)
      go_simp
      refine hK.out _ _ (o2 (onlyA _ _) (Only.drew _ _)) (fun hHeld => ?_)
      clear hK K
      try simp only [Act.put, List.setIfInBounds_toArray, List.set_cons_zero, List.set_cons_succ]
      refine wpAnyH_done (by kernel_rfl) ?_ _
      refine NoPanic.normal ?_
      go_wp2_with fail
      go_meet
      exact ⟨rfl, HN.out.more (Only.drew _ _), o2 (onlyA _ _) (Only.drew _ _)⟩
  case rest =>
    obtain ⟨rfl, HC3, HO3⟩ := hcut
    have HB3 := hide (HB.out.more HO3.out)
    have hlt3 : W0.heap.size ≤ W0.heap.size := Nat.le_refl _
    go_upto_region 4 with fail
    obtain ⟨c0, c1, c2, c3, c4, c5, c6, cf0, cf1, cf2, cf3, cf4, cf5, cf6, _⟩ := HC3.out
    refine wp_region_noPanic ?_
    refine wp_region_held_drew (S := fun W => Only (fun k => k = W0.heap.size) wc W) (by kernel_rfl) (Only.drew _ _) (fun hHeld => ?_)
    refine wpAnyH_take (i := 0) (oi := { dst := some 23, op := Op.move (Operand.tmp 0), type := 9, pos := "ref.go:57", after := #[], guard := none }) (v := .string s) rfl (by kernel_rfl) (by kernel_rfl) (by kernel_rfl) (fun _ _ _ h => h) (Or.inl ⟨by rfl, fun w' hSw => by clear hSw; go_simp⟩) (by assumption) ?_
    simp only [Act.put, List.setIfInBounds_toArray, List.set_cons_zero, List.set_cons_succ]
    refine wpAnyH_take (i := 3) (oi := { dst := some 26, op := Op.move (Operand.tmp 0), type := 9, pos := "ref.go:57", after := #[], guard := none }) (v := .string s) rfl (by kernel_rfl) (by kernel_rfl) (by kernel_rfl) (fun _ _ _ h => h) (Or.inl ⟨by rfl, fun w' hSw => by clear hSw; go_simp⟩) (by assumption) ?_
    simp only [Act.put, List.setIfInBounds_toArray, List.set_cons_zero, List.set_cons_succ]
    refine wpAnyH_take (i := 6) (oi := { dst := some 29, op := Op.move (Operand.tmp 0), type := 9, pos := "ref.go:57", after := #[], guard := none }) (v := .string s) rfl (by kernel_rfl) (by kernel_rfl) (by kernel_rfl) (fun _ _ _ h => h) (Or.inl ⟨by rfl, fun w' hSw => by clear hSw; go_simp⟩) (by assumption) ?_
    simp only [Act.put, List.setIfInBounds_toArray, List.set_cons_zero, List.set_cons_succ]
    refine wpAnyH_take (i := 9) (oi := { dst := some 32, op := Op.move (Operand.tmp 0), type := 9, pos := "ref.go:57", after := #[], guard := none }) (v := .string s) rfl (by kernel_rfl) (by kernel_rfl) (by kernel_rfl) (fun _ _ _ h => h) (Or.inl ⟨by rfl, fun w' hSw => by clear hSw; go_simp⟩) (by assumption) ?_
    simp only [Act.put, List.setIfInBounds_toArray, List.set_cons_zero, List.set_cons_succ]
    refine wpAnyH_take (i := 1) (oi := { dst := some 24, op := Op.slice 9 (Operand.tmp 23) (some (Operand.const (Value.int IntKind.i64 4))) (some (Operand.const (Value.int IntKind.i64 8))) none, type := 9, pos := "ref.go:57", after := #[{ on := 0, ground := Ground.data }], guard := none }) (v := .string T1) rfl (by kernel_rfl) (by kernel_rfl) (by kernel_rfl) (fun _ _ _ h => h) (Or.inl ⟨by rfl, fun w' hSw => by clear hSw; go_simp⟩) (by assumption) ?_
    simp only [Act.put, List.setIfInBounds_toArray, List.set_cons_zero, List.set_cons_succ]
    refine wpAnyH_take (i := 4) (oi := { dst := some 27, op := Op.slice 9 (Operand.tmp 26) (some (Operand.const (Value.int IntKind.i64 8))) (some (Operand.const (Value.int IntKind.i64 12))) none, type := 9, pos := "ref.go:57", after := #[{ on := 3, ground := Ground.data }], guard := none }) (v := .string T2) rfl (by kernel_rfl) (by kernel_rfl) (by kernel_rfl) (fun _ _ _ h => h) (Or.inl ⟨by rfl, fun w' hSw => by clear hSw; go_simp⟩) (by assumption) ?_
    simp only [Act.put, List.setIfInBounds_toArray, List.set_cons_zero, List.set_cons_succ]
    refine wpAnyH_take (i := 7) (oi := { dst := some 30, op := Op.slice 9 (Operand.tmp 29) (some (Operand.const (Value.int IntKind.i64 12))) (some (Operand.const (Value.int IntKind.i64 16))) none, type := 9, pos := "ref.go:57", after := #[{ on := 6, ground := Ground.data }], guard := none }) (v := .string T3) rfl (by kernel_rfl) (by kernel_rfl) (by kernel_rfl) (fun _ _ _ h => h) (Or.inl ⟨by rfl, fun w' hSw => by clear hSw; go_simp⟩) (by assumption) ?_
    simp only [Act.put, List.setIfInBounds_toArray, List.set_cons_zero, List.set_cons_succ]
    refine wpAnyH_take (i := 10) (oi := { dst := some 33, op := Op.slice 9 (Operand.tmp 32) (some (Operand.const (Value.int IntKind.i64 16))) (some (Operand.const (Value.int IntKind.i64 20))) none, type := 9, pos := "ref.go:57", after := #[{ on := 9, ground := Ground.data }], guard := none }) (v := .string T4) rfl (by kernel_rfl) (by kernel_rfl) (by kernel_rfl) (fun _ _ _ h => h) (Or.inl ⟨by rfl, fun w' hSw => by clear hSw; go_simp⟩) (by assumption) ?_
    simp only [Act.put, List.setIfInBounds_toArray, List.set_cons_zero, List.set_cons_succ]
    refine wpAnyH_ready (rs := [2]) (by kernel_rfl) (by simp) ?_
    refine AllReadyH.cons (o := { dst := some 25, op := Op.call { callee := Callee.value (Operand.func 27), args := #[Operand.tmp 24], argTypes := #[9] }, type := 3, pos := "ref.go:57", after := #[{ on := 1, ground := Ground.data }], guard := none }) rfl (fun K hK => ?_) (AllReadyH.nil)
    go_simp
    refine (HG1.out _).mono ?_
    rintro e y ⟨rfl, hy⟩
    obtain rfl := hy.symm
    clear hy
    refine hK.out _ _ (Only.drew _ _) (fun hHeld => ?_)
    clear hK K
    try simp only [Act.put, List.setIfInBounds_toArray, List.set_cons_zero, List.set_cons_succ]
    refine wpAnyH_ready (rs := [5]) (by kernel_rfl) (by simp) ?_
    refine AllReadyH.cons (o := { dst := some 28, op := Op.call { callee := Callee.value (Operand.func 27), args := #[Operand.tmp 27], argTypes := #[9] }, type := 3, pos := "ref.go:57", after := #[{ on := 4, ground := Ground.data }, { on := 2, ground := Ground.chain }], guard := none }) rfl (fun K hK => ?_) (AllReadyH.nil)
    go_simp
    refine (HG2.out _).mono ?_
    rintro e y ⟨rfl, hy⟩
    obtain rfl := hy.symm
    clear hy
    refine hK.out _ _ (Only.drew _ _) (fun hHeld => ?_)
    clear hK K
    try simp only [Act.put, List.setIfInBounds_toArray, List.set_cons_zero, List.set_cons_succ]
    refine wpAnyH_ready (rs := [8]) (by kernel_rfl) (by simp) ?_
    refine AllReadyH.cons (o := { dst := some 31, op := Op.call { callee := Callee.value (Operand.func 27), args := #[Operand.tmp 30], argTypes := #[9] }, type := 3, pos := "ref.go:57", after := #[{ on := 7, ground := Ground.data }, { on := 5, ground := Ground.chain }], guard := none }) rfl (fun K hK => ?_) (AllReadyH.nil)
    go_simp
    refine (HG3.out _).mono ?_
    rintro e y ⟨rfl, hy⟩
    obtain rfl := hy.symm
    clear hy
    refine hK.out _ _ (Only.drew _ _) (fun hHeld => ?_)
    clear hK K
    try simp only [Act.put, List.setIfInBounds_toArray, List.set_cons_zero, List.set_cons_succ]
    refine wpAnyH_ready (rs := [11]) (by kernel_rfl) (by simp) ?_
    refine AllReadyH.cons (o := { dst := some 34, op := Op.call { callee := Callee.value (Operand.func 27), args := #[Operand.tmp 33], argTypes := #[9] }, type := 3, pos := "ref.go:57", after := #[{ on := 10, ground := Ground.data }, { on := 8, ground := Ground.chain }], guard := none }) rfl (fun K hK => ?_) (AllReadyH.nil)
    go_simp
    refine (HG4.out _).mono ?_
    rintro e y ⟨rfl, hy⟩
    obtain rfl := hy.symm
    clear hy
    refine hK.out _ _ (Only.drew _ _) (fun hHeld => ?_)
    clear hK K
    try simp only [Act.put, List.setIfInBounds_toArray, List.set_cons_zero, List.set_cons_succ]
    refine wpAnyH_take (i := 12) (oi := { dst := some 35, op := Op.build 23 #[(0, Operand.tmp 25), (1, Operand.tmp 28), (2, Operand.tmp 31), (3, Operand.tmp 34)], type := 23, pos := "ref.go:57", after := #[{ on := 2, ground := Ground.data }, { on := 5, ground := Ground.data }, { on := 8, ground := Ground.data }, { on := 11, ground := Ground.data }], guard := none }) (v := .agg #[.int .i64 c.f, .int .i64 c.m, .int .i64 c.l, .int .i64 c.p]) rfl (by kernel_rfl) (by kernel_rfl) (by kernel_rfl) (fun _ _ _ h => h) (Or.inl ⟨by rfl, fun w' hSw => by clear hSw; go_simp⟩) (by assumption) ?_
    simp only [Act.put, List.setIfInBounds_toArray, List.set_cons_zero, List.set_cons_succ]
    refine wpAnyH_take (i := 13) (oi := { dst := some 36, op := Op.fieldAddr 25 (Operand.tmp 6) 0, type := 0, pos := "ref.go:57", after := #[{ on := 0, ground := Ground.phase }, { on := 1, ground := Ground.phase }, { on := 2, ground := Ground.phase }, { on := 3, ground := Ground.phase }, { on := 4, ground := Ground.phase }, { on := 5, ground := Ground.phase }, { on := 6, ground := Ground.phase }, { on := 7, ground := Ground.phase }, { on := 8, ground := Ground.phase }, { on := 9, ground := Ground.phase }, { on := 10, ground := Ground.phase }, { on := 11, ground := Ground.phase }, { on := 12, ground := Ground.phase }], guard := none }) (v := .pointer (some ⟨W0.heap.size, 0, none⟩)) rfl (by kernel_rfl) (by kernel_rfl) (by kernel_rfl) (fun _ _ _ h => h) (Or.inl ⟨by rfl, fun w' hSw => by clear hSw; go_simp⟩) (by assumption) ?_
    simp only [Act.put, List.setIfInBounds_toArray, List.set_cons_zero, List.set_cons_succ]
    refine wpAnyH_ready (rs := [14]) (by kernel_rfl) (by simp) ?_
    refine AllReadyH.cons (o := { dst := none, op := Op.store 23 (Operand.tmp 36) (Operand.tmp 35), type := 0, pos := "ref.go:57", after := #[{ on := 13, ground := Ground.data }, { on := 12, ground := Ground.data }, { on := 11, ground := Ground.chain }, { on := 0, ground := Ground.phase }, { on := 1, ground := Ground.phase }, { on := 2, ground := Ground.phase }, { on := 3, ground := Ground.phase }, { on := 4, ground := Ground.phase }, { on := 5, ground := Ground.phase }, { on := 6, ground := Ground.phase }, { on := 7, ground := Ground.phase }, { on := 8, ground := Ground.phase }, { on := 9, ground := Ground.phase }, { on := 10, ground := Ground.phase }, { on := 11, ground := Ground.phase }, { on := 12, ground := Ground.phase }], guard := none }) rfl (fun K hK => ?_) (AllReadyH.nil)
    go_simp
    refine hK.out _ _ ((Only.fourG _ _ _ _ _ _).trans (Only.drew _ _) (fun _ _ h => h)) (fun hHeld => ?_)
    clear hK K
    try simp only [Act.put, List.setIfInBounds_toArray, List.set_cons_zero, List.set_cons_succ]
    refine wpAnyH_done (by kernel_rfl) ?_ _
    refine NoPanic.normal ?_
    have HC4 := hide ((HC3.out.four (f := c.f) (m := c.m) (l := c.l) (p := c.p)).more (Only.drew (fun _ => False) _))
    have HO4 := hide ((Only.fourG wc W0.heap.size (.int .i64 c.f) (.int .i64 c.m) (.int .i64 c.l) (.int .i64 c.p)).trans (Only.drew _ _) (fun _ _ h => h))
    rw [Exit.then]
    obtain ⟨W4, hW4⟩ : ∃ x, World.drew ((((wc.setCell ⟨W0.heap.size, 0, none⟩ (.int .i64 c.f)).setCell ⟨W0.heap.size, 1, none⟩ (.int .i64 c.m)).setCell ⟨W0.heap.size, 2, none⟩ (.int .i64 c.l)).setCell ⟨W0.heap.size, 3, none⟩ (.int .i64 c.p)) = x := ⟨_, rfl⟩
    rw [hW4] at HC4 HO4 ⊢
    clear hW4 HC3
    clear c0 c1 c2 c3 c4 c5 c6 cf0 cf1 cf2 cf3 cf4 cf5 cf6
    have HB4 := hide (HB3.out.kept HO4.out (by have := HB.out.lt; omega))
    have HOW4 := hide (newer W0.heap.size HO4.out HO3.out hlt3)
    obtain ⟨c0, c1, c2, c3, c4, c5, c6, _, _, _, _, _, _, _, _⟩ := HC4.out
    go_wp2_with fail
    refine (HE.out _).mono ?_
    rintro e w5 ⟨rfl, ho5⟩
    have HO5 := hide ho5
    have HC5 := hide (HC4.out.more ho5)
    have HB5 := hide (HB4.out.more ho5)
    clear ho5
    clear c0 c1 c2 c3 c4 c5 c6
    obtain ⟨c0, c1, c2, c3, c4, c5, c6, _, _, _, _, _, _, _, _⟩ := HC5.out
    obtain ⟨d0, d1, d2, d3, d4, d5, d6, df0, df1, df2, df3, df4, df5, df6, _⟩ := HB5.out
    go_wp2_with fail
    refine bodyPost_ret (results_ct rfl rfl (HB5.out.all noC)) rfl ?_
    exact ⟨rfl, newer w.heap.size (Only.seven _ _ _ _ _ _ _ _ _) (o2 HO.out (o2 HOW4.out HO5.out)) hlt⟩
set_option maxRecDepth 100000 in
set_option maxHeartbeats 3200000 in
theorem rdecode_other (s : ByteArray) (z : Int) (w : World) (h : s.size = 64) (hok : (rdC (bl s)).ok) (heq : ¬ (rdC (bl s)).lay = bl s) :
    Calls Try.prog 19 #[.string s, .int .i64 z] w fun e w' => e = .returned (.tuple #[noC.agg, .int .i64 223]) ∧ Only (fun _ => False) w w' := by
  obtain ⟨c, hc⟩ : ∃ c, rdC (bl s) = c := ⟨_, rfl⟩
  obtain ⟨T1, hT1⟩ : ∃ T, s.extract 4 8 = T := ⟨_, rfl⟩
  have HG1 : Hid (∀ W, Calls Try.prog 27 #[.string T1] W fun e w' => e = .returned (.int .i64 c.f) ∧ w' = W) := fun W => by
    have h := rof_any T1 W (by rw [← hT1, part_size s 4 8 (by omega) (by omega)]; omega)
    rw [← hT1, ext_blG] at h
    rw [← hT1, ← hc]
    exact h
  obtain ⟨T2, hT2⟩ : ∃ T, s.extract 8 12 = T := ⟨_, rfl⟩
  have HG2 : Hid (∀ W, Calls Try.prog 27 #[.string T2] W fun e w' => e = .returned (.int .i64 c.m) ∧ w' = W) := fun W => by
    have h := rof_any T2 W (by rw [← hT2, part_size s 8 12 (by omega) (by omega)]; omega)
    rw [← hT2, ext_blG] at h
    rw [← hT2, ← hc]
    exact h
  obtain ⟨T3, hT3⟩ : ∃ T, s.extract 12 16 = T := ⟨_, rfl⟩
  have HG3 : Hid (∀ W, Calls Try.prog 27 #[.string T3] W fun e w' => e = .returned (.int .i64 c.l) ∧ w' = W) := fun W => by
    have h := rof_any T3 W (by rw [← hT3, part_size s 12 16 (by omega) (by omega)]; omega)
    rw [← hT3, ext_blG] at h
    rw [← hT3, ← hc]
    exact h
  obtain ⟨T4, hT4⟩ : ∃ T, s.extract 16 20 = T := ⟨_, rfl⟩
  have HG4 : Hid (∀ W, Calls Try.prog 27 #[.string T4] W fun e w' => e = .returned (.int .i64 c.p) ∧ w' = W) := fun W => by
    have h := rof_any T4 W (by rw [← hT4, part_size s 16 20 (by omega) (by omega)]; omega)
    rw [← hT4, ext_blG] at h
    rw [← hT4, ← hc]
    exact h
  obtain ⟨T5, hT5⟩ : ∃ T, s.extract 0 4 = T := ⟨_, rfl⟩
  have HG5 : Hid (∀ W, Calls Try.prog 27 #[.string T5] W fun e w' => e = .returned (.int .i64 c.n) ∧ w' = W) := fun W => by
    have h := rof_any T5 W (by rw [← hT5, part_size s 0 4 (by omega) (by omega)]; omega)
    rw [← hT5, ext_blG] at h
    rw [← hT5, ← hc]
    exact h
  obtain ⟨T6, hT6⟩ : ∃ T, s.extract 20 26 = T := ⟨_, rfl⟩
  have HG6 : Hid (∀ W, Calls Try.prog 27 #[.string T6] W fun e w' => e = .returned (.int .i64 c.s) ∧ w' = W) := fun W => by
    have h := rof_any T6 W (by rw [← hT6, part_size s 20 26 (by omega) (by omega)]; omega)
    rw [← hT6, ext_blG] at h
    rw [← hT6, ← hc]
    exact h
  obtain ⟨T7, hT7⟩ : ∃ T, s.extract 26 32 = T := ⟨_, rfl⟩
  have HG7 : Hid (∀ W, Calls Try.prog 27 #[.string T7] W fun e w' => e = .returned (.int .i64 c.k) ∧ w' = W) := fun W => by
    have h := rof_any T7 W (by rw [← hT7, part_size s 26 32 (by omega) (by omega)]; omega)
    rw [← hT7, ext_blG] at h
    rw [← hT7, ← hc]
    exact h
  have hn : 0 ≤ c.n := by have := (rdC_bd (bl s) (by rw [bl_len]; omega)).2.2.2.2.1.1; rw [hc] at this; exact this
  rw [hc] at hok heq
  clear hc
  have HE := hide (fun W => rencode_any c W)
  have hr : c.out = .tuple #[.string (str c.lay), .int .i64 0] := if_pos hok
  rw [hr] at HE
  obtain ⟨L, hL⟩ : ∃ L, str c.lay = L := ⟨_, rfl⟩
  rw [hL] at HE
  have hLs : ¬ L = s := fun e => heq (by rw [← hL] at e; rw [← e, bl_str])
  have hne : (!L.toList == s.toList) = true := by simp only [ba_neG hLs, Bool.not_false]
  clear hr hok hL hLs heq
  have g4 : ¬ (s.size : Int) < 4 := by omega
  have g8 : ¬ (s.size : Int) < 8 := by omega
  have g12 : ¬ (s.size : Int) < 12 := by omega
  have g16 : ¬ (s.size : Int) < 16 := by omega
  have g20 : ¬ (s.size : Int) < 20 := by omega
  have g26 : ¬ (s.size : Int) < 26 := by omega
  have g32 : ¬ (s.size : Int) < 32 := by omega
  clear hn
  have hs : ((s.size : Int) != 64) = false := by
    have : (s.size : Int) = 64 := by omega
    simpa using this
  clear h
  unfold Ct.agg at HE
  have HB := hide (Cb.new w noC)
  have HO := hide (onlyA w (.cells #[.int .i64 0, .int .i64 0, .int .i64 0, .int .i64 0, .int .i64 0, .int .i64 0, .int .i64 0] 25))
  have hlt : w.heap.size ≤ w.heap.size := Nat.le_refl _
  unfold noC at HB
  simp only at HB
  obtain ⟨W0, hW0⟩ : ∃ x, w.alloc (.cells #[.int .i64 0, .int .i64 0, .int .i64 0, .int .i64 0, .int .i64 0, .int .i64 0, .int .i64 0] 25) = x := ⟨_, rfl⟩
  rw [hW0] at HB HO
  go_enter Try.func19, Try.ntmps19
  go_upto_region 3 with fail
  clear hW0
  go_cut [6] (fun t wc => t = .pointer (some ⟨W0.heap.size, 0, none⟩) ∧ Hid (Cb wc W0.heap.size ⟨0, 0, 0, 0, c.n, c.s, c.k⟩) ∧ Hid (Only (fun _ => False) W0 wc))
  case first =>
    have HN := hide (Cb.new W0 ⟨0, 0, 0, 0, c.n, c.s, c.k⟩)
    simp only at HN
    refine wp_region_noPanic ?_
    refine wp_region_held_drew (S := fun W => Only (fun _ => False) W0 W) (by kernel_rfl) (Only.drew _ _) (fun hHeld => ?_)
    refine wpAnyH_take (i := 0) (oi := { dst := some 13, op := Op.move (Operand.tmp 0), type := 9, pos := "ref.go:56", after := #[], guard := none }) (v := .string s) rfl (by kernel_rfl) (by kernel_rfl) (by kernel_rfl) (fun _ _ _ h => h) (Or.inl ⟨by rfl, fun w' hSw => by clear hSw; go_simp⟩) (by assumption) ?_
    simp only [Act.put, List.setIfInBounds_toArray, List.set_cons_zero, List.set_cons_succ]
    refine wpAnyH_take (i := 3) (oi := { dst := some 16, op := Op.move (Operand.tmp 0), type := 9, pos := "ref.go:56", after := #[], guard := none }) (v := .string s) rfl (by kernel_rfl) (by kernel_rfl) (by kernel_rfl) (fun _ _ _ h => h) (Or.inl ⟨by rfl, fun w' hSw => by clear hSw; go_simp⟩) (by assumption) ?_
    simp only [Act.put, List.setIfInBounds_toArray, List.set_cons_zero, List.set_cons_succ]
    refine wpAnyH_take (i := 6) (oi := { dst := some 19, op := Op.move (Operand.tmp 0), type := 9, pos := "ref.go:56", after := #[], guard := none }) (v := .string s) rfl (by kernel_rfl) (by kernel_rfl) (by kernel_rfl) (fun _ _ _ h => h) (Or.inl ⟨by rfl, fun w' hSw => by clear hSw; go_simp⟩) (by assumption) ?_
    simp only [Act.put, List.setIfInBounds_toArray, List.set_cons_zero, List.set_cons_succ]
    refine wpAnyH_take (i := 1) (oi := { dst := some 14, op := Op.slice 9 (Operand.tmp 13) none (some (Operand.const (Value.int IntKind.i64 4))) none, type := 9, pos := "ref.go:56", after := #[{ on := 0, ground := Ground.data }], guard := none }) (v := .string T5) rfl (by kernel_rfl) (by kernel_rfl) (by kernel_rfl) (fun _ _ _ h => h) (Or.inl ⟨by rfl, fun w' hSw => by clear hSw; go_simp⟩) (by assumption) ?_
    simp only [Act.put, List.setIfInBounds_toArray, List.set_cons_zero, List.set_cons_succ]
    refine wpAnyH_take (i := 4) (oi := { dst := some 17, op := Op.slice 9 (Operand.tmp 16) (some (Operand.const (Value.int IntKind.i64 20))) (some (Operand.const (Value.int IntKind.i64 26))) none, type := 9, pos := "ref.go:56", after := #[{ on := 3, ground := Ground.data }], guard := none }) (v := .string T6) rfl (by kernel_rfl) (by kernel_rfl) (by kernel_rfl) (fun _ _ _ h => h) (Or.inl ⟨by rfl, fun w' hSw => by clear hSw; go_simp⟩) (by assumption) ?_
    simp only [Act.put, List.setIfInBounds_toArray, List.set_cons_zero, List.set_cons_succ]
    refine wpAnyH_take (i := 7) (oi := { dst := some 20, op := Op.slice 9 (Operand.tmp 19) (some (Operand.const (Value.int IntKind.i64 26))) (some (Operand.const (Value.int IntKind.i64 32))) none, type := 9, pos := "ref.go:56", after := #[{ on := 6, ground := Ground.data }], guard := none }) (v := .string T7) rfl (by kernel_rfl) (by kernel_rfl) (by kernel_rfl) (fun _ _ _ h => h) (Or.inl ⟨by rfl, fun w' hSw => by clear hSw; go_simp⟩) (by assumption) ?_
    simp only [Act.put, List.setIfInBounds_toArray, List.set_cons_zero, List.set_cons_succ]
    refine wpAnyH_ready (rs := [2, 10]) (by kernel_rfl) (by simp) ?_
    refine AllReadyH.cons (o := { dst := some 15, op := Op.call { callee := Callee.value (Operand.func 27), args := #[Operand.tmp 14], argTypes := #[9] }, type := 3, pos := "ref.go:56", after := #[{ on := 1, ground := Ground.data }], guard := none }) rfl (fun K hK => ?_) (AllReadyH.cons (o := { dst := some 6, op := Op.alloc 25, type := 0, pos := "ref.go:56", after := #[], guard := none }) rfl (fun K hK => ?_) (AllReadyH.nil))
    · go_simp
      refine (HG5.out _).mono ?_
      rintro e y ⟨rfl, hy⟩
      obtain rfl := hy.symm
      clear hy
      refine hK.out _ _ (Only.drew _ _) (fun hHeld => ?_)
      clear hK K
      try simp only [Act.put, List.setIfInBounds_toArray, List.set_cons_zero, List.set_cons_succ]
      refine wpAnyH_ready (rs := [5, 10]) (by kernel_rfl) (by simp) ?_
      refine AllReadyH.cons (o := { dst := some 18, op := Op.call { callee := Callee.value (Operand.func 27), args := #[Operand.tmp 17], argTypes := #[9] }, type := 3, pos := "ref.go:56", after := #[{ on := 4, ground := Ground.data }, { on := 2, ground := Ground.chain }], guard := none }) rfl (fun K hK => ?_) (AllReadyH.cons (o := { dst := some 6, op := Op.alloc 25, type := 0, pos := "ref.go:56", after := #[], guard := none }) rfl (fun K hK => ?_) (AllReadyH.nil))
      · go_simp
        refine (HG6.out _).mono ?_
        rintro e y ⟨rfl, hy⟩
        obtain rfl := hy.symm
        clear hy
        refine hK.out _ _ (Only.drew _ _) (fun hHeld => ?_)
        clear hK K
        try simp only [Act.put, List.setIfInBounds_toArray, List.set_cons_zero, List.set_cons_succ]
        refine wpAnyH_ready (rs := [8, 10]) (by kernel_rfl) (by simp) ?_
        refine AllReadyH.cons (o := { dst := some 21, op := Op.call { callee := Callee.value (Operand.func 27), args := #[Operand.tmp 20], argTypes := #[9] }, type := 3, pos := "ref.go:56", after := #[{ on := 7, ground := Ground.data }, { on := 5, ground := Ground.chain }], guard := none }) rfl (fun K hK => ?_) (AllReadyH.cons (o := { dst := some 6, op := Op.alloc 25, type := 0, pos := "ref.go:56", after := #[], guard := none }) rfl (fun K hK => ?_) (AllReadyH.nil))
        · go_simp
          refine (HG7.out _).mono ?_
          rintro e y ⟨rfl, hy⟩
          obtain rfl := hy.symm
          clear hy
          refine hK.out _ _ (Only.drew _ _) (fun hHeld => ?_)
          clear hK K
          try simp only [Act.put, List.setIfInBounds_toArray, List.set_cons_zero, List.set_cons_succ]
          refine wpAnyH_take (i := 9) (oi := { dst := some 22, op := Op.build 25 #[(1, Operand.tmp 15), (2, Operand.tmp 18), (3, Operand.tmp 21)], type := 25, pos := "ref.go:56", after := #[{ on := 2, ground := Ground.data }, { on := 5, ground := Ground.data }, { on := 8, ground := Ground.data }], guard := none }) (v := .agg #[.int .i64 0, .int .i64 0, .int .i64 0, .int .i64 0, .int .i64 c.n, .int .i64 c.s, .int .i64 c.k]) rfl (by kernel_rfl) (by kernel_rfl) (by kernel_rfl) (fun _ _ _ h => h) (Or.inl ⟨by rfl, fun w' hSw => by clear hSw; go_simp⟩) (by assumption) ?_
          simp only [Act.put, List.setIfInBounds_toArray, List.set_cons_zero, List.set_cons_succ]
          refine wpAnyH_ready (rs := [10]) (by kernel_rfl) (by simp) ?_
          refine AllReadyH.cons (o := { dst := some 6, op := Op.alloc 25, type := 0, pos := "ref.go:56", after := #[], guard := none }) rfl (fun K hK => ?_) (AllReadyH.nil)
          go_simp
          refine hK.out _ _ (o2 (onlyA _ _) (Only.drew _ _)) (fun hHeld => ?_)
          clear hK K
          try simp only [Act.put, List.setIfInBounds_toArray, List.set_cons_zero, List.set_cons_succ]
          refine wpAnyH_ready (rs := [11]) (by kernel_rfl) (by simp) ?_
          refine AllReadyH.cons (o := { dst := none, op := Op.store 25 (Operand.tmp 6) (Operand.tmp 22), type := 0, pos := "ref.go:56", after := #[{ on := 10, ground := Ground.data }, { on := 9, ground := Ground.data }, { on := 8, ground := Ground.chain }, { on := 0, ground := Ground.phase }, { on := 1, ground := Ground.phase }, { on := 2, ground := Ground.phase }, { on := 3, ground := Ground.phase }, { on := 4, ground := Ground.phase }, { on := 5, ground := Ground.phase }, { on := 6, ground := Ground.phase }, { on := 7, ground := Ground.phase }, { on := 8, ground := Ground.phase }, { on := 9, ground := Ground.phase }, { on := 10, ground := Ground.phase }], guard := none }) rfl (fun K hK => ?_) (AllReadyH.nil)
          go_simp
          refine hK.out _ _ (o2 (onlyA _ _) (Only.drew _ _)) (fun hHeld => ?_)
          clear hK K
          try simp only [Act.put, List.setIfInBounds_toArray, List.set_cons_zero, List.set_cons_succ]
          refine wpAnyH_done (by kernel_rfl) ?_ _
          refine NoPanic.normal ?_
          go_wp2_with fail
          go_meet
          exact ⟨rfl, HN.out.more (Only.drew _ _), o2 (onlyA _ _) (Only.drew _ _)⟩
        · go_simp
          refine hK.out _ _ (o2 (onlyA _ _) (Only.drew _ _)) (fun hHeld => ?_)
          clear hK K
          try simp only [Act.put, List.setIfInBounds_toArray, List.set_cons_zero, List.set_cons_succ]
          refine wpAnyH_ready (rs := [8]) (by kernel_rfl) (by simp) ?_
          refine AllReadyH.cons (o := { dst := some 21, op := Op.call { callee := Callee.value (Operand.func 27), args := #[Operand.tmp 20], argTypes := #[9] }, type := 3, pos := "ref.go:56", after := #[{ on := 7, ground := Ground.data }, { on := 5, ground := Ground.chain }], guard := none }) rfl (fun K hK => ?_) (AllReadyH.nil)
          go_simp
          refine (HG7.out _).mono ?_
          rintro e y ⟨rfl, hy⟩
          obtain rfl := hy.symm
          clear hy
          refine hK.out _ _ (o2 (onlyA _ _) (Only.drew _ _)) (fun hHeld => ?_)
          clear hK K
          try simp only [Act.put, List.setIfInBounds_toArray, List.set_cons_zero, List.set_cons_succ]
          refine wpAnyH_take (i := 9) (oi := { dst := some 22, op := Op.build 25 #[(1, Operand.tmp 15), (2, Operand.tmp 18), (3, Operand.tmp 21)], type := 25, pos := "ref.go:56", after := #[{ on := 2, ground := Ground.data }, { on := 5, ground := Ground.data }, { on := 8, ground := Ground.data }], guard := none }) (v := .agg #[.int .i64 0, .int .i64 0, .int .i64 0, .int .i64 0, .int .i64 c.n, .int .i64 c.s, .int .i64 c.k]) rfl (by kernel_rfl) (by kernel_rfl) (by kernel_rfl) (fun _ _ _ h => h) (Or.inl ⟨by rfl, fun w' hSw => by clear hSw; go_simp⟩) (by assumption) ?_
          simp only [Act.put, List.setIfInBounds_toArray, List.set_cons_zero, List.set_cons_succ]
          refine wpAnyH_ready (rs := [11]) (by kernel_rfl) (by simp) ?_
          refine AllReadyH.cons (o := { dst := none, op := Op.store 25 (Operand.tmp 6) (Operand.tmp 22), type := 0, pos := "ref.go:56", after := #[{ on := 10, ground := Ground.data }, { on := 9, ground := Ground.data }, { on := 8, ground := Ground.chain }, { on := 0, ground := Ground.phase }, { on := 1, ground := Ground.phase }, { on := 2, ground := Ground.phase }, { on := 3, ground := Ground.phase }, { on := 4, ground := Ground.phase }, { on := 5, ground := Ground.phase }, { on := 6, ground := Ground.phase }, { on := 7, ground := Ground.phase }, { on := 8, ground := Ground.phase }, { on := 9, ground := Ground.phase }, { on := 10, ground := Ground.phase }], guard := none }) rfl (fun K hK => ?_) (AllReadyH.nil)
          go_simp
          refine hK.out _ _ (o2 (onlyA _ _) (Only.drew _ _)) (fun hHeld => ?_)
          clear hK K
          try simp only [Act.put, List.setIfInBounds_toArray, List.set_cons_zero, List.set_cons_succ]
          refine wpAnyH_done (by kernel_rfl) ?_ _
          refine NoPanic.normal ?_
          go_wp2_with fail
          go_meet
          exact ⟨rfl, HN.out.more (Only.drew _ _), o2 (onlyA _ _) (Only.drew _ _)⟩
      · go_simp
        refine hK.out _ _ (o2 (onlyA _ _) (Only.drew _ _)) (fun hHeld => ?_)
        clear hK K
        try simp only [Act.put, List.setIfInBounds_toArray, List.set_cons_zero, List.set_cons_succ]
        refine wpAnyH_ready (rs := [5]) (by kernel_rfl) (by simp) ?_
        refine AllReadyH.cons (o := { dst := some 18, op := Op.call { callee := Callee.value (Operand.func 27), args := #[Operand.tmp 17], argTypes := #[9] }, type := 3, pos := "ref.go:56", after := #[{ on := 4, ground := Ground.data }, { on := 2, ground := Ground.chain }], guard := none }) rfl (fun K hK => ?_) (AllReadyH.nil)
        go_simp
        refine (HG6.out _).mono ?_
        rintro e y ⟨rfl, hy⟩
        obtain rfl := hy.symm
        clear hy
        refine hK.out _ _ (o2 (onlyA _ _) (Only.drew _ _)) (fun hHeld => ?_)
        clear hK K
        try simp only [Act.put, List.setIfInBounds_toArray, List.set_cons_zero, List.set_cons_succ]
        refine wpAnyH_ready (rs := [8]) (by kernel_rfl) (by simp) ?_
        refine AllReadyH.cons (o := { dst := some 21, op := Op.call { callee := Callee.value (Operand.func 27), args := #[Operand.tmp 20], argTypes := #[9] }, type := 3, pos := "ref.go:56", after := #[{ on := 7, ground := Ground.data }, { on := 5, ground := Ground.chain }], guard := none }) rfl (fun K hK => ?_) (AllReadyH.nil)
        go_simp
        refine (HG7.out _).mono ?_
        rintro e y ⟨rfl, hy⟩
        obtain rfl := hy.symm
        clear hy
        refine hK.out _ _ (o2 (onlyA _ _) (Only.drew _ _)) (fun hHeld => ?_)
        clear hK K
        try simp only [Act.put, List.setIfInBounds_toArray, List.set_cons_zero, List.set_cons_succ]
        refine wpAnyH_take (i := 9) (oi := { dst := some 22, op := Op.build 25 #[(1, Operand.tmp 15), (2, Operand.tmp 18), (3, Operand.tmp 21)], type := 25, pos := "ref.go:56", after := #[{ on := 2, ground := Ground.data }, { on := 5, ground := Ground.data }, { on := 8, ground := Ground.data }], guard := none }) (v := .agg #[.int .i64 0, .int .i64 0, .int .i64 0, .int .i64 0, .int .i64 c.n, .int .i64 c.s, .int .i64 c.k]) rfl (by kernel_rfl) (by kernel_rfl) (by kernel_rfl) (fun _ _ _ h => h) (Or.inl ⟨by rfl, fun w' hSw => by clear hSw; go_simp⟩) (by assumption) ?_
        simp only [Act.put, List.setIfInBounds_toArray, List.set_cons_zero, List.set_cons_succ]
        refine wpAnyH_ready (rs := [11]) (by kernel_rfl) (by simp) ?_
        refine AllReadyH.cons (o := { dst := none, op := Op.store 25 (Operand.tmp 6) (Operand.tmp 22), type := 0, pos := "ref.go:56", after := #[{ on := 10, ground := Ground.data }, { on := 9, ground := Ground.data }, { on := 8, ground := Ground.chain }, { on := 0, ground := Ground.phase }, { on := 1, ground := Ground.phase }, { on := 2, ground := Ground.phase }, { on := 3, ground := Ground.phase }, { on := 4, ground := Ground.phase }, { on := 5, ground := Ground.phase }, { on := 6, ground := Ground.phase }, { on := 7, ground := Ground.phase }, { on := 8, ground := Ground.phase }, { on := 9, ground := Ground.phase }, { on := 10, ground := Ground.phase }], guard := none }) rfl (fun K hK => ?_) (AllReadyH.nil)
        go_simp
        refine hK.out _ _ (o2 (onlyA _ _) (Only.drew _ _)) (fun hHeld => ?_)
        clear hK K
        try simp only [Act.put, List.setIfInBounds_toArray, List.set_cons_zero, List.set_cons_succ]
        refine wpAnyH_done (by kernel_rfl) ?_ _
        refine NoPanic.normal ?_
        go_wp2_with fail
        go_meet
        exact ⟨rfl, HN.out.more (Only.drew _ _), o2 (onlyA _ _) (Only.drew _ _)⟩
    · go_simp
      refine hK.out _ _ (o2 (onlyA _ _) (Only.drew _ _)) (fun hHeld => ?_)
      clear hK K
      try simp only [Act.put, List.setIfInBounds_toArray, List.set_cons_zero, List.set_cons_succ]
      refine wpAnyH_ready (rs := [2]) (by kernel_rfl) (by simp) ?_
      refine AllReadyH.cons (o := { dst := some 15, op := Op.call { callee := Callee.value (Operand.func 27), args := #[Operand.tmp 14], argTypes := #[9] }, type := 3, pos := "ref.go:56", after := #[{ on := 1, ground := Ground.data }], guard := none }) rfl (fun K hK => ?_) (AllReadyH.nil)
      go_simp
      refine (HG5.out _).mono ?_
      rintro e y ⟨rfl, hy⟩
      obtain rfl := hy.symm
      clear hy
      refine hK.out _ _ (o2 (onlyA _ _) (Only.drew _ _)) (fun hHeld => ?_)
      clear hK K
      try simp only [Act.put, List.setIfInBounds_toArray, List.set_cons_zero, List.set_cons_succ]
      refine wpAnyH_ready (rs := [5]) (by kernel_rfl) (by simp) ?_
      refine AllReadyH.cons (o := { dst := some 18, op := Op.call { callee := Callee.value (Operand.func 27), args := #[Operand.tmp 17], argTypes := #[9] }, type := 3, pos := "ref.go:56", after := #[{ on := 4, ground := Ground.data }, { on := 2, ground := Ground.chain }], guard := none }) rfl (fun K hK => ?_) (AllReadyH.nil)
      go_simp
      refine (HG6.out _).mono ?_
      rintro e y ⟨rfl, hy⟩
      obtain rfl := hy.symm
      clear hy
      refine hK.out _ _ (o2 (onlyA _ _) (Only.drew _ _)) (fun hHeld => ?_)
      clear hK K
      try simp only [Act.put, List.setIfInBounds_toArray, List.set_cons_zero, List.set_cons_succ]
      refine wpAnyH_ready (rs := [8]) (by kernel_rfl) (by simp) ?_
      refine AllReadyH.cons (o := { dst := some 21, op := Op.call { callee := Callee.value (Operand.func 27), args := #[Operand.tmp 20], argTypes := #[9] }, type := 3, pos := "ref.go:56", after := #[{ on := 7, ground := Ground.data }, { on := 5, ground := Ground.chain }], guard := none }) rfl (fun K hK => ?_) (AllReadyH.nil)
      go_simp
      refine (HG7.out _).mono ?_
      rintro e y ⟨rfl, hy⟩
      obtain rfl := hy.symm
      clear hy
      refine hK.out _ _ (o2 (onlyA _ _) (Only.drew _ _)) (fun hHeld => ?_)
      clear hK K
      try simp only [Act.put, List.setIfInBounds_toArray, List.set_cons_zero, List.set_cons_succ]
      refine wpAnyH_take (i := 9) (oi := { dst := some 22, op := Op.build 25 #[(1, Operand.tmp 15), (2, Operand.tmp 18), (3, Operand.tmp 21)], type := 25, pos := "ref.go:56", after := #[{ on := 2, ground := Ground.data }, { on := 5, ground := Ground.data }, { on := 8, ground := Ground.data }], guard := none }) (v := .agg #[.int .i64 0, .int .i64 0, .int .i64 0, .int .i64 0, .int .i64 c.n, .int .i64 c.s, .int .i64 c.k]) rfl (by kernel_rfl) (by kernel_rfl) (by kernel_rfl) (fun _ _ _ h => h) (Or.inl ⟨by rfl, fun w' hSw => by clear hSw; go_simp⟩) (by assumption) ?_
      simp only [Act.put, List.setIfInBounds_toArray, List.set_cons_zero, List.set_cons_succ]
      refine wpAnyH_ready (rs := [11]) (by kernel_rfl) (by simp) ?_
      refine AllReadyH.cons (o := { dst := none, op := Op.store 25 (Operand.tmp 6) (Operand.tmp 22), type := 0, pos := "ref.go:56", after := #[{ on := 10, ground := Ground.data }, { on := 9, ground := Ground.data }, { on := 8, ground := Ground.chain }, { on := 0, ground := Ground.phase }, { on := 1, ground := Ground.phase }, { on := 2, ground := Ground.phase }, { on := 3, ground := Ground.phase }, { on := 4, ground := Ground.phase }, { on := 5, ground := Ground.phase }, { on := 6, ground := Ground.phase }, { on := 7, ground := Ground.phase }, { on := 8, ground := Ground.phase }, { on := 9, ground := Ground.phase }, { on := 10, ground := Ground.phase }], guard := none }) rfl (fun K hK => ?_) (AllReadyH.nil)
      go_simp
      refine hK.out _ _ (o2 (onlyA _ _) (Only.drew _ _)) (fun hHeld => ?_)
      clear hK K
      try simp only [Act.put, List.setIfInBounds_toArray, List.set_cons_zero, List.set_cons_succ]
      refine wpAnyH_done (by kernel_rfl) ?_ _
      refine NoPanic.normal ?_
      go_wp2_with fail
      go_meet
      exact ⟨rfl, HN.out.more (Only.drew _ _), o2 (onlyA _ _) (Only.drew _ _)⟩
  case rest =>
    obtain ⟨rfl, HC3, HO3⟩ := hcut
    have HB3 := hide (HB.out.more HO3.out)
    have hlt3 : W0.heap.size ≤ W0.heap.size := Nat.le_refl _
    go_upto_region 4 with fail
    obtain ⟨c0, c1, c2, c3, c4, c5, c6, cf0, cf1, cf2, cf3, cf4, cf5, cf6, _⟩ := HC3.out
    refine wp_region_noPanic ?_
    refine wp_region_held_drew (S := fun W => Only (fun k => k = W0.heap.size) wc W) (by kernel_rfl) (Only.drew _ _) (fun hHeld => ?_)
    refine wpAnyH_take (i := 0) (oi := { dst := some 23, op := Op.move (Operand.tmp 0), type := 9, pos := "ref.go:57", after := #[], guard := none }) (v := .string s) rfl (by kernel_rfl) (by kernel_rfl) (by kernel_rfl) (fun _ _ _ h => h) (Or.inl ⟨by rfl, fun w' hSw => by clear hSw; go_simp⟩) (by assumption) ?_
    simp only [Act.put, List.setIfInBounds_toArray, List.set_cons_zero, List.set_cons_succ]
    refine wpAnyH_take (i := 3) (oi := { dst := some 26, op := Op.move (Operand.tmp 0), type := 9, pos := "ref.go:57", after := #[], guard := none }) (v := .string s) rfl (by kernel_rfl) (by kernel_rfl) (by kernel_rfl) (fun _ _ _ h => h) (Or.inl ⟨by rfl, fun w' hSw => by clear hSw; go_simp⟩) (by assumption) ?_
    simp only [Act.put, List.setIfInBounds_toArray, List.set_cons_zero, List.set_cons_succ]
    refine wpAnyH_take (i := 6) (oi := { dst := some 29, op := Op.move (Operand.tmp 0), type := 9, pos := "ref.go:57", after := #[], guard := none }) (v := .string s) rfl (by kernel_rfl) (by kernel_rfl) (by kernel_rfl) (fun _ _ _ h => h) (Or.inl ⟨by rfl, fun w' hSw => by clear hSw; go_simp⟩) (by assumption) ?_
    simp only [Act.put, List.setIfInBounds_toArray, List.set_cons_zero, List.set_cons_succ]
    refine wpAnyH_take (i := 9) (oi := { dst := some 32, op := Op.move (Operand.tmp 0), type := 9, pos := "ref.go:57", after := #[], guard := none }) (v := .string s) rfl (by kernel_rfl) (by kernel_rfl) (by kernel_rfl) (fun _ _ _ h => h) (Or.inl ⟨by rfl, fun w' hSw => by clear hSw; go_simp⟩) (by assumption) ?_
    simp only [Act.put, List.setIfInBounds_toArray, List.set_cons_zero, List.set_cons_succ]
    refine wpAnyH_take (i := 1) (oi := { dst := some 24, op := Op.slice 9 (Operand.tmp 23) (some (Operand.const (Value.int IntKind.i64 4))) (some (Operand.const (Value.int IntKind.i64 8))) none, type := 9, pos := "ref.go:57", after := #[{ on := 0, ground := Ground.data }], guard := none }) (v := .string T1) rfl (by kernel_rfl) (by kernel_rfl) (by kernel_rfl) (fun _ _ _ h => h) (Or.inl ⟨by rfl, fun w' hSw => by clear hSw; go_simp⟩) (by assumption) ?_
    simp only [Act.put, List.setIfInBounds_toArray, List.set_cons_zero, List.set_cons_succ]
    refine wpAnyH_take (i := 4) (oi := { dst := some 27, op := Op.slice 9 (Operand.tmp 26) (some (Operand.const (Value.int IntKind.i64 8))) (some (Operand.const (Value.int IntKind.i64 12))) none, type := 9, pos := "ref.go:57", after := #[{ on := 3, ground := Ground.data }], guard := none }) (v := .string T2) rfl (by kernel_rfl) (by kernel_rfl) (by kernel_rfl) (fun _ _ _ h => h) (Or.inl ⟨by rfl, fun w' hSw => by clear hSw; go_simp⟩) (by assumption) ?_
    simp only [Act.put, List.setIfInBounds_toArray, List.set_cons_zero, List.set_cons_succ]
    refine wpAnyH_take (i := 7) (oi := { dst := some 30, op := Op.slice 9 (Operand.tmp 29) (some (Operand.const (Value.int IntKind.i64 12))) (some (Operand.const (Value.int IntKind.i64 16))) none, type := 9, pos := "ref.go:57", after := #[{ on := 6, ground := Ground.data }], guard := none }) (v := .string T3) rfl (by kernel_rfl) (by kernel_rfl) (by kernel_rfl) (fun _ _ _ h => h) (Or.inl ⟨by rfl, fun w' hSw => by clear hSw; go_simp⟩) (by assumption) ?_
    simp only [Act.put, List.setIfInBounds_toArray, List.set_cons_zero, List.set_cons_succ]
    refine wpAnyH_take (i := 10) (oi := { dst := some 33, op := Op.slice 9 (Operand.tmp 32) (some (Operand.const (Value.int IntKind.i64 16))) (some (Operand.const (Value.int IntKind.i64 20))) none, type := 9, pos := "ref.go:57", after := #[{ on := 9, ground := Ground.data }], guard := none }) (v := .string T4) rfl (by kernel_rfl) (by kernel_rfl) (by kernel_rfl) (fun _ _ _ h => h) (Or.inl ⟨by rfl, fun w' hSw => by clear hSw; go_simp⟩) (by assumption) ?_
    simp only [Act.put, List.setIfInBounds_toArray, List.set_cons_zero, List.set_cons_succ]
    refine wpAnyH_ready (rs := [2]) (by kernel_rfl) (by simp) ?_
    refine AllReadyH.cons (o := { dst := some 25, op := Op.call { callee := Callee.value (Operand.func 27), args := #[Operand.tmp 24], argTypes := #[9] }, type := 3, pos := "ref.go:57", after := #[{ on := 1, ground := Ground.data }], guard := none }) rfl (fun K hK => ?_) (AllReadyH.nil)
    go_simp
    refine (HG1.out _).mono ?_
    rintro e y ⟨rfl, hy⟩
    obtain rfl := hy.symm
    clear hy
    refine hK.out _ _ (Only.drew _ _) (fun hHeld => ?_)
    clear hK K
    try simp only [Act.put, List.setIfInBounds_toArray, List.set_cons_zero, List.set_cons_succ]
    refine wpAnyH_ready (rs := [5]) (by kernel_rfl) (by simp) ?_
    refine AllReadyH.cons (o := { dst := some 28, op := Op.call { callee := Callee.value (Operand.func 27), args := #[Operand.tmp 27], argTypes := #[9] }, type := 3, pos := "ref.go:57", after := #[{ on := 4, ground := Ground.data }, { on := 2, ground := Ground.chain }], guard := none }) rfl (fun K hK => ?_) (AllReadyH.nil)
    go_simp
    refine (HG2.out _).mono ?_
    rintro e y ⟨rfl, hy⟩
    obtain rfl := hy.symm
    clear hy
    refine hK.out _ _ (Only.drew _ _) (fun hHeld => ?_)
    clear hK K
    try simp only [Act.put, List.setIfInBounds_toArray, List.set_cons_zero, List.set_cons_succ]
    refine wpAnyH_ready (rs := [8]) (by kernel_rfl) (by simp) ?_
    refine AllReadyH.cons (o := { dst := some 31, op := Op.call { callee := Callee.value (Operand.func 27), args := #[Operand.tmp 30], argTypes := #[9] }, type := 3, pos := "ref.go:57", after := #[{ on := 7, ground := Ground.data }, { on := 5, ground := Ground.chain }], guard := none }) rfl (fun K hK => ?_) (AllReadyH.nil)
    go_simp
    refine (HG3.out _).mono ?_
    rintro e y ⟨rfl, hy⟩
    obtain rfl := hy.symm
    clear hy
    refine hK.out _ _ (Only.drew _ _) (fun hHeld => ?_)
    clear hK K
    try simp only [Act.put, List.setIfInBounds_toArray, List.set_cons_zero, List.set_cons_succ]
    refine wpAnyH_ready (rs := [11]) (by kernel_rfl) (by simp) ?_
    refine AllReadyH.cons (o := { dst := some 34, op := Op.call { callee := Callee.value (Operand.func 27), args := #[Operand.tmp 33], argTypes := #[9] }, type := 3, pos := "ref.go:57", after := #[{ on := 10, ground := Ground.data }, { on := 8, ground := Ground.chain }], guard := none }) rfl (fun K hK => ?_) (AllReadyH.nil)
    go_simp
    refine (HG4.out _).mono ?_
    rintro e y ⟨rfl, hy⟩
    obtain rfl := hy.symm
    clear hy
    refine hK.out _ _ (Only.drew _ _) (fun hHeld => ?_)
    clear hK K
    try simp only [Act.put, List.setIfInBounds_toArray, List.set_cons_zero, List.set_cons_succ]
    refine wpAnyH_take (i := 12) (oi := { dst := some 35, op := Op.build 23 #[(0, Operand.tmp 25), (1, Operand.tmp 28), (2, Operand.tmp 31), (3, Operand.tmp 34)], type := 23, pos := "ref.go:57", after := #[{ on := 2, ground := Ground.data }, { on := 5, ground := Ground.data }, { on := 8, ground := Ground.data }, { on := 11, ground := Ground.data }], guard := none }) (v := .agg #[.int .i64 c.f, .int .i64 c.m, .int .i64 c.l, .int .i64 c.p]) rfl (by kernel_rfl) (by kernel_rfl) (by kernel_rfl) (fun _ _ _ h => h) (Or.inl ⟨by rfl, fun w' hSw => by clear hSw; go_simp⟩) (by assumption) ?_
    simp only [Act.put, List.setIfInBounds_toArray, List.set_cons_zero, List.set_cons_succ]
    refine wpAnyH_take (i := 13) (oi := { dst := some 36, op := Op.fieldAddr 25 (Operand.tmp 6) 0, type := 0, pos := "ref.go:57", after := #[{ on := 0, ground := Ground.phase }, { on := 1, ground := Ground.phase }, { on := 2, ground := Ground.phase }, { on := 3, ground := Ground.phase }, { on := 4, ground := Ground.phase }, { on := 5, ground := Ground.phase }, { on := 6, ground := Ground.phase }, { on := 7, ground := Ground.phase }, { on := 8, ground := Ground.phase }, { on := 9, ground := Ground.phase }, { on := 10, ground := Ground.phase }, { on := 11, ground := Ground.phase }, { on := 12, ground := Ground.phase }], guard := none }) (v := .pointer (some ⟨W0.heap.size, 0, none⟩)) rfl (by kernel_rfl) (by kernel_rfl) (by kernel_rfl) (fun _ _ _ h => h) (Or.inl ⟨by rfl, fun w' hSw => by clear hSw; go_simp⟩) (by assumption) ?_
    simp only [Act.put, List.setIfInBounds_toArray, List.set_cons_zero, List.set_cons_succ]
    refine wpAnyH_ready (rs := [14]) (by kernel_rfl) (by simp) ?_
    refine AllReadyH.cons (o := { dst := none, op := Op.store 23 (Operand.tmp 36) (Operand.tmp 35), type := 0, pos := "ref.go:57", after := #[{ on := 13, ground := Ground.data }, { on := 12, ground := Ground.data }, { on := 11, ground := Ground.chain }, { on := 0, ground := Ground.phase }, { on := 1, ground := Ground.phase }, { on := 2, ground := Ground.phase }, { on := 3, ground := Ground.phase }, { on := 4, ground := Ground.phase }, { on := 5, ground := Ground.phase }, { on := 6, ground := Ground.phase }, { on := 7, ground := Ground.phase }, { on := 8, ground := Ground.phase }, { on := 9, ground := Ground.phase }, { on := 10, ground := Ground.phase }, { on := 11, ground := Ground.phase }, { on := 12, ground := Ground.phase }], guard := none }) rfl (fun K hK => ?_) (AllReadyH.nil)
    go_simp
    refine hK.out _ _ ((Only.fourG _ _ _ _ _ _).trans (Only.drew _ _) (fun _ _ h => h)) (fun hHeld => ?_)
    clear hK K
    try simp only [Act.put, List.setIfInBounds_toArray, List.set_cons_zero, List.set_cons_succ]
    refine wpAnyH_done (by kernel_rfl) ?_ _
    refine NoPanic.normal ?_
    have HC4 := hide ((HC3.out.four (f := c.f) (m := c.m) (l := c.l) (p := c.p)).more (Only.drew (fun _ => False) _))
    have HO4 := hide ((Only.fourG wc W0.heap.size (.int .i64 c.f) (.int .i64 c.m) (.int .i64 c.l) (.int .i64 c.p)).trans (Only.drew _ _) (fun _ _ h => h))
    rw [Exit.then]
    obtain ⟨W4, hW4⟩ : ∃ x, World.drew ((((wc.setCell ⟨W0.heap.size, 0, none⟩ (.int .i64 c.f)).setCell ⟨W0.heap.size, 1, none⟩ (.int .i64 c.m)).setCell ⟨W0.heap.size, 2, none⟩ (.int .i64 c.l)).setCell ⟨W0.heap.size, 3, none⟩ (.int .i64 c.p)) = x := ⟨_, rfl⟩
    rw [hW4] at HC4 HO4 ⊢
    clear hW4 HC3
    clear c0 c1 c2 c3 c4 c5 c6 cf0 cf1 cf2 cf3 cf4 cf5 cf6
    have HB4 := hide (HB3.out.kept HO4.out (by have := HB.out.lt; omega))
    have HOW4 := hide (newer W0.heap.size HO4.out HO3.out hlt3)
    obtain ⟨c0, c1, c2, c3, c4, c5, c6, _, _, _, _, _, _, _, _⟩ := HC4.out
    go_wp2_with fail
    refine (HE.out _).mono ?_
    rintro e w5 ⟨rfl, ho5⟩
    have HO5 := hide ho5
    have HC5 := hide (HC4.out.more ho5)
    have HB5 := hide (HB4.out.more ho5)
    clear ho5
    clear c0 c1 c2 c3 c4 c5 c6
    obtain ⟨c0, c1, c2, c3, c4, c5, c6, _, _, _, _, _, _, _, _⟩ := HC5.out
    obtain ⟨d0, d1, d2, d3, d4, d5, d6, df0, df1, df2, df3, df4, df5, df6, _⟩ := HB5.out
    go_wp2_with fail
    refine bodyPost_ret (results_ct rfl rfl (HB5.out.all noC)) rfl ?_
    exact ⟨rfl, newer w.heap.size (Only.seven _ _ _ _ _ _ _ _ _) (o2 HO.out (o2 HOW4.out HO5.out)) hlt⟩
set_option maxRecDepth 100000 in
set_option maxHeartbeats 3200000 in
theorem rdecode_place (s : ByteArray) (z : Int) (w : World) (h : s.size = 64) (hok : (rdC (bl s)).ok) (heq : (rdC (bl s)).lay = bl s) (hpar : ¬ (rdC (bl s)).n % 2 = z) :
    Calls Try.prog 19 #[.string s, .int .i64 z] w fun e w' => e = .returned (.tuple #[noC.agg, .int .i64 223]) ∧ Only (fun _ => False) w w' := by
  obtain ⟨c, hc⟩ : ∃ c, rdC (bl s) = c := ⟨_, rfl⟩
  obtain ⟨T1, hT1⟩ : ∃ T, s.extract 4 8 = T := ⟨_, rfl⟩
  have HG1 : Hid (∀ W, Calls Try.prog 27 #[.string T1] W fun e w' => e = .returned (.int .i64 c.f) ∧ w' = W) := fun W => by
    have h := rof_any T1 W (by rw [← hT1, part_size s 4 8 (by omega) (by omega)]; omega)
    rw [← hT1, ext_blG] at h
    rw [← hT1, ← hc]
    exact h
  obtain ⟨T2, hT2⟩ : ∃ T, s.extract 8 12 = T := ⟨_, rfl⟩
  have HG2 : Hid (∀ W, Calls Try.prog 27 #[.string T2] W fun e w' => e = .returned (.int .i64 c.m) ∧ w' = W) := fun W => by
    have h := rof_any T2 W (by rw [← hT2, part_size s 8 12 (by omega) (by omega)]; omega)
    rw [← hT2, ext_blG] at h
    rw [← hT2, ← hc]
    exact h
  obtain ⟨T3, hT3⟩ : ∃ T, s.extract 12 16 = T := ⟨_, rfl⟩
  have HG3 : Hid (∀ W, Calls Try.prog 27 #[.string T3] W fun e w' => e = .returned (.int .i64 c.l) ∧ w' = W) := fun W => by
    have h := rof_any T3 W (by rw [← hT3, part_size s 12 16 (by omega) (by omega)]; omega)
    rw [← hT3, ext_blG] at h
    rw [← hT3, ← hc]
    exact h
  obtain ⟨T4, hT4⟩ : ∃ T, s.extract 16 20 = T := ⟨_, rfl⟩
  have HG4 : Hid (∀ W, Calls Try.prog 27 #[.string T4] W fun e w' => e = .returned (.int .i64 c.p) ∧ w' = W) := fun W => by
    have h := rof_any T4 W (by rw [← hT4, part_size s 16 20 (by omega) (by omega)]; omega)
    rw [← hT4, ext_blG] at h
    rw [← hT4, ← hc]
    exact h
  obtain ⟨T5, hT5⟩ : ∃ T, s.extract 0 4 = T := ⟨_, rfl⟩
  have HG5 : Hid (∀ W, Calls Try.prog 27 #[.string T5] W fun e w' => e = .returned (.int .i64 c.n) ∧ w' = W) := fun W => by
    have h := rof_any T5 W (by rw [← hT5, part_size s 0 4 (by omega) (by omega)]; omega)
    rw [← hT5, ext_blG] at h
    rw [← hT5, ← hc]
    exact h
  obtain ⟨T6, hT6⟩ : ∃ T, s.extract 20 26 = T := ⟨_, rfl⟩
  have HG6 : Hid (∀ W, Calls Try.prog 27 #[.string T6] W fun e w' => e = .returned (.int .i64 c.s) ∧ w' = W) := fun W => by
    have h := rof_any T6 W (by rw [← hT6, part_size s 20 26 (by omega) (by omega)]; omega)
    rw [← hT6, ext_blG] at h
    rw [← hT6, ← hc]
    exact h
  obtain ⟨T7, hT7⟩ : ∃ T, s.extract 26 32 = T := ⟨_, rfl⟩
  have HG7 : Hid (∀ W, Calls Try.prog 27 #[.string T7] W fun e w' => e = .returned (.int .i64 c.k) ∧ w' = W) := fun W => by
    have h := rof_any T7 W (by rw [← hT7, part_size s 26 32 (by omega) (by omega)]; omega)
    rw [← hT7, ext_blG] at h
    rw [← hT7, ← hc]
    exact h
  have hn : 0 ≤ c.n := by have := (rdC_bd (bl s) (by rw [bl_len]; omega)).2.2.2.2.1.1; rw [hc] at this; exact this
  rw [hc] at hok heq hpar
  clear hc
  have HE := hide (fun W => rencode_any c W)
  have hr : c.out = .tuple #[.string (str c.lay), .int .i64 0] := if_pos hok
  rw [hr] at HE
  obtain ⟨L, hL⟩ : ∃ L, str c.lay = L := ⟨_, rfl⟩
  rw [hL] at HE
  have hLs : L = s := by rw [← hL, heq, str_bl]
  have hne : (!L.toList == s.toList) = false := by simp only [ba_eqG hLs, Bool.not_true]
  clear hr hok hL hLs heq
  have ht : c.n.tmod 2 = c.n % 2 := tmod2 hn
  have hp : (c.n % 2 != z) = true := by simpa using hpar
  clear hpar
  have g4 : ¬ (s.size : Int) < 4 := by omega
  have g8 : ¬ (s.size : Int) < 8 := by omega
  have g12 : ¬ (s.size : Int) < 12 := by omega
  have g16 : ¬ (s.size : Int) < 16 := by omega
  have g20 : ¬ (s.size : Int) < 20 := by omega
  have g26 : ¬ (s.size : Int) < 26 := by omega
  have g32 : ¬ (s.size : Int) < 32 := by omega
  clear hn
  have hs : ((s.size : Int) != 64) = false := by
    have : (s.size : Int) = 64 := by omega
    simpa using this
  clear h
  unfold Ct.agg at HE
  have HB := hide (Cb.new w noC)
  have HO := hide (onlyA w (.cells #[.int .i64 0, .int .i64 0, .int .i64 0, .int .i64 0, .int .i64 0, .int .i64 0, .int .i64 0] 25))
  have hlt : w.heap.size ≤ w.heap.size := Nat.le_refl _
  unfold noC at HB
  simp only at HB
  obtain ⟨W0, hW0⟩ : ∃ x, w.alloc (.cells #[.int .i64 0, .int .i64 0, .int .i64 0, .int .i64 0, .int .i64 0, .int .i64 0, .int .i64 0] 25) = x := ⟨_, rfl⟩
  rw [hW0] at HB HO
  go_enter Try.func19, Try.ntmps19
  go_upto_region 3 with fail
  clear hW0
  go_cut [6] (fun t wc => t = .pointer (some ⟨W0.heap.size, 0, none⟩) ∧ Hid (Cb wc W0.heap.size ⟨0, 0, 0, 0, c.n, c.s, c.k⟩) ∧ Hid (Only (fun _ => False) W0 wc))
  case first =>
    have HN := hide (Cb.new W0 ⟨0, 0, 0, 0, c.n, c.s, c.k⟩)
    simp only at HN
    refine wp_region_noPanic ?_
    refine wp_region_held_drew (S := fun W => Only (fun _ => False) W0 W) (by kernel_rfl) (Only.drew _ _) (fun hHeld => ?_)
    refine wpAnyH_take (i := 0) (oi := { dst := some 13, op := Op.move (Operand.tmp 0), type := 9, pos := "ref.go:56", after := #[], guard := none }) (v := .string s) rfl (by kernel_rfl) (by kernel_rfl) (by kernel_rfl) (fun _ _ _ h => h) (Or.inl ⟨by rfl, fun w' hSw => by clear hSw; go_simp⟩) (by assumption) ?_
    simp only [Act.put, List.setIfInBounds_toArray, List.set_cons_zero, List.set_cons_succ]
    refine wpAnyH_take (i := 3) (oi := { dst := some 16, op := Op.move (Operand.tmp 0), type := 9, pos := "ref.go:56", after := #[], guard := none }) (v := .string s) rfl (by kernel_rfl) (by kernel_rfl) (by kernel_rfl) (fun _ _ _ h => h) (Or.inl ⟨by rfl, fun w' hSw => by clear hSw; go_simp⟩) (by assumption) ?_
    simp only [Act.put, List.setIfInBounds_toArray, List.set_cons_zero, List.set_cons_succ]
    refine wpAnyH_take (i := 6) (oi := { dst := some 19, op := Op.move (Operand.tmp 0), type := 9, pos := "ref.go:56", after := #[], guard := none }) (v := .string s) rfl (by kernel_rfl) (by kernel_rfl) (by kernel_rfl) (fun _ _ _ h => h) (Or.inl ⟨by rfl, fun w' hSw => by clear hSw; go_simp⟩) (by assumption) ?_
    simp only [Act.put, List.setIfInBounds_toArray, List.set_cons_zero, List.set_cons_succ]
    refine wpAnyH_take (i := 1) (oi := { dst := some 14, op := Op.slice 9 (Operand.tmp 13) none (some (Operand.const (Value.int IntKind.i64 4))) none, type := 9, pos := "ref.go:56", after := #[{ on := 0, ground := Ground.data }], guard := none }) (v := .string T5) rfl (by kernel_rfl) (by kernel_rfl) (by kernel_rfl) (fun _ _ _ h => h) (Or.inl ⟨by rfl, fun w' hSw => by clear hSw; go_simp⟩) (by assumption) ?_
    simp only [Act.put, List.setIfInBounds_toArray, List.set_cons_zero, List.set_cons_succ]
    refine wpAnyH_take (i := 4) (oi := { dst := some 17, op := Op.slice 9 (Operand.tmp 16) (some (Operand.const (Value.int IntKind.i64 20))) (some (Operand.const (Value.int IntKind.i64 26))) none, type := 9, pos := "ref.go:56", after := #[{ on := 3, ground := Ground.data }], guard := none }) (v := .string T6) rfl (by kernel_rfl) (by kernel_rfl) (by kernel_rfl) (fun _ _ _ h => h) (Or.inl ⟨by rfl, fun w' hSw => by clear hSw; go_simp⟩) (by assumption) ?_
    simp only [Act.put, List.setIfInBounds_toArray, List.set_cons_zero, List.set_cons_succ]
    refine wpAnyH_take (i := 7) (oi := { dst := some 20, op := Op.slice 9 (Operand.tmp 19) (some (Operand.const (Value.int IntKind.i64 26))) (some (Operand.const (Value.int IntKind.i64 32))) none, type := 9, pos := "ref.go:56", after := #[{ on := 6, ground := Ground.data }], guard := none }) (v := .string T7) rfl (by kernel_rfl) (by kernel_rfl) (by kernel_rfl) (fun _ _ _ h => h) (Or.inl ⟨by rfl, fun w' hSw => by clear hSw; go_simp⟩) (by assumption) ?_
    simp only [Act.put, List.setIfInBounds_toArray, List.set_cons_zero, List.set_cons_succ]
    refine wpAnyH_ready (rs := [2, 10]) (by kernel_rfl) (by simp) ?_
    refine AllReadyH.cons (o := { dst := some 15, op := Op.call { callee := Callee.value (Operand.func 27), args := #[Operand.tmp 14], argTypes := #[9] }, type := 3, pos := "ref.go:56", after := #[{ on := 1, ground := Ground.data }], guard := none }) rfl (fun K hK => ?_) (AllReadyH.cons (o := { dst := some 6, op := Op.alloc 25, type := 0, pos := "ref.go:56", after := #[], guard := none }) rfl (fun K hK => ?_) (AllReadyH.nil))
    · go_simp
      refine (HG5.out _).mono ?_
      rintro e y ⟨rfl, hy⟩
      obtain rfl := hy.symm
      clear hy
      refine hK.out _ _ (Only.drew _ _) (fun hHeld => ?_)
      clear hK K
      try simp only [Act.put, List.setIfInBounds_toArray, List.set_cons_zero, List.set_cons_succ]
      refine wpAnyH_ready (rs := [5, 10]) (by kernel_rfl) (by simp) ?_
      refine AllReadyH.cons (o := { dst := some 18, op := Op.call { callee := Callee.value (Operand.func 27), args := #[Operand.tmp 17], argTypes := #[9] }, type := 3, pos := "ref.go:56", after := #[{ on := 4, ground := Ground.data }, { on := 2, ground := Ground.chain }], guard := none }) rfl (fun K hK => ?_) (AllReadyH.cons (o := { dst := some 6, op := Op.alloc 25, type := 0, pos := "ref.go:56", after := #[], guard := none }) rfl (fun K hK => ?_) (AllReadyH.nil))
      · go_simp
        refine (HG6.out _).mono ?_
        rintro e y ⟨rfl, hy⟩
        obtain rfl := hy.symm
        clear hy
        refine hK.out _ _ (Only.drew _ _) (fun hHeld => ?_)
        clear hK K
        try simp only [Act.put, List.setIfInBounds_toArray, List.set_cons_zero, List.set_cons_succ]
        refine wpAnyH_ready (rs := [8, 10]) (by kernel_rfl) (by simp) ?_
        refine AllReadyH.cons (o := { dst := some 21, op := Op.call { callee := Callee.value (Operand.func 27), args := #[Operand.tmp 20], argTypes := #[9] }, type := 3, pos := "ref.go:56", after := #[{ on := 7, ground := Ground.data }, { on := 5, ground := Ground.chain }], guard := none }) rfl (fun K hK => ?_) (AllReadyH.cons (o := { dst := some 6, op := Op.alloc 25, type := 0, pos := "ref.go:56", after := #[], guard := none }) rfl (fun K hK => ?_) (AllReadyH.nil))
        · go_simp
          refine (HG7.out _).mono ?_
          rintro e y ⟨rfl, hy⟩
          obtain rfl := hy.symm
          clear hy
          refine hK.out _ _ (Only.drew _ _) (fun hHeld => ?_)
          clear hK K
          try simp only [Act.put, List.setIfInBounds_toArray, List.set_cons_zero, List.set_cons_succ]
          refine wpAnyH_take (i := 9) (oi := { dst := some 22, op := Op.build 25 #[(1, Operand.tmp 15), (2, Operand.tmp 18), (3, Operand.tmp 21)], type := 25, pos := "ref.go:56", after := #[{ on := 2, ground := Ground.data }, { on := 5, ground := Ground.data }, { on := 8, ground := Ground.data }], guard := none }) (v := .agg #[.int .i64 0, .int .i64 0, .int .i64 0, .int .i64 0, .int .i64 c.n, .int .i64 c.s, .int .i64 c.k]) rfl (by kernel_rfl) (by kernel_rfl) (by kernel_rfl) (fun _ _ _ h => h) (Or.inl ⟨by rfl, fun w' hSw => by clear hSw; go_simp⟩) (by assumption) ?_
          simp only [Act.put, List.setIfInBounds_toArray, List.set_cons_zero, List.set_cons_succ]
          refine wpAnyH_ready (rs := [10]) (by kernel_rfl) (by simp) ?_
          refine AllReadyH.cons (o := { dst := some 6, op := Op.alloc 25, type := 0, pos := "ref.go:56", after := #[], guard := none }) rfl (fun K hK => ?_) (AllReadyH.nil)
          go_simp
          refine hK.out _ _ (o2 (onlyA _ _) (Only.drew _ _)) (fun hHeld => ?_)
          clear hK K
          try simp only [Act.put, List.setIfInBounds_toArray, List.set_cons_zero, List.set_cons_succ]
          refine wpAnyH_ready (rs := [11]) (by kernel_rfl) (by simp) ?_
          refine AllReadyH.cons (o := { dst := none, op := Op.store 25 (Operand.tmp 6) (Operand.tmp 22), type := 0, pos := "ref.go:56", after := #[{ on := 10, ground := Ground.data }, { on := 9, ground := Ground.data }, { on := 8, ground := Ground.chain }, { on := 0, ground := Ground.phase }, { on := 1, ground := Ground.phase }, { on := 2, ground := Ground.phase }, { on := 3, ground := Ground.phase }, { on := 4, ground := Ground.phase }, { on := 5, ground := Ground.phase }, { on := 6, ground := Ground.phase }, { on := 7, ground := Ground.phase }, { on := 8, ground := Ground.phase }, { on := 9, ground := Ground.phase }, { on := 10, ground := Ground.phase }], guard := none }) rfl (fun K hK => ?_) (AllReadyH.nil)
          go_simp
          refine hK.out _ _ (o2 (onlyA _ _) (Only.drew _ _)) (fun hHeld => ?_)
          clear hK K
          try simp only [Act.put, List.setIfInBounds_toArray, List.set_cons_zero, List.set_cons_succ]
          refine wpAnyH_done (by kernel_rfl) ?_ _
          refine NoPanic.normal ?_
          go_wp2_with fail
          go_meet
          exact ⟨rfl, HN.out.more (Only.drew _ _), o2 (onlyA _ _) (Only.drew _ _)⟩
        · go_simp
          refine hK.out _ _ (o2 (onlyA _ _) (Only.drew _ _)) (fun hHeld => ?_)
          clear hK K
          try simp only [Act.put, List.setIfInBounds_toArray, List.set_cons_zero, List.set_cons_succ]
          refine wpAnyH_ready (rs := [8]) (by kernel_rfl) (by simp) ?_
          refine AllReadyH.cons (o := { dst := some 21, op := Op.call { callee := Callee.value (Operand.func 27), args := #[Operand.tmp 20], argTypes := #[9] }, type := 3, pos := "ref.go:56", after := #[{ on := 7, ground := Ground.data }, { on := 5, ground := Ground.chain }], guard := none }) rfl (fun K hK => ?_) (AllReadyH.nil)
          go_simp
          refine (HG7.out _).mono ?_
          rintro e y ⟨rfl, hy⟩
          obtain rfl := hy.symm
          clear hy
          refine hK.out _ _ (o2 (onlyA _ _) (Only.drew _ _)) (fun hHeld => ?_)
          clear hK K
          try simp only [Act.put, List.setIfInBounds_toArray, List.set_cons_zero, List.set_cons_succ]
          refine wpAnyH_take (i := 9) (oi := { dst := some 22, op := Op.build 25 #[(1, Operand.tmp 15), (2, Operand.tmp 18), (3, Operand.tmp 21)], type := 25, pos := "ref.go:56", after := #[{ on := 2, ground := Ground.data }, { on := 5, ground := Ground.data }, { on := 8, ground := Ground.data }], guard := none }) (v := .agg #[.int .i64 0, .int .i64 0, .int .i64 0, .int .i64 0, .int .i64 c.n, .int .i64 c.s, .int .i64 c.k]) rfl (by kernel_rfl) (by kernel_rfl) (by kernel_rfl) (fun _ _ _ h => h) (Or.inl ⟨by rfl, fun w' hSw => by clear hSw; go_simp⟩) (by assumption) ?_
          simp only [Act.put, List.setIfInBounds_toArray, List.set_cons_zero, List.set_cons_succ]
          refine wpAnyH_ready (rs := [11]) (by kernel_rfl) (by simp) ?_
          refine AllReadyH.cons (o := { dst := none, op := Op.store 25 (Operand.tmp 6) (Operand.tmp 22), type := 0, pos := "ref.go:56", after := #[{ on := 10, ground := Ground.data }, { on := 9, ground := Ground.data }, { on := 8, ground := Ground.chain }, { on := 0, ground := Ground.phase }, { on := 1, ground := Ground.phase }, { on := 2, ground := Ground.phase }, { on := 3, ground := Ground.phase }, { on := 4, ground := Ground.phase }, { on := 5, ground := Ground.phase }, { on := 6, ground := Ground.phase }, { on := 7, ground := Ground.phase }, { on := 8, ground := Ground.phase }, { on := 9, ground := Ground.phase }, { on := 10, ground := Ground.phase }], guard := none }) rfl (fun K hK => ?_) (AllReadyH.nil)
          go_simp
          refine hK.out _ _ (o2 (onlyA _ _) (Only.drew _ _)) (fun hHeld => ?_)
          clear hK K
          try simp only [Act.put, List.setIfInBounds_toArray, List.set_cons_zero, List.set_cons_succ]
          refine wpAnyH_done (by kernel_rfl) ?_ _
          refine NoPanic.normal ?_
          go_wp2_with fail
          go_meet
          exact ⟨rfl, HN.out.more (Only.drew _ _), o2 (onlyA _ _) (Only.drew _ _)⟩
      · go_simp
        refine hK.out _ _ (o2 (onlyA _ _) (Only.drew _ _)) (fun hHeld => ?_)
        clear hK K
        try simp only [Act.put, List.setIfInBounds_toArray, List.set_cons_zero, List.set_cons_succ]
        refine wpAnyH_ready (rs := [5]) (by kernel_rfl) (by simp) ?_
        refine AllReadyH.cons (o := { dst := some 18, op := Op.call { callee := Callee.value (Operand.func 27), args := #[Operand.tmp 17], argTypes := #[9] }, type := 3, pos := "ref.go:56", after := #[{ on := 4, ground := Ground.data }, { on := 2, ground := Ground.chain }], guard := none }) rfl (fun K hK => ?_) (AllReadyH.nil)
        go_simp
        refine (HG6.out _).mono ?_
        rintro e y ⟨rfl, hy⟩
        obtain rfl := hy.symm
        clear hy
        refine hK.out _ _ (o2 (onlyA _ _) (Only.drew _ _)) (fun hHeld => ?_)
        clear hK K
        try simp only [Act.put, List.setIfInBounds_toArray, List.set_cons_zero, List.set_cons_succ]
        refine wpAnyH_ready (rs := [8]) (by kernel_rfl) (by simp) ?_
        refine AllReadyH.cons (o := { dst := some 21, op := Op.call { callee := Callee.value (Operand.func 27), args := #[Operand.tmp 20], argTypes := #[9] }, type := 3, pos := "ref.go:56", after := #[{ on := 7, ground := Ground.data }, { on := 5, ground := Ground.chain }], guard := none }) rfl (fun K hK => ?_) (AllReadyH.nil)
        go_simp
        refine (HG7.out _).mono ?_
        rintro e y ⟨rfl, hy⟩
        obtain rfl := hy.symm
        clear hy
        refine hK.out _ _ (o2 (onlyA _ _) (Only.drew _ _)) (fun hHeld => ?_)
        clear hK K
        try simp only [Act.put, List.setIfInBounds_toArray, List.set_cons_zero, List.set_cons_succ]
        refine wpAnyH_take (i := 9) (oi := { dst := some 22, op := Op.build 25 #[(1, Operand.tmp 15), (2, Operand.tmp 18), (3, Operand.tmp 21)], type := 25, pos := "ref.go:56", after := #[{ on := 2, ground := Ground.data }, { on := 5, ground := Ground.data }, { on := 8, ground := Ground.data }], guard := none }) (v := .agg #[.int .i64 0, .int .i64 0, .int .i64 0, .int .i64 0, .int .i64 c.n, .int .i64 c.s, .int .i64 c.k]) rfl (by kernel_rfl) (by kernel_rfl) (by kernel_rfl) (fun _ _ _ h => h) (Or.inl ⟨by rfl, fun w' hSw => by clear hSw; go_simp⟩) (by assumption) ?_
        simp only [Act.put, List.setIfInBounds_toArray, List.set_cons_zero, List.set_cons_succ]
        refine wpAnyH_ready (rs := [11]) (by kernel_rfl) (by simp) ?_
        refine AllReadyH.cons (o := { dst := none, op := Op.store 25 (Operand.tmp 6) (Operand.tmp 22), type := 0, pos := "ref.go:56", after := #[{ on := 10, ground := Ground.data }, { on := 9, ground := Ground.data }, { on := 8, ground := Ground.chain }, { on := 0, ground := Ground.phase }, { on := 1, ground := Ground.phase }, { on := 2, ground := Ground.phase }, { on := 3, ground := Ground.phase }, { on := 4, ground := Ground.phase }, { on := 5, ground := Ground.phase }, { on := 6, ground := Ground.phase }, { on := 7, ground := Ground.phase }, { on := 8, ground := Ground.phase }, { on := 9, ground := Ground.phase }, { on := 10, ground := Ground.phase }], guard := none }) rfl (fun K hK => ?_) (AllReadyH.nil)
        go_simp
        refine hK.out _ _ (o2 (onlyA _ _) (Only.drew _ _)) (fun hHeld => ?_)
        clear hK K
        try simp only [Act.put, List.setIfInBounds_toArray, List.set_cons_zero, List.set_cons_succ]
        refine wpAnyH_done (by kernel_rfl) ?_ _
        refine NoPanic.normal ?_
        go_wp2_with fail
        go_meet
        exact ⟨rfl, HN.out.more (Only.drew _ _), o2 (onlyA _ _) (Only.drew _ _)⟩
    · go_simp
      refine hK.out _ _ (o2 (onlyA _ _) (Only.drew _ _)) (fun hHeld => ?_)
      clear hK K
      try simp only [Act.put, List.setIfInBounds_toArray, List.set_cons_zero, List.set_cons_succ]
      refine wpAnyH_ready (rs := [2]) (by kernel_rfl) (by simp) ?_
      refine AllReadyH.cons (o := { dst := some 15, op := Op.call { callee := Callee.value (Operand.func 27), args := #[Operand.tmp 14], argTypes := #[9] }, type := 3, pos := "ref.go:56", after := #[{ on := 1, ground := Ground.data }], guard := none }) rfl (fun K hK => ?_) (AllReadyH.nil)
      go_simp
      refine (HG5.out _).mono ?_
      rintro e y ⟨rfl, hy⟩
      obtain rfl := hy.symm
      clear hy
      refine hK.out _ _ (o2 (onlyA _ _) (Only.drew _ _)) (fun hHeld => ?_)
      clear hK K
      try simp only [Act.put, List.setIfInBounds_toArray, List.set_cons_zero, List.set_cons_succ]
      refine wpAnyH_ready (rs := [5]) (by kernel_rfl) (by simp) ?_
      refine AllReadyH.cons (o := { dst := some 18, op := Op.call { callee := Callee.value (Operand.func 27), args := #[Operand.tmp 17], argTypes := #[9] }, type := 3, pos := "ref.go:56", after := #[{ on := 4, ground := Ground.data }, { on := 2, ground := Ground.chain }], guard := none }) rfl (fun K hK => ?_) (AllReadyH.nil)
      go_simp
      refine (HG6.out _).mono ?_
      rintro e y ⟨rfl, hy⟩
      obtain rfl := hy.symm
      clear hy
      refine hK.out _ _ (o2 (onlyA _ _) (Only.drew _ _)) (fun hHeld => ?_)
      clear hK K
      try simp only [Act.put, List.setIfInBounds_toArray, List.set_cons_zero, List.set_cons_succ]
      refine wpAnyH_ready (rs := [8]) (by kernel_rfl) (by simp) ?_
      refine AllReadyH.cons (o := { dst := some 21, op := Op.call { callee := Callee.value (Operand.func 27), args := #[Operand.tmp 20], argTypes := #[9] }, type := 3, pos := "ref.go:56", after := #[{ on := 7, ground := Ground.data }, { on := 5, ground := Ground.chain }], guard := none }) rfl (fun K hK => ?_) (AllReadyH.nil)
      go_simp
      refine (HG7.out _).mono ?_
      rintro e y ⟨rfl, hy⟩
      obtain rfl := hy.symm
      clear hy
      refine hK.out _ _ (o2 (onlyA _ _) (Only.drew _ _)) (fun hHeld => ?_)
      clear hK K
      try simp only [Act.put, List.setIfInBounds_toArray, List.set_cons_zero, List.set_cons_succ]
      refine wpAnyH_take (i := 9) (oi := { dst := some 22, op := Op.build 25 #[(1, Operand.tmp 15), (2, Operand.tmp 18), (3, Operand.tmp 21)], type := 25, pos := "ref.go:56", after := #[{ on := 2, ground := Ground.data }, { on := 5, ground := Ground.data }, { on := 8, ground := Ground.data }], guard := none }) (v := .agg #[.int .i64 0, .int .i64 0, .int .i64 0, .int .i64 0, .int .i64 c.n, .int .i64 c.s, .int .i64 c.k]) rfl (by kernel_rfl) (by kernel_rfl) (by kernel_rfl) (fun _ _ _ h => h) (Or.inl ⟨by rfl, fun w' hSw => by clear hSw; go_simp⟩) (by assumption) ?_
      simp only [Act.put, List.setIfInBounds_toArray, List.set_cons_zero, List.set_cons_succ]
      refine wpAnyH_ready (rs := [11]) (by kernel_rfl) (by simp) ?_
      refine AllReadyH.cons (o := { dst := none, op := Op.store 25 (Operand.tmp 6) (Operand.tmp 22), type := 0, pos := "ref.go:56", after := #[{ on := 10, ground := Ground.data }, { on := 9, ground := Ground.data }, { on := 8, ground := Ground.chain }, { on := 0, ground := Ground.phase }, { on := 1, ground := Ground.phase }, { on := 2, ground := Ground.phase }, { on := 3, ground := Ground.phase }, { on := 4, ground := Ground.phase }, { on := 5, ground := Ground.phase }, { on := 6, ground := Ground.phase }, { on := 7, ground := Ground.phase }, { on := 8, ground := Ground.phase }, { on := 9, ground := Ground.phase }, { on := 10, ground := Ground.phase }], guard := none }) rfl (fun K hK => ?_) (AllReadyH.nil)
      go_simp
      refine hK.out _ _ (o2 (onlyA _ _) (Only.drew _ _)) (fun hHeld => ?_)
      clear hK K
      try simp only [Act.put, List.setIfInBounds_toArray, List.set_cons_zero, List.set_cons_succ]
      refine wpAnyH_done (by kernel_rfl) ?_ _
      refine NoPanic.normal ?_
      go_wp2_with fail
      go_meet
      exact ⟨rfl, HN.out.more (Only.drew _ _), o2 (onlyA _ _) (Only.drew _ _)⟩
  case rest =>
    obtain ⟨rfl, HC3, HO3⟩ := hcut
    have HB3 := hide (HB.out.more HO3.out)
    have hlt3 : W0.heap.size ≤ W0.heap.size := Nat.le_refl _
    go_upto_region 4 with fail
    obtain ⟨c0, c1, c2, c3, c4, c5, c6, cf0, cf1, cf2, cf3, cf4, cf5, cf6, _⟩ := HC3.out
    refine wp_region_noPanic ?_
    refine wp_region_held_drew (S := fun W => Only (fun k => k = W0.heap.size) wc W) (by kernel_rfl) (Only.drew _ _) (fun hHeld => ?_)
    refine wpAnyH_take (i := 0) (oi := { dst := some 23, op := Op.move (Operand.tmp 0), type := 9, pos := "ref.go:57", after := #[], guard := none }) (v := .string s) rfl (by kernel_rfl) (by kernel_rfl) (by kernel_rfl) (fun _ _ _ h => h) (Or.inl ⟨by rfl, fun w' hSw => by clear hSw; go_simp⟩) (by assumption) ?_
    simp only [Act.put, List.setIfInBounds_toArray, List.set_cons_zero, List.set_cons_succ]
    refine wpAnyH_take (i := 3) (oi := { dst := some 26, op := Op.move (Operand.tmp 0), type := 9, pos := "ref.go:57", after := #[], guard := none }) (v := .string s) rfl (by kernel_rfl) (by kernel_rfl) (by kernel_rfl) (fun _ _ _ h => h) (Or.inl ⟨by rfl, fun w' hSw => by clear hSw; go_simp⟩) (by assumption) ?_
    simp only [Act.put, List.setIfInBounds_toArray, List.set_cons_zero, List.set_cons_succ]
    refine wpAnyH_take (i := 6) (oi := { dst := some 29, op := Op.move (Operand.tmp 0), type := 9, pos := "ref.go:57", after := #[], guard := none }) (v := .string s) rfl (by kernel_rfl) (by kernel_rfl) (by kernel_rfl) (fun _ _ _ h => h) (Or.inl ⟨by rfl, fun w' hSw => by clear hSw; go_simp⟩) (by assumption) ?_
    simp only [Act.put, List.setIfInBounds_toArray, List.set_cons_zero, List.set_cons_succ]
    refine wpAnyH_take (i := 9) (oi := { dst := some 32, op := Op.move (Operand.tmp 0), type := 9, pos := "ref.go:57", after := #[], guard := none }) (v := .string s) rfl (by kernel_rfl) (by kernel_rfl) (by kernel_rfl) (fun _ _ _ h => h) (Or.inl ⟨by rfl, fun w' hSw => by clear hSw; go_simp⟩) (by assumption) ?_
    simp only [Act.put, List.setIfInBounds_toArray, List.set_cons_zero, List.set_cons_succ]
    refine wpAnyH_take (i := 1) (oi := { dst := some 24, op := Op.slice 9 (Operand.tmp 23) (some (Operand.const (Value.int IntKind.i64 4))) (some (Operand.const (Value.int IntKind.i64 8))) none, type := 9, pos := "ref.go:57", after := #[{ on := 0, ground := Ground.data }], guard := none }) (v := .string T1) rfl (by kernel_rfl) (by kernel_rfl) (by kernel_rfl) (fun _ _ _ h => h) (Or.inl ⟨by rfl, fun w' hSw => by clear hSw; go_simp⟩) (by assumption) ?_
    simp only [Act.put, List.setIfInBounds_toArray, List.set_cons_zero, List.set_cons_succ]
    refine wpAnyH_take (i := 4) (oi := { dst := some 27, op := Op.slice 9 (Operand.tmp 26) (some (Operand.const (Value.int IntKind.i64 8))) (some (Operand.const (Value.int IntKind.i64 12))) none, type := 9, pos := "ref.go:57", after := #[{ on := 3, ground := Ground.data }], guard := none }) (v := .string T2) rfl (by kernel_rfl) (by kernel_rfl) (by kernel_rfl) (fun _ _ _ h => h) (Or.inl ⟨by rfl, fun w' hSw => by clear hSw; go_simp⟩) (by assumption) ?_
    simp only [Act.put, List.setIfInBounds_toArray, List.set_cons_zero, List.set_cons_succ]
    refine wpAnyH_take (i := 7) (oi := { dst := some 30, op := Op.slice 9 (Operand.tmp 29) (some (Operand.const (Value.int IntKind.i64 12))) (some (Operand.const (Value.int IntKind.i64 16))) none, type := 9, pos := "ref.go:57", after := #[{ on := 6, ground := Ground.data }], guard := none }) (v := .string T3) rfl (by kernel_rfl) (by kernel_rfl) (by kernel_rfl) (fun _ _ _ h => h) (Or.inl ⟨by rfl, fun w' hSw => by clear hSw; go_simp⟩) (by assumption) ?_
    simp only [Act.put, List.setIfInBounds_toArray, List.set_cons_zero, List.set_cons_succ]
    refine wpAnyH_take (i := 10) (oi := { dst := some 33, op := Op.slice 9 (Operand.tmp 32) (some (Operand.const (Value.int IntKind.i64 16))) (some (Operand.const (Value.int IntKind.i64 20))) none, type := 9, pos := "ref.go:57", after := #[{ on := 9, ground := Ground.data }], guard := none }) (v := .string T4) rfl (by kernel_rfl) (by kernel_rfl) (by kernel_rfl) (fun _ _ _ h => h) (Or.inl ⟨by rfl, fun w' hSw => by clear hSw; go_simp⟩) (by assumption) ?_
    simp only [Act.put, List.setIfInBounds_toArray, List.set_cons_zero, List.set_cons_succ]
    refine wpAnyH_ready (rs := [2]) (by kernel_rfl) (by simp) ?_
    refine AllReadyH.cons (o := { dst := some 25, op := Op.call { callee := Callee.value (Operand.func 27), args := #[Operand.tmp 24], argTypes := #[9] }, type := 3, pos := "ref.go:57", after := #[{ on := 1, ground := Ground.data }], guard := none }) rfl (fun K hK => ?_) (AllReadyH.nil)
    go_simp
    refine (HG1.out _).mono ?_
    rintro e y ⟨rfl, hy⟩
    obtain rfl := hy.symm
    clear hy
    refine hK.out _ _ (Only.drew _ _) (fun hHeld => ?_)
    clear hK K
    try simp only [Act.put, List.setIfInBounds_toArray, List.set_cons_zero, List.set_cons_succ]
    refine wpAnyH_ready (rs := [5]) (by kernel_rfl) (by simp) ?_
    refine AllReadyH.cons (o := { dst := some 28, op := Op.call { callee := Callee.value (Operand.func 27), args := #[Operand.tmp 27], argTypes := #[9] }, type := 3, pos := "ref.go:57", after := #[{ on := 4, ground := Ground.data }, { on := 2, ground := Ground.chain }], guard := none }) rfl (fun K hK => ?_) (AllReadyH.nil)
    go_simp
    refine (HG2.out _).mono ?_
    rintro e y ⟨rfl, hy⟩
    obtain rfl := hy.symm
    clear hy
    refine hK.out _ _ (Only.drew _ _) (fun hHeld => ?_)
    clear hK K
    try simp only [Act.put, List.setIfInBounds_toArray, List.set_cons_zero, List.set_cons_succ]
    refine wpAnyH_ready (rs := [8]) (by kernel_rfl) (by simp) ?_
    refine AllReadyH.cons (o := { dst := some 31, op := Op.call { callee := Callee.value (Operand.func 27), args := #[Operand.tmp 30], argTypes := #[9] }, type := 3, pos := "ref.go:57", after := #[{ on := 7, ground := Ground.data }, { on := 5, ground := Ground.chain }], guard := none }) rfl (fun K hK => ?_) (AllReadyH.nil)
    go_simp
    refine (HG3.out _).mono ?_
    rintro e y ⟨rfl, hy⟩
    obtain rfl := hy.symm
    clear hy
    refine hK.out _ _ (Only.drew _ _) (fun hHeld => ?_)
    clear hK K
    try simp only [Act.put, List.setIfInBounds_toArray, List.set_cons_zero, List.set_cons_succ]
    refine wpAnyH_ready (rs := [11]) (by kernel_rfl) (by simp) ?_
    refine AllReadyH.cons (o := { dst := some 34, op := Op.call { callee := Callee.value (Operand.func 27), args := #[Operand.tmp 33], argTypes := #[9] }, type := 3, pos := "ref.go:57", after := #[{ on := 10, ground := Ground.data }, { on := 8, ground := Ground.chain }], guard := none }) rfl (fun K hK => ?_) (AllReadyH.nil)
    go_simp
    refine (HG4.out _).mono ?_
    rintro e y ⟨rfl, hy⟩
    obtain rfl := hy.symm
    clear hy
    refine hK.out _ _ (Only.drew _ _) (fun hHeld => ?_)
    clear hK K
    try simp only [Act.put, List.setIfInBounds_toArray, List.set_cons_zero, List.set_cons_succ]
    refine wpAnyH_take (i := 12) (oi := { dst := some 35, op := Op.build 23 #[(0, Operand.tmp 25), (1, Operand.tmp 28), (2, Operand.tmp 31), (3, Operand.tmp 34)], type := 23, pos := "ref.go:57", after := #[{ on := 2, ground := Ground.data }, { on := 5, ground := Ground.data }, { on := 8, ground := Ground.data }, { on := 11, ground := Ground.data }], guard := none }) (v := .agg #[.int .i64 c.f, .int .i64 c.m, .int .i64 c.l, .int .i64 c.p]) rfl (by kernel_rfl) (by kernel_rfl) (by kernel_rfl) (fun _ _ _ h => h) (Or.inl ⟨by rfl, fun w' hSw => by clear hSw; go_simp⟩) (by assumption) ?_
    simp only [Act.put, List.setIfInBounds_toArray, List.set_cons_zero, List.set_cons_succ]
    refine wpAnyH_take (i := 13) (oi := { dst := some 36, op := Op.fieldAddr 25 (Operand.tmp 6) 0, type := 0, pos := "ref.go:57", after := #[{ on := 0, ground := Ground.phase }, { on := 1, ground := Ground.phase }, { on := 2, ground := Ground.phase }, { on := 3, ground := Ground.phase }, { on := 4, ground := Ground.phase }, { on := 5, ground := Ground.phase }, { on := 6, ground := Ground.phase }, { on := 7, ground := Ground.phase }, { on := 8, ground := Ground.phase }, { on := 9, ground := Ground.phase }, { on := 10, ground := Ground.phase }, { on := 11, ground := Ground.phase }, { on := 12, ground := Ground.phase }], guard := none }) (v := .pointer (some ⟨W0.heap.size, 0, none⟩)) rfl (by kernel_rfl) (by kernel_rfl) (by kernel_rfl) (fun _ _ _ h => h) (Or.inl ⟨by rfl, fun w' hSw => by clear hSw; go_simp⟩) (by assumption) ?_
    simp only [Act.put, List.setIfInBounds_toArray, List.set_cons_zero, List.set_cons_succ]
    refine wpAnyH_ready (rs := [14]) (by kernel_rfl) (by simp) ?_
    refine AllReadyH.cons (o := { dst := none, op := Op.store 23 (Operand.tmp 36) (Operand.tmp 35), type := 0, pos := "ref.go:57", after := #[{ on := 13, ground := Ground.data }, { on := 12, ground := Ground.data }, { on := 11, ground := Ground.chain }, { on := 0, ground := Ground.phase }, { on := 1, ground := Ground.phase }, { on := 2, ground := Ground.phase }, { on := 3, ground := Ground.phase }, { on := 4, ground := Ground.phase }, { on := 5, ground := Ground.phase }, { on := 6, ground := Ground.phase }, { on := 7, ground := Ground.phase }, { on := 8, ground := Ground.phase }, { on := 9, ground := Ground.phase }, { on := 10, ground := Ground.phase }, { on := 11, ground := Ground.phase }, { on := 12, ground := Ground.phase }], guard := none }) rfl (fun K hK => ?_) (AllReadyH.nil)
    go_simp
    refine hK.out _ _ ((Only.fourG _ _ _ _ _ _).trans (Only.drew _ _) (fun _ _ h => h)) (fun hHeld => ?_)
    clear hK K
    try simp only [Act.put, List.setIfInBounds_toArray, List.set_cons_zero, List.set_cons_succ]
    refine wpAnyH_done (by kernel_rfl) ?_ _
    refine NoPanic.normal ?_
    have HC4 := hide ((HC3.out.four (f := c.f) (m := c.m) (l := c.l) (p := c.p)).more (Only.drew (fun _ => False) _))
    have HO4 := hide ((Only.fourG wc W0.heap.size (.int .i64 c.f) (.int .i64 c.m) (.int .i64 c.l) (.int .i64 c.p)).trans (Only.drew _ _) (fun _ _ h => h))
    rw [Exit.then]
    obtain ⟨W4, hW4⟩ : ∃ x, World.drew ((((wc.setCell ⟨W0.heap.size, 0, none⟩ (.int .i64 c.f)).setCell ⟨W0.heap.size, 1, none⟩ (.int .i64 c.m)).setCell ⟨W0.heap.size, 2, none⟩ (.int .i64 c.l)).setCell ⟨W0.heap.size, 3, none⟩ (.int .i64 c.p)) = x := ⟨_, rfl⟩
    rw [hW4] at HC4 HO4 ⊢
    clear hW4 HC3
    clear c0 c1 c2 c3 c4 c5 c6 cf0 cf1 cf2 cf3 cf4 cf5 cf6
    have HB4 := hide (HB3.out.kept HO4.out (by have := HB.out.lt; omega))
    have HOW4 := hide (newer W0.heap.size HO4.out HO3.out hlt3)
    obtain ⟨c0, c1, c2, c3, c4, c5, c6, _, _, _, _, _, _, _, _⟩ := HC4.out
    go_wp2_with fail
    refine (HE.out _).mono ?_
    rintro e w5 ⟨rfl, ho5⟩
    have HO5 := hide ho5
    have HC5 := hide (HC4.out.more ho5)
    have HB5 := hide (HB4.out.more ho5)
    clear ho5
    clear c0 c1 c2 c3 c4 c5 c6
    obtain ⟨c0, c1, c2, c3, c4, c5, c6, _, _, _, _, _, _, _, _⟩ := HC5.out
    obtain ⟨d0, d1, d2, d3, d4, d5, d6, df0, df1, df2, df3, df4, df5, df6, _⟩ := HB5.out
    go_wp2_with fail
    refine bodyPost_ret (results_ct rfl rfl (HB5.out.all noC)) rfl ?_
    exact ⟨rfl, newer w.heap.size (Only.seven _ _ _ _ _ _ _ _ _) (o2 HO.out (o2 HOW4.out HO5.out)) hlt⟩
set_option maxRecDepth 100000 in
set_option maxHeartbeats 3200000 in
theorem rdecode_there (s : ByteArray) (z : Int) (w : World) (h : s.size = 64) (hok : (rdC (bl s)).ok) (heq : (rdC (bl s)).lay = bl s) (hpar : (rdC (bl s)).n % 2 = z) :
    Calls Try.prog 19 #[.string s, .int .i64 z] w fun e w' => e = .returned (.tuple #[(rdC (bl s)).agg, .int .i64 0]) ∧ Only (fun _ => False) w w' := by
  obtain ⟨c, hc⟩ : ∃ c, rdC (bl s) = c := ⟨_, rfl⟩
  obtain ⟨T1, hT1⟩ : ∃ T, s.extract 4 8 = T := ⟨_, rfl⟩
  have HG1 : Hid (∀ W, Calls Try.prog 27 #[.string T1] W fun e w' => e = .returned (.int .i64 c.f) ∧ w' = W) := fun W => by
    have h := rof_any T1 W (by rw [← hT1, part_size s 4 8 (by omega) (by omega)]; omega)
    rw [← hT1, ext_blG] at h
    rw [← hT1, ← hc]
    exact h
  obtain ⟨T2, hT2⟩ : ∃ T, s.extract 8 12 = T := ⟨_, rfl⟩
  have HG2 : Hid (∀ W, Calls Try.prog 27 #[.string T2] W fun e w' => e = .returned (.int .i64 c.m) ∧ w' = W) := fun W => by
    have h := rof_any T2 W (by rw [← hT2, part_size s 8 12 (by omega) (by omega)]; omega)
    rw [← hT2, ext_blG] at h
    rw [← hT2, ← hc]
    exact h
  obtain ⟨T3, hT3⟩ : ∃ T, s.extract 12 16 = T := ⟨_, rfl⟩
  have HG3 : Hid (∀ W, Calls Try.prog 27 #[.string T3] W fun e w' => e = .returned (.int .i64 c.l) ∧ w' = W) := fun W => by
    have h := rof_any T3 W (by rw [← hT3, part_size s 12 16 (by omega) (by omega)]; omega)
    rw [← hT3, ext_blG] at h
    rw [← hT3, ← hc]
    exact h
  obtain ⟨T4, hT4⟩ : ∃ T, s.extract 16 20 = T := ⟨_, rfl⟩
  have HG4 : Hid (∀ W, Calls Try.prog 27 #[.string T4] W fun e w' => e = .returned (.int .i64 c.p) ∧ w' = W) := fun W => by
    have h := rof_any T4 W (by rw [← hT4, part_size s 16 20 (by omega) (by omega)]; omega)
    rw [← hT4, ext_blG] at h
    rw [← hT4, ← hc]
    exact h
  obtain ⟨T5, hT5⟩ : ∃ T, s.extract 0 4 = T := ⟨_, rfl⟩
  have HG5 : Hid (∀ W, Calls Try.prog 27 #[.string T5] W fun e w' => e = .returned (.int .i64 c.n) ∧ w' = W) := fun W => by
    have h := rof_any T5 W (by rw [← hT5, part_size s 0 4 (by omega) (by omega)]; omega)
    rw [← hT5, ext_blG] at h
    rw [← hT5, ← hc]
    exact h
  obtain ⟨T6, hT6⟩ : ∃ T, s.extract 20 26 = T := ⟨_, rfl⟩
  have HG6 : Hid (∀ W, Calls Try.prog 27 #[.string T6] W fun e w' => e = .returned (.int .i64 c.s) ∧ w' = W) := fun W => by
    have h := rof_any T6 W (by rw [← hT6, part_size s 20 26 (by omega) (by omega)]; omega)
    rw [← hT6, ext_blG] at h
    rw [← hT6, ← hc]
    exact h
  obtain ⟨T7, hT7⟩ : ∃ T, s.extract 26 32 = T := ⟨_, rfl⟩
  have HG7 : Hid (∀ W, Calls Try.prog 27 #[.string T7] W fun e w' => e = .returned (.int .i64 c.k) ∧ w' = W) := fun W => by
    have h := rof_any T7 W (by rw [← hT7, part_size s 26 32 (by omega) (by omega)]; omega)
    rw [← hT7, ext_blG] at h
    rw [← hT7, ← hc]
    exact h
  have hn : 0 ≤ c.n := by have := (rdC_bd (bl s) (by rw [bl_len]; omega)).2.2.2.2.1.1; rw [hc] at this; exact this
  rw [hc] at hok heq hpar ⊢
  clear hc
  have HE := hide (fun W => rencode_any c W)
  have hr : c.out = .tuple #[.string (str c.lay), .int .i64 0] := if_pos hok
  rw [hr] at HE
  obtain ⟨L, hL⟩ : ∃ L, str c.lay = L := ⟨_, rfl⟩
  rw [hL] at HE
  have hLs : L = s := by rw [← hL, heq, str_bl]
  have hne : (!L.toList == s.toList) = false := by simp only [ba_eqG hLs, Bool.not_true]
  clear hr hok hL hLs heq
  have ht : c.n.tmod 2 = c.n % 2 := tmod2 hn
  have hp : (c.n % 2 != z) = false := by simpa using hpar
  clear hpar
  have g4 : ¬ (s.size : Int) < 4 := by omega
  have g8 : ¬ (s.size : Int) < 8 := by omega
  have g12 : ¬ (s.size : Int) < 12 := by omega
  have g16 : ¬ (s.size : Int) < 16 := by omega
  have g20 : ¬ (s.size : Int) < 20 := by omega
  have g26 : ¬ (s.size : Int) < 26 := by omega
  have g32 : ¬ (s.size : Int) < 32 := by omega
  clear hn
  have hs : ((s.size : Int) != 64) = false := by
    have : (s.size : Int) = 64 := by omega
    simpa using this
  clear h
  unfold Ct.agg at HE ⊢
  have HB := hide (Cb.new w noC)
  have HO := hide (onlyA w (.cells #[.int .i64 0, .int .i64 0, .int .i64 0, .int .i64 0, .int .i64 0, .int .i64 0, .int .i64 0] 25))
  have hlt : w.heap.size ≤ w.heap.size := Nat.le_refl _
  unfold noC at HB
  simp only at HB
  obtain ⟨W0, hW0⟩ : ∃ x, w.alloc (.cells #[.int .i64 0, .int .i64 0, .int .i64 0, .int .i64 0, .int .i64 0, .int .i64 0, .int .i64 0] 25) = x := ⟨_, rfl⟩
  rw [hW0] at HB HO
  go_enter Try.func19, Try.ntmps19
  go_upto_region 3 with fail
  clear hW0
  go_cut [6] (fun t wc => t = .pointer (some ⟨W0.heap.size, 0, none⟩) ∧ Hid (Cb wc W0.heap.size ⟨0, 0, 0, 0, c.n, c.s, c.k⟩) ∧ Hid (Only (fun _ => False) W0 wc))
  case first =>
    have HN := hide (Cb.new W0 ⟨0, 0, 0, 0, c.n, c.s, c.k⟩)
    simp only at HN
    refine wp_region_noPanic ?_
    refine wp_region_held_drew (S := fun W => Only (fun _ => False) W0 W) (by kernel_rfl) (Only.drew _ _) (fun hHeld => ?_)
    refine wpAnyH_take (i := 0) (oi := { dst := some 13, op := Op.move (Operand.tmp 0), type := 9, pos := "ref.go:56", after := #[], guard := none }) (v := .string s) rfl (by kernel_rfl) (by kernel_rfl) (by kernel_rfl) (fun _ _ _ h => h) (Or.inl ⟨by rfl, fun w' hSw => by clear hSw; go_simp⟩) (by assumption) ?_
    simp only [Act.put, List.setIfInBounds_toArray, List.set_cons_zero, List.set_cons_succ]
    refine wpAnyH_take (i := 3) (oi := { dst := some 16, op := Op.move (Operand.tmp 0), type := 9, pos := "ref.go:56", after := #[], guard := none }) (v := .string s) rfl (by kernel_rfl) (by kernel_rfl) (by kernel_rfl) (fun _ _ _ h => h) (Or.inl ⟨by rfl, fun w' hSw => by clear hSw; go_simp⟩) (by assumption) ?_
    simp only [Act.put, List.setIfInBounds_toArray, List.set_cons_zero, List.set_cons_succ]
    refine wpAnyH_take (i := 6) (oi := { dst := some 19, op := Op.move (Operand.tmp 0), type := 9, pos := "ref.go:56", after := #[], guard := none }) (v := .string s) rfl (by kernel_rfl) (by kernel_rfl) (by kernel_rfl) (fun _ _ _ h => h) (Or.inl ⟨by rfl, fun w' hSw => by clear hSw; go_simp⟩) (by assumption) ?_
    simp only [Act.put, List.setIfInBounds_toArray, List.set_cons_zero, List.set_cons_succ]
    refine wpAnyH_take (i := 1) (oi := { dst := some 14, op := Op.slice 9 (Operand.tmp 13) none (some (Operand.const (Value.int IntKind.i64 4))) none, type := 9, pos := "ref.go:56", after := #[{ on := 0, ground := Ground.data }], guard := none }) (v := .string T5) rfl (by kernel_rfl) (by kernel_rfl) (by kernel_rfl) (fun _ _ _ h => h) (Or.inl ⟨by rfl, fun w' hSw => by clear hSw; go_simp⟩) (by assumption) ?_
    simp only [Act.put, List.setIfInBounds_toArray, List.set_cons_zero, List.set_cons_succ]
    refine wpAnyH_take (i := 4) (oi := { dst := some 17, op := Op.slice 9 (Operand.tmp 16) (some (Operand.const (Value.int IntKind.i64 20))) (some (Operand.const (Value.int IntKind.i64 26))) none, type := 9, pos := "ref.go:56", after := #[{ on := 3, ground := Ground.data }], guard := none }) (v := .string T6) rfl (by kernel_rfl) (by kernel_rfl) (by kernel_rfl) (fun _ _ _ h => h) (Or.inl ⟨by rfl, fun w' hSw => by clear hSw; go_simp⟩) (by assumption) ?_
    simp only [Act.put, List.setIfInBounds_toArray, List.set_cons_zero, List.set_cons_succ]
    refine wpAnyH_take (i := 7) (oi := { dst := some 20, op := Op.slice 9 (Operand.tmp 19) (some (Operand.const (Value.int IntKind.i64 26))) (some (Operand.const (Value.int IntKind.i64 32))) none, type := 9, pos := "ref.go:56", after := #[{ on := 6, ground := Ground.data }], guard := none }) (v := .string T7) rfl (by kernel_rfl) (by kernel_rfl) (by kernel_rfl) (fun _ _ _ h => h) (Or.inl ⟨by rfl, fun w' hSw => by clear hSw; go_simp⟩) (by assumption) ?_
    simp only [Act.put, List.setIfInBounds_toArray, List.set_cons_zero, List.set_cons_succ]
    refine wpAnyH_ready (rs := [2, 10]) (by kernel_rfl) (by simp) ?_
    refine AllReadyH.cons (o := { dst := some 15, op := Op.call { callee := Callee.value (Operand.func 27), args := #[Operand.tmp 14], argTypes := #[9] }, type := 3, pos := "ref.go:56", after := #[{ on := 1, ground := Ground.data }], guard := none }) rfl (fun K hK => ?_) (AllReadyH.cons (o := { dst := some 6, op := Op.alloc 25, type := 0, pos := "ref.go:56", after := #[], guard := none }) rfl (fun K hK => ?_) (AllReadyH.nil))
    · go_simp
      refine (HG5.out _).mono ?_
      rintro e y ⟨rfl, hy⟩
      obtain rfl := hy.symm
      clear hy
      refine hK.out _ _ (Only.drew _ _) (fun hHeld => ?_)
      clear hK K
      try simp only [Act.put, List.setIfInBounds_toArray, List.set_cons_zero, List.set_cons_succ]
      refine wpAnyH_ready (rs := [5, 10]) (by kernel_rfl) (by simp) ?_
      refine AllReadyH.cons (o := { dst := some 18, op := Op.call { callee := Callee.value (Operand.func 27), args := #[Operand.tmp 17], argTypes := #[9] }, type := 3, pos := "ref.go:56", after := #[{ on := 4, ground := Ground.data }, { on := 2, ground := Ground.chain }], guard := none }) rfl (fun K hK => ?_) (AllReadyH.cons (o := { dst := some 6, op := Op.alloc 25, type := 0, pos := "ref.go:56", after := #[], guard := none }) rfl (fun K hK => ?_) (AllReadyH.nil))
      · go_simp
        refine (HG6.out _).mono ?_
        rintro e y ⟨rfl, hy⟩
        obtain rfl := hy.symm
        clear hy
        refine hK.out _ _ (Only.drew _ _) (fun hHeld => ?_)
        clear hK K
        try simp only [Act.put, List.setIfInBounds_toArray, List.set_cons_zero, List.set_cons_succ]
        refine wpAnyH_ready (rs := [8, 10]) (by kernel_rfl) (by simp) ?_
        refine AllReadyH.cons (o := { dst := some 21, op := Op.call { callee := Callee.value (Operand.func 27), args := #[Operand.tmp 20], argTypes := #[9] }, type := 3, pos := "ref.go:56", after := #[{ on := 7, ground := Ground.data }, { on := 5, ground := Ground.chain }], guard := none }) rfl (fun K hK => ?_) (AllReadyH.cons (o := { dst := some 6, op := Op.alloc 25, type := 0, pos := "ref.go:56", after := #[], guard := none }) rfl (fun K hK => ?_) (AllReadyH.nil))
        · go_simp
          refine (HG7.out _).mono ?_
          rintro e y ⟨rfl, hy⟩
          obtain rfl := hy.symm
          clear hy
          refine hK.out _ _ (Only.drew _ _) (fun hHeld => ?_)
          clear hK K
          try simp only [Act.put, List.setIfInBounds_toArray, List.set_cons_zero, List.set_cons_succ]
          refine wpAnyH_take (i := 9) (oi := { dst := some 22, op := Op.build 25 #[(1, Operand.tmp 15), (2, Operand.tmp 18), (3, Operand.tmp 21)], type := 25, pos := "ref.go:56", after := #[{ on := 2, ground := Ground.data }, { on := 5, ground := Ground.data }, { on := 8, ground := Ground.data }], guard := none }) (v := .agg #[.int .i64 0, .int .i64 0, .int .i64 0, .int .i64 0, .int .i64 c.n, .int .i64 c.s, .int .i64 c.k]) rfl (by kernel_rfl) (by kernel_rfl) (by kernel_rfl) (fun _ _ _ h => h) (Or.inl ⟨by rfl, fun w' hSw => by clear hSw; go_simp⟩) (by assumption) ?_
          simp only [Act.put, List.setIfInBounds_toArray, List.set_cons_zero, List.set_cons_succ]
          refine wpAnyH_ready (rs := [10]) (by kernel_rfl) (by simp) ?_
          refine AllReadyH.cons (o := { dst := some 6, op := Op.alloc 25, type := 0, pos := "ref.go:56", after := #[], guard := none }) rfl (fun K hK => ?_) (AllReadyH.nil)
          go_simp
          refine hK.out _ _ (o2 (onlyA _ _) (Only.drew _ _)) (fun hHeld => ?_)
          clear hK K
          try simp only [Act.put, List.setIfInBounds_toArray, List.set_cons_zero, List.set_cons_succ]
          refine wpAnyH_ready (rs := [11]) (by kernel_rfl) (by simp) ?_
          refine AllReadyH.cons (o := { dst := none, op := Op.store 25 (Operand.tmp 6) (Operand.tmp 22), type := 0, pos := "ref.go:56", after := #[{ on := 10, ground := Ground.data }, { on := 9, ground := Ground.data }, { on := 8, ground := Ground.chain }, { on := 0, ground := Ground.phase }, { on := 1, ground := Ground.phase }, { on := 2, ground := Ground.phase }, { on := 3, ground := Ground.phase }, { on := 4, ground := Ground.phase }, { on := 5, ground := Ground.phase }, { on := 6, ground := Ground.phase }, { on := 7, ground := Ground.phase }, { on := 8, ground := Ground.phase }, { on := 9, ground := Ground.phase }, { on := 10, ground := Ground.phase }], guard := none }) rfl (fun K hK => ?_) (AllReadyH.nil)
          go_simp
          refine hK.out _ _ (o2 (onlyA _ _) (Only.drew _ _)) (fun hHeld => ?_)
          clear hK K
          try simp only [Act.put, List.setIfInBounds_toArray, List.set_cons_zero, List.set_cons_succ]
          refine wpAnyH_done (by kernel_rfl) ?_ _
          refine NoPanic.normal ?_
          go_wp2_with fail
          go_meet
          exact ⟨rfl, HN.out.more (Only.drew _ _), o2 (onlyA _ _) (Only.drew _ _)⟩
        · go_simp
          refine hK.out _ _ (o2 (onlyA _ _) (Only.drew _ _)) (fun hHeld => ?_)
          clear hK K
          try simp only [Act.put, List.setIfInBounds_toArray, List.set_cons_zero, List.set_cons_succ]
          refine wpAnyH_ready (rs := [8]) (by kernel_rfl) (by simp) ?_
          refine AllReadyH.cons (o := { dst := some 21, op := Op.call { callee := Callee.value (Operand.func 27), args := #[Operand.tmp 20], argTypes := #[9] }, type := 3, pos := "ref.go:56", after := #[{ on := 7, ground := Ground.data }, { on := 5, ground := Ground.chain }], guard := none }) rfl (fun K hK => ?_) (AllReadyH.nil)
          go_simp
          refine (HG7.out _).mono ?_
          rintro e y ⟨rfl, hy⟩
          obtain rfl := hy.symm
          clear hy
          refine hK.out _ _ (o2 (onlyA _ _) (Only.drew _ _)) (fun hHeld => ?_)
          clear hK K
          try simp only [Act.put, List.setIfInBounds_toArray, List.set_cons_zero, List.set_cons_succ]
          refine wpAnyH_take (i := 9) (oi := { dst := some 22, op := Op.build 25 #[(1, Operand.tmp 15), (2, Operand.tmp 18), (3, Operand.tmp 21)], type := 25, pos := "ref.go:56", after := #[{ on := 2, ground := Ground.data }, { on := 5, ground := Ground.data }, { on := 8, ground := Ground.data }], guard := none }) (v := .agg #[.int .i64 0, .int .i64 0, .int .i64 0, .int .i64 0, .int .i64 c.n, .int .i64 c.s, .int .i64 c.k]) rfl (by kernel_rfl) (by kernel_rfl) (by kernel_rfl) (fun _ _ _ h => h) (Or.inl ⟨by rfl, fun w' hSw => by clear hSw; go_simp⟩) (by assumption) ?_
          simp only [Act.put, List.setIfInBounds_toArray, List.set_cons_zero, List.set_cons_succ]
          refine wpAnyH_ready (rs := [11]) (by kernel_rfl) (by simp) ?_
          refine AllReadyH.cons (o := { dst := none, op := Op.store 25 (Operand.tmp 6) (Operand.tmp 22), type := 0, pos := "ref.go:56", after := #[{ on := 10, ground := Ground.data }, { on := 9, ground := Ground.data }, { on := 8, ground := Ground.chain }, { on := 0, ground := Ground.phase }, { on := 1, ground := Ground.phase }, { on := 2, ground := Ground.phase }, { on := 3, ground := Ground.phase }, { on := 4, ground := Ground.phase }, { on := 5, ground := Ground.phase }, { on := 6, ground := Ground.phase }, { on := 7, ground := Ground.phase }, { on := 8, ground := Ground.phase }, { on := 9, ground := Ground.phase }, { on := 10, ground := Ground.phase }], guard := none }) rfl (fun K hK => ?_) (AllReadyH.nil)
          go_simp
          refine hK.out _ _ (o2 (onlyA _ _) (Only.drew _ _)) (fun hHeld => ?_)
          clear hK K
          try simp only [Act.put, List.setIfInBounds_toArray, List.set_cons_zero, List.set_cons_succ]
          refine wpAnyH_done (by kernel_rfl) ?_ _
          refine NoPanic.normal ?_
          go_wp2_with fail
          go_meet
          exact ⟨rfl, HN.out.more (Only.drew _ _), o2 (onlyA _ _) (Only.drew _ _)⟩
      · go_simp
        refine hK.out _ _ (o2 (onlyA _ _) (Only.drew _ _)) (fun hHeld => ?_)
        clear hK K
        try simp only [Act.put, List.setIfInBounds_toArray, List.set_cons_zero, List.set_cons_succ]
        refine wpAnyH_ready (rs := [5]) (by kernel_rfl) (by simp) ?_
        refine AllReadyH.cons (o := { dst := some 18, op := Op.call { callee := Callee.value (Operand.func 27), args := #[Operand.tmp 17], argTypes := #[9] }, type := 3, pos := "ref.go:56", after := #[{ on := 4, ground := Ground.data }, { on := 2, ground := Ground.chain }], guard := none }) rfl (fun K hK => ?_) (AllReadyH.nil)
        go_simp
        refine (HG6.out _).mono ?_
        rintro e y ⟨rfl, hy⟩
        obtain rfl := hy.symm
        clear hy
        refine hK.out _ _ (o2 (onlyA _ _) (Only.drew _ _)) (fun hHeld => ?_)
        clear hK K
        try simp only [Act.put, List.setIfInBounds_toArray, List.set_cons_zero, List.set_cons_succ]
        refine wpAnyH_ready (rs := [8]) (by kernel_rfl) (by simp) ?_
        refine AllReadyH.cons (o := { dst := some 21, op := Op.call { callee := Callee.value (Operand.func 27), args := #[Operand.tmp 20], argTypes := #[9] }, type := 3, pos := "ref.go:56", after := #[{ on := 7, ground := Ground.data }, { on := 5, ground := Ground.chain }], guard := none }) rfl (fun K hK => ?_) (AllReadyH.nil)
        go_simp
        refine (HG7.out _).mono ?_
        rintro e y ⟨rfl, hy⟩
        obtain rfl := hy.symm
        clear hy
        refine hK.out _ _ (o2 (onlyA _ _) (Only.drew _ _)) (fun hHeld => ?_)
        clear hK K
        try simp only [Act.put, List.setIfInBounds_toArray, List.set_cons_zero, List.set_cons_succ]
        refine wpAnyH_take (i := 9) (oi := { dst := some 22, op := Op.build 25 #[(1, Operand.tmp 15), (2, Operand.tmp 18), (3, Operand.tmp 21)], type := 25, pos := "ref.go:56", after := #[{ on := 2, ground := Ground.data }, { on := 5, ground := Ground.data }, { on := 8, ground := Ground.data }], guard := none }) (v := .agg #[.int .i64 0, .int .i64 0, .int .i64 0, .int .i64 0, .int .i64 c.n, .int .i64 c.s, .int .i64 c.k]) rfl (by kernel_rfl) (by kernel_rfl) (by kernel_rfl) (fun _ _ _ h => h) (Or.inl ⟨by rfl, fun w' hSw => by clear hSw; go_simp⟩) (by assumption) ?_
        simp only [Act.put, List.setIfInBounds_toArray, List.set_cons_zero, List.set_cons_succ]
        refine wpAnyH_ready (rs := [11]) (by kernel_rfl) (by simp) ?_
        refine AllReadyH.cons (o := { dst := none, op := Op.store 25 (Operand.tmp 6) (Operand.tmp 22), type := 0, pos := "ref.go:56", after := #[{ on := 10, ground := Ground.data }, { on := 9, ground := Ground.data }, { on := 8, ground := Ground.chain }, { on := 0, ground := Ground.phase }, { on := 1, ground := Ground.phase }, { on := 2, ground := Ground.phase }, { on := 3, ground := Ground.phase }, { on := 4, ground := Ground.phase }, { on := 5, ground := Ground.phase }, { on := 6, ground := Ground.phase }, { on := 7, ground := Ground.phase }, { on := 8, ground := Ground.phase }, { on := 9, ground := Ground.phase }, { on := 10, ground := Ground.phase }], guard := none }) rfl (fun K hK => ?_) (AllReadyH.nil)
        go_simp
        refine hK.out _ _ (o2 (onlyA _ _) (Only.drew _ _)) (fun hHeld => ?_)
        clear hK K
        try simp only [Act.put, List.setIfInBounds_toArray, List.set_cons_zero, List.set_cons_succ]
        refine wpAnyH_done (by kernel_rfl) ?_ _
        refine NoPanic.normal ?_
        go_wp2_with fail
        go_meet
        exact ⟨rfl, HN.out.more (Only.drew _ _), o2 (onlyA _ _) (Only.drew _ _)⟩
    · go_simp
      refine hK.out _ _ (o2 (onlyA _ _) (Only.drew _ _)) (fun hHeld => ?_)
      clear hK K
      try simp only [Act.put, List.setIfInBounds_toArray, List.set_cons_zero, List.set_cons_succ]
      refine wpAnyH_ready (rs := [2]) (by kernel_rfl) (by simp) ?_
      refine AllReadyH.cons (o := { dst := some 15, op := Op.call { callee := Callee.value (Operand.func 27), args := #[Operand.tmp 14], argTypes := #[9] }, type := 3, pos := "ref.go:56", after := #[{ on := 1, ground := Ground.data }], guard := none }) rfl (fun K hK => ?_) (AllReadyH.nil)
      go_simp
      refine (HG5.out _).mono ?_
      rintro e y ⟨rfl, hy⟩
      obtain rfl := hy.symm
      clear hy
      refine hK.out _ _ (o2 (onlyA _ _) (Only.drew _ _)) (fun hHeld => ?_)
      clear hK K
      try simp only [Act.put, List.setIfInBounds_toArray, List.set_cons_zero, List.set_cons_succ]
      refine wpAnyH_ready (rs := [5]) (by kernel_rfl) (by simp) ?_
      refine AllReadyH.cons (o := { dst := some 18, op := Op.call { callee := Callee.value (Operand.func 27), args := #[Operand.tmp 17], argTypes := #[9] }, type := 3, pos := "ref.go:56", after := #[{ on := 4, ground := Ground.data }, { on := 2, ground := Ground.chain }], guard := none }) rfl (fun K hK => ?_) (AllReadyH.nil)
      go_simp
      refine (HG6.out _).mono ?_
      rintro e y ⟨rfl, hy⟩
      obtain rfl := hy.symm
      clear hy
      refine hK.out _ _ (o2 (onlyA _ _) (Only.drew _ _)) (fun hHeld => ?_)
      clear hK K
      try simp only [Act.put, List.setIfInBounds_toArray, List.set_cons_zero, List.set_cons_succ]
      refine wpAnyH_ready (rs := [8]) (by kernel_rfl) (by simp) ?_
      refine AllReadyH.cons (o := { dst := some 21, op := Op.call { callee := Callee.value (Operand.func 27), args := #[Operand.tmp 20], argTypes := #[9] }, type := 3, pos := "ref.go:56", after := #[{ on := 7, ground := Ground.data }, { on := 5, ground := Ground.chain }], guard := none }) rfl (fun K hK => ?_) (AllReadyH.nil)
      go_simp
      refine (HG7.out _).mono ?_
      rintro e y ⟨rfl, hy⟩
      obtain rfl := hy.symm
      clear hy
      refine hK.out _ _ (o2 (onlyA _ _) (Only.drew _ _)) (fun hHeld => ?_)
      clear hK K
      try simp only [Act.put, List.setIfInBounds_toArray, List.set_cons_zero, List.set_cons_succ]
      refine wpAnyH_take (i := 9) (oi := { dst := some 22, op := Op.build 25 #[(1, Operand.tmp 15), (2, Operand.tmp 18), (3, Operand.tmp 21)], type := 25, pos := "ref.go:56", after := #[{ on := 2, ground := Ground.data }, { on := 5, ground := Ground.data }, { on := 8, ground := Ground.data }], guard := none }) (v := .agg #[.int .i64 0, .int .i64 0, .int .i64 0, .int .i64 0, .int .i64 c.n, .int .i64 c.s, .int .i64 c.k]) rfl (by kernel_rfl) (by kernel_rfl) (by kernel_rfl) (fun _ _ _ h => h) (Or.inl ⟨by rfl, fun w' hSw => by clear hSw; go_simp⟩) (by assumption) ?_
      simp only [Act.put, List.setIfInBounds_toArray, List.set_cons_zero, List.set_cons_succ]
      refine wpAnyH_ready (rs := [11]) (by kernel_rfl) (by simp) ?_
      refine AllReadyH.cons (o := { dst := none, op := Op.store 25 (Operand.tmp 6) (Operand.tmp 22), type := 0, pos := "ref.go:56", after := #[{ on := 10, ground := Ground.data }, { on := 9, ground := Ground.data }, { on := 8, ground := Ground.chain }, { on := 0, ground := Ground.phase }, { on := 1, ground := Ground.phase }, { on := 2, ground := Ground.phase }, { on := 3, ground := Ground.phase }, { on := 4, ground := Ground.phase }, { on := 5, ground := Ground.phase }, { on := 6, ground := Ground.phase }, { on := 7, ground := Ground.phase }, { on := 8, ground := Ground.phase }, { on := 9, ground := Ground.phase }, { on := 10, ground := Ground.phase }], guard := none }) rfl (fun K hK => ?_) (AllReadyH.nil)
      go_simp
      refine hK.out _ _ (o2 (onlyA _ _) (Only.drew _ _)) (fun hHeld => ?_)
      clear hK K
      try simp only [Act.put, List.setIfInBounds_toArray, List.set_cons_zero, List.set_cons_succ]
      refine wpAnyH_done (by kernel_rfl) ?_ _
      refine NoPanic.normal ?_
      go_wp2_with fail
      go_meet
      exact ⟨rfl, HN.out.more (Only.drew _ _), o2 (onlyA _ _) (Only.drew _ _)⟩
  case rest =>
    obtain ⟨rfl, HC3, HO3⟩ := hcut
    have HB3 := hide (HB.out.more HO3.out)
    have hlt3 : W0.heap.size ≤ W0.heap.size := Nat.le_refl _
    go_upto_region 4 with fail
    obtain ⟨c0, c1, c2, c3, c4, c5, c6, cf0, cf1, cf2, cf3, cf4, cf5, cf6, _⟩ := HC3.out
    refine wp_region_noPanic ?_
    refine wp_region_held_drew (S := fun W => Only (fun k => k = W0.heap.size) wc W) (by kernel_rfl) (Only.drew _ _) (fun hHeld => ?_)
    refine wpAnyH_take (i := 0) (oi := { dst := some 23, op := Op.move (Operand.tmp 0), type := 9, pos := "ref.go:57", after := #[], guard := none }) (v := .string s) rfl (by kernel_rfl) (by kernel_rfl) (by kernel_rfl) (fun _ _ _ h => h) (Or.inl ⟨by rfl, fun w' hSw => by clear hSw; go_simp⟩) (by assumption) ?_
    simp only [Act.put, List.setIfInBounds_toArray, List.set_cons_zero, List.set_cons_succ]
    refine wpAnyH_take (i := 3) (oi := { dst := some 26, op := Op.move (Operand.tmp 0), type := 9, pos := "ref.go:57", after := #[], guard := none }) (v := .string s) rfl (by kernel_rfl) (by kernel_rfl) (by kernel_rfl) (fun _ _ _ h => h) (Or.inl ⟨by rfl, fun w' hSw => by clear hSw; go_simp⟩) (by assumption) ?_
    simp only [Act.put, List.setIfInBounds_toArray, List.set_cons_zero, List.set_cons_succ]
    refine wpAnyH_take (i := 6) (oi := { dst := some 29, op := Op.move (Operand.tmp 0), type := 9, pos := "ref.go:57", after := #[], guard := none }) (v := .string s) rfl (by kernel_rfl) (by kernel_rfl) (by kernel_rfl) (fun _ _ _ h => h) (Or.inl ⟨by rfl, fun w' hSw => by clear hSw; go_simp⟩) (by assumption) ?_
    simp only [Act.put, List.setIfInBounds_toArray, List.set_cons_zero, List.set_cons_succ]
    refine wpAnyH_take (i := 9) (oi := { dst := some 32, op := Op.move (Operand.tmp 0), type := 9, pos := "ref.go:57", after := #[], guard := none }) (v := .string s) rfl (by kernel_rfl) (by kernel_rfl) (by kernel_rfl) (fun _ _ _ h => h) (Or.inl ⟨by rfl, fun w' hSw => by clear hSw; go_simp⟩) (by assumption) ?_
    simp only [Act.put, List.setIfInBounds_toArray, List.set_cons_zero, List.set_cons_succ]
    refine wpAnyH_take (i := 1) (oi := { dst := some 24, op := Op.slice 9 (Operand.tmp 23) (some (Operand.const (Value.int IntKind.i64 4))) (some (Operand.const (Value.int IntKind.i64 8))) none, type := 9, pos := "ref.go:57", after := #[{ on := 0, ground := Ground.data }], guard := none }) (v := .string T1) rfl (by kernel_rfl) (by kernel_rfl) (by kernel_rfl) (fun _ _ _ h => h) (Or.inl ⟨by rfl, fun w' hSw => by clear hSw; go_simp⟩) (by assumption) ?_
    simp only [Act.put, List.setIfInBounds_toArray, List.set_cons_zero, List.set_cons_succ]
    refine wpAnyH_take (i := 4) (oi := { dst := some 27, op := Op.slice 9 (Operand.tmp 26) (some (Operand.const (Value.int IntKind.i64 8))) (some (Operand.const (Value.int IntKind.i64 12))) none, type := 9, pos := "ref.go:57", after := #[{ on := 3, ground := Ground.data }], guard := none }) (v := .string T2) rfl (by kernel_rfl) (by kernel_rfl) (by kernel_rfl) (fun _ _ _ h => h) (Or.inl ⟨by rfl, fun w' hSw => by clear hSw; go_simp⟩) (by assumption) ?_
    simp only [Act.put, List.setIfInBounds_toArray, List.set_cons_zero, List.set_cons_succ]
    refine wpAnyH_take (i := 7) (oi := { dst := some 30, op := Op.slice 9 (Operand.tmp 29) (some (Operand.const (Value.int IntKind.i64 12))) (some (Operand.const (Value.int IntKind.i64 16))) none, type := 9, pos := "ref.go:57", after := #[{ on := 6, ground := Ground.data }], guard := none }) (v := .string T3) rfl (by kernel_rfl) (by kernel_rfl) (by kernel_rfl) (fun _ _ _ h => h) (Or.inl ⟨by rfl, fun w' hSw => by clear hSw; go_simp⟩) (by assumption) ?_
    simp only [Act.put, List.setIfInBounds_toArray, List.set_cons_zero, List.set_cons_succ]
    refine wpAnyH_take (i := 10) (oi := { dst := some 33, op := Op.slice 9 (Operand.tmp 32) (some (Operand.const (Value.int IntKind.i64 16))) (some (Operand.const (Value.int IntKind.i64 20))) none, type := 9, pos := "ref.go:57", after := #[{ on := 9, ground := Ground.data }], guard := none }) (v := .string T4) rfl (by kernel_rfl) (by kernel_rfl) (by kernel_rfl) (fun _ _ _ h => h) (Or.inl ⟨by rfl, fun w' hSw => by clear hSw; go_simp⟩) (by assumption) ?_
    simp only [Act.put, List.setIfInBounds_toArray, List.set_cons_zero, List.set_cons_succ]
    refine wpAnyH_ready (rs := [2]) (by kernel_rfl) (by simp) ?_
    refine AllReadyH.cons (o := { dst := some 25, op := Op.call { callee := Callee.value (Operand.func 27), args := #[Operand.tmp 24], argTypes := #[9] }, type := 3, pos := "ref.go:57", after := #[{ on := 1, ground := Ground.data }], guard := none }) rfl (fun K hK => ?_) (AllReadyH.nil)
    go_simp
    refine (HG1.out _).mono ?_
    rintro e y ⟨rfl, hy⟩
    obtain rfl := hy.symm
    clear hy
    refine hK.out _ _ (Only.drew _ _) (fun hHeld => ?_)
    clear hK K
    try simp only [Act.put, List.setIfInBounds_toArray, List.set_cons_zero, List.set_cons_succ]
    refine wpAnyH_ready (rs := [5]) (by kernel_rfl) (by simp) ?_
    refine AllReadyH.cons (o := { dst := some 28, op := Op.call { callee := Callee.value (Operand.func 27), args := #[Operand.tmp 27], argTypes := #[9] }, type := 3, pos := "ref.go:57", after := #[{ on := 4, ground := Ground.data }, { on := 2, ground := Ground.chain }], guard := none }) rfl (fun K hK => ?_) (AllReadyH.nil)
    go_simp
    refine (HG2.out _).mono ?_
    rintro e y ⟨rfl, hy⟩
    obtain rfl := hy.symm
    clear hy
    refine hK.out _ _ (Only.drew _ _) (fun hHeld => ?_)
    clear hK K
    try simp only [Act.put, List.setIfInBounds_toArray, List.set_cons_zero, List.set_cons_succ]
    refine wpAnyH_ready (rs := [8]) (by kernel_rfl) (by simp) ?_
    refine AllReadyH.cons (o := { dst := some 31, op := Op.call { callee := Callee.value (Operand.func 27), args := #[Operand.tmp 30], argTypes := #[9] }, type := 3, pos := "ref.go:57", after := #[{ on := 7, ground := Ground.data }, { on := 5, ground := Ground.chain }], guard := none }) rfl (fun K hK => ?_) (AllReadyH.nil)
    go_simp
    refine (HG3.out _).mono ?_
    rintro e y ⟨rfl, hy⟩
    obtain rfl := hy.symm
    clear hy
    refine hK.out _ _ (Only.drew _ _) (fun hHeld => ?_)
    clear hK K
    try simp only [Act.put, List.setIfInBounds_toArray, List.set_cons_zero, List.set_cons_succ]
    refine wpAnyH_ready (rs := [11]) (by kernel_rfl) (by simp) ?_
    refine AllReadyH.cons (o := { dst := some 34, op := Op.call { callee := Callee.value (Operand.func 27), args := #[Operand.tmp 33], argTypes := #[9] }, type := 3, pos := "ref.go:57", after := #[{ on := 10, ground := Ground.data }, { on := 8, ground := Ground.chain }], guard := none }) rfl (fun K hK => ?_) (AllReadyH.nil)
    go_simp
    refine (HG4.out _).mono ?_
    rintro e y ⟨rfl, hy⟩
    obtain rfl := hy.symm
    clear hy
    refine hK.out _ _ (Only.drew _ _) (fun hHeld => ?_)
    clear hK K
    try simp only [Act.put, List.setIfInBounds_toArray, List.set_cons_zero, List.set_cons_succ]
    refine wpAnyH_take (i := 12) (oi := { dst := some 35, op := Op.build 23 #[(0, Operand.tmp 25), (1, Operand.tmp 28), (2, Operand.tmp 31), (3, Operand.tmp 34)], type := 23, pos := "ref.go:57", after := #[{ on := 2, ground := Ground.data }, { on := 5, ground := Ground.data }, { on := 8, ground := Ground.data }, { on := 11, ground := Ground.data }], guard := none }) (v := .agg #[.int .i64 c.f, .int .i64 c.m, .int .i64 c.l, .int .i64 c.p]) rfl (by kernel_rfl) (by kernel_rfl) (by kernel_rfl) (fun _ _ _ h => h) (Or.inl ⟨by rfl, fun w' hSw => by clear hSw; go_simp⟩) (by assumption) ?_
    simp only [Act.put, List.setIfInBounds_toArray, List.set_cons_zero, List.set_cons_succ]
    refine wpAnyH_take (i := 13) (oi := { dst := some 36, op := Op.fieldAddr 25 (Operand.tmp 6) 0, type := 0, pos := "ref.go:57", after := #[{ on := 0, ground := Ground.phase }, { on := 1, ground := Ground.phase }, { on := 2, ground := Ground.phase }, { on := 3, ground := Ground.phase }, { on := 4, ground := Ground.phase }, { on := 5, ground := Ground.phase }, { on := 6, ground := Ground.phase }, { on := 7, ground := Ground.phase }, { on := 8, ground := Ground.phase }, { on := 9, ground := Ground.phase }, { on := 10, ground := Ground.phase }, { on := 11, ground := Ground.phase }, { on := 12, ground := Ground.phase }], guard := none }) (v := .pointer (some ⟨W0.heap.size, 0, none⟩)) rfl (by kernel_rfl) (by kernel_rfl) (by kernel_rfl) (fun _ _ _ h => h) (Or.inl ⟨by rfl, fun w' hSw => by clear hSw; go_simp⟩) (by assumption) ?_
    simp only [Act.put, List.setIfInBounds_toArray, List.set_cons_zero, List.set_cons_succ]
    refine wpAnyH_ready (rs := [14]) (by kernel_rfl) (by simp) ?_
    refine AllReadyH.cons (o := { dst := none, op := Op.store 23 (Operand.tmp 36) (Operand.tmp 35), type := 0, pos := "ref.go:57", after := #[{ on := 13, ground := Ground.data }, { on := 12, ground := Ground.data }, { on := 11, ground := Ground.chain }, { on := 0, ground := Ground.phase }, { on := 1, ground := Ground.phase }, { on := 2, ground := Ground.phase }, { on := 3, ground := Ground.phase }, { on := 4, ground := Ground.phase }, { on := 5, ground := Ground.phase }, { on := 6, ground := Ground.phase }, { on := 7, ground := Ground.phase }, { on := 8, ground := Ground.phase }, { on := 9, ground := Ground.phase }, { on := 10, ground := Ground.phase }, { on := 11, ground := Ground.phase }, { on := 12, ground := Ground.phase }], guard := none }) rfl (fun K hK => ?_) (AllReadyH.nil)
    go_simp
    refine hK.out _ _ ((Only.fourG _ _ _ _ _ _).trans (Only.drew _ _) (fun _ _ h => h)) (fun hHeld => ?_)
    clear hK K
    try simp only [Act.put, List.setIfInBounds_toArray, List.set_cons_zero, List.set_cons_succ]
    refine wpAnyH_done (by kernel_rfl) ?_ _
    refine NoPanic.normal ?_
    have HC4 := hide ((HC3.out.four (f := c.f) (m := c.m) (l := c.l) (p := c.p)).more (Only.drew (fun _ => False) _))
    have HO4 := hide ((Only.fourG wc W0.heap.size (.int .i64 c.f) (.int .i64 c.m) (.int .i64 c.l) (.int .i64 c.p)).trans (Only.drew _ _) (fun _ _ h => h))
    rw [Exit.then]
    obtain ⟨W4, hW4⟩ : ∃ x, World.drew ((((wc.setCell ⟨W0.heap.size, 0, none⟩ (.int .i64 c.f)).setCell ⟨W0.heap.size, 1, none⟩ (.int .i64 c.m)).setCell ⟨W0.heap.size, 2, none⟩ (.int .i64 c.l)).setCell ⟨W0.heap.size, 3, none⟩ (.int .i64 c.p)) = x := ⟨_, rfl⟩
    rw [hW4] at HC4 HO4 ⊢
    clear hW4 HC3
    clear c0 c1 c2 c3 c4 c5 c6 cf0 cf1 cf2 cf3 cf4 cf5 cf6
    have HB4 := hide (HB3.out.kept HO4.out (by have := HB.out.lt; omega))
    have HOW4 := hide (newer W0.heap.size HO4.out HO3.out hlt3)
    obtain ⟨c0, c1, c2, c3, c4, c5, c6, _, _, _, _, _, _, _, _⟩ := HC4.out
    go_wp2_with fail
    refine (HE.out _).mono ?_
    rintro e w5 ⟨rfl, ho5⟩
    have HO5 := hide ho5
    have HC5 := hide (HC4.out.more ho5)
    have HB5 := hide (HB4.out.more ho5)
    clear ho5
    clear c0 c1 c2 c3 c4 c5 c6
    obtain ⟨c0, c1, c2, c3, c4, c5, c6, _, _, _, _, _, _, _, _⟩ := HC5.out
    obtain ⟨d0, d1, d2, d3, d4, d5, d6, df0, df1, df2, df3, df4, df5, df6, _⟩ := HB5.out
    go_wp2_with fail
    refine bodyPost_ret (results_ct rfl rfl (HB5.out.all c)) rfl ?_
    exact ⟨rfl, newer w.heap.size (Only.seven _ _ _ _ _ _ _ _ _) (o2 HO.out (o2 HOW4.out HO5.out)) hlt⟩
theorem rdecode_any (s : ByteArray) (z : Int) (w : World) : Calls Try.prog 19 #[.string s, .int .i64 z] w fun e w' => e = .returned (outC (decC (bl s) z)) ∧ Only (fun _ => False) w w' := by
  by_cases h : s.size = 64
  · by_cases hok : (rdC (bl s)).ok
    · by_cases heq : (rdC (bl s)).lay = bl s
      · by_cases hpar : (rdC (bl s)).n % 2 = z
        · rw [dec_some ⟨by rw [bl_len]; exact h, hok, heq, hpar⟩, out_someC]
          exact rdecode_there s z w h hok heq hpar
        · rw [dec_none (fun x => hpar x.2.2.2), out_noC]
          exact rdecode_place s z w h hok heq hpar
      · rw [dec_none (fun x => heq x.2.2.1), out_noC]
        exact rdecode_other s z w h hok heq
    · rw [dec_none (fun x => hok x.2.1), out_noC]
      exact rdecode_notok s z w h hok
  · rw [dec_none (fun x => h (by rw [← bl_len]; exact x.1)), out_noC]
    exact rdecode_size s z w h
end Go.Proofs.Ytpogphaflhfmbaa
