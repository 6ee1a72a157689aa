/- The walk of LocksPlays. -/
import Derived.Test.YtmmhmgndokaklaaLLawQ
namespace Go.Proofs.Ytmmhmgndokaklaa
open Go.RowKit Go.Maps

set_option maxRecDepth 100000 in
set_option maxHeartbeats 6400000 in
theorem plays_law (w : World) (B : Nat) (ao : Option Addr) (n cap : Nat) (C : Nat → Bool) (X : Nat → Int) (S : Nat → ByteArray) (hI : Ops w B ao n C X S) (hn : n ≤ 4398046510976) :
    Calls Try.prog 3 #[.slice ao n cap] w fun e w' => e = .returned (.bool true) ∧ Only (fun _ => False) w w' := by
  have HI := hide hI
  clear hI
  go_enter Try.func3, Try.ntmps3
  go_wp2_with fail
  refine (lk_new w).mono ?_
  rintro e w1 ⟨t, h, m, rfl, H1⟩
  have HP0 := hide (pa_start H1)
  clear H1
  go_upto_region 5 with fail
  obtain ⟨r, hr⟩ : ∃ r, w1.heap.size = r := ⟨_, rfl⟩
  obtain ⟨W1, hW1⟩ : ∃ W, w1.alloc (.cells #[.slice none 0 0, .slice none 0 0] 27) = W := ⟨_, rfl⟩
  rw [hr, hW1] at HP0
  rw [hr, hW1]
  clear hr hW1
  go_wp2_with fail
  go_loopw [5] (fun y wr => ∃ (j : Nat) (T : Tb), j ≤ n ∧ y = .int .i64 (j : Int) ∧ Hid (Pa w wr t h m r (r + 1) j j T T)) (fun y _ => n - (intOf y).toNat)
  case atStart => exact ⟨0, _, by omega, rfl, HP0⟩
  case round =>
    clear HP0
    obtain ⟨j, T, hj, rfl, HP⟩ := hrel
    by_cases hlt : j < n
    · obtain ⟨o, e1, hc⟩ := (HI.out.more HP.out.lk.only).at_ (by omega)
      obtain ⟨k0, k1, k2⟩ := hc j hlt
      obtain ⟨hx, hs⟩ := HI.out.wf j hlt
      obtain ⟨c, hC⟩ : ∃ c, C j = c := ⟨_, rfl⟩
      obtain ⟨x, hX⟩ : ∃ x, X j = x := ⟨_, rfl⟩
      obtain ⟨s, hS⟩ : ∃ s, S j = s := ⟨_, rfl⟩
      rw [hC] at k0
      rw [hX] at k1 hx
      rw [hS] at k2 hs
      have HX := hide hx
      have HS := hide hs
      subst e1
      clear hC hX hS hc hx hs
      have HB := hide (Bx.new HP.out c x s)
      have HP2 : Hid (Pa w (wr.alloc (.cells #[.bool c, .int .i64 x, .string s] 29)) t h m r (r + 1) j j T T) := HP.out.more (Only.alloc _ _ _)
      go_upto_region 9 with fail
      obtain ⟨b, hb⟩ : ∃ b, wr.heap.size = b := ⟨_, rfl⟩
      obtain ⟨W, hW⟩ : ∃ W, W = wr.alloc (.cells #[.bool c, .int .i64 x, .string s] 29) := ⟨_, rfl⟩
      rw [hb] at HB ⊢
      rw [← hW] at HB HP2 ⊢
      clear hW hb k0 k1 k2 HP
      have b0 := HB.out.c0
      have b1 := HB.out.c1
      have b2 := HB.out.c2
      have HOK := hide HP2.out.lk.tab.ok
      go_upto_if 35 with fail
      go_cut [35] (fun _ wc => ∃ T2, Hid (Pa w wc t h m r (r + 1) (j + 1) (j + 1) T2 T2) ∧ Hid (Bx wc b h m r c x s))
      case first =>
        cases c
        · obtain ⟨ok, hok⟩ : ∃ ok, (T.tryR x s).1 = ok := ⟨_, rfl⟩
          obtain ⟨ec, hec⟩ : ∃ ec, (T.tryR x s).2.1 = ec := ⟨_, rfl⟩
          obtain ⟨T2, hT2⟩ : ∃ T2, (T.tryR x s).2.2 = T2 := ⟨_, rfl⟩
          have HTR := hide (pa_try HP2.out x s HX.out HS.out (by omega))
          have HJT := hide (fun (V : World) (HV : Pa w V t h m r (r + 1) (j + 1) j (T.tryR x s).2.2 T) => pa_jtry HV HOK.out x s (by omega))
          rw [hok, hec, hT2] at HTR
          rw [hT2] at HJT
          simp only [hok, hec] at HJT
          clear hok hec hT2
          go_wp2_with fail
          refine HTR.out.mono ?_
          clear HTR
          rintro e w3 ⟨rfl, H3, hkp⟩
          have HB3 := hide (HB.out.kept hkp)
          have HK3 := hide (HJT.out _ H3)
          have d0 := HB3.out.c0
          have d1 := HB3.out.c1
          have d2 := HB3.out.c2
          clear H3 hkp HP2 HB b0 b1 b2 HJT
          go_wp2_with fail
          refine HK3.out.mono ?_
          clear HK3
          rintro e w4 ⟨rfl, H4, hkp⟩
          have HB4 := hide (HB3.out.kept hkp)
          have HP4 := hide H4
          clear H4 hkp HB3 d0 d1 d2
          go_wp2_with fail
          go_meet
          exact ⟨_, HP4, HB4⟩
        · go_upto_region 10 with fail
          have HREL := hide (pa_release (HP2.out.more (Only.drew _ _)) x HX.out (by omega))
          refine wp_region_noPanic ?_
          refine wp_region_held_drew (S := fun V => V.cell? ⟨b, 1, none⟩ = some (.int .i64 x)) (by kernel_rfl) (b1) (fun hHeld => ?_)
          refine wpAnyH_take (i := 0) (oi := { dst := some 36, op := Op.move (Operand.tmp 3), type := 23, pos := "law.go:41", after := #[], guard := none }) (v := .pointer (some ⟨t, 0, none⟩)) rfl (by kernel_rfl) (by kernel_rfl) (by kernel_rfl) (fun _ _ _ h => h) (Or.inl ⟨by rfl, fun w' hSw => by clear hSw; go_simp⟩) (by assumption) ?_
          simp only [Act.put, List.setIfInBounds_toArray, List.set_cons_zero, List.set_cons_succ]
          refine wpAnyH_take (i := 1) (oi := { dst := some 37, op := Op.fieldAddr 29 (Operand.tmp 6) 1, type := 0, pos := "law.go:41", after := #[], guard := none }) (v := .pointer (some ⟨b, 1, none⟩)) rfl (by kernel_rfl) (by kernel_rfl) (by kernel_rfl) (fun _ _ _ h => h) (Or.inl ⟨by rfl, fun w' hSw => by clear hSw; go_simp⟩) (by assumption) ?_
          simp only [Act.put, List.setIfInBounds_toArray, List.set_cons_zero, List.set_cons_succ]
          refine wpAnyH_take (i := 4) (oi := { dst := some 40, op := Op.fieldAddr 29 (Operand.tmp 6) 1, type := 0, pos := "law.go:41", after := #[], guard := none }) (v := .pointer (some ⟨b, 1, none⟩)) rfl (by kernel_rfl) (by kernel_rfl) (by kernel_rfl) (fun _ _ _ h => h) (Or.inl ⟨by rfl, fun w' hSw => by clear hSw; go_simp⟩) (by assumption) ?_
          simp only [Act.put, List.setIfInBounds_toArray, List.set_cons_zero, List.set_cons_succ]
          refine wpAnyH_take (i := 2) (oi := { dst := some 38, op := Op.load 3 (Operand.tmp 37), type := 3, pos := "law.go:41", after := #[{ on := 1, ground := Ground.data }], guard := none }) (v := .int .i64 x) rfl (by kernel_rfl) (by kernel_rfl) (by kernel_rfl) (fun _ _ _ h => h) (yieldsIf_load_cell (by rfl) 3 _ rfl _ rfl (fun W hW => hW) (fun W hc => ld_int hc)) (by assumption) ?_
          simp only [Act.put, List.setIfInBounds_toArray, List.set_cons_zero, List.set_cons_succ]
          refine wpAnyH_take (i := 5) (oi := { dst := some 41, op := Op.load 3 (Operand.tmp 40), type := 3, pos := "law.go:41", after := #[{ on := 4, ground := Ground.data }], guard := none }) (v := .int .i64 x) rfl (by kernel_rfl) (by kernel_rfl) (by kernel_rfl) (fun _ _ _ h => h) (yieldsIf_load_cell (by rfl) 3 _ rfl _ rfl (fun W hW => hW) (fun W hc => ld_int hc)) (by assumption) ?_
          simp only [Act.put, List.setIfInBounds_toArray, List.set_cons_zero, List.set_cons_succ]
          refine wpAnyH_ready (rs := [3]) (by kernel_rfl) (by simp) ?_
          refine AllReadyH.cons (o := { dst := some 39, op := Op.call { callee := Callee.value (Operand.func 10), args := #[Operand.tmp 36, Operand.tmp 38], argTypes := #[23, 3] }, type := 31, pos := "law.go:41", after := #[{ on := 0, ground := Ground.data }, { on := 2, ground := Ground.data }], guard := none }) rfl (fun K hK => ?_) (AllReadyH.nil)
          go_simp
          refine HREL.out.mono ?_
          rintro e w3 ⟨a3, c3, L3, rfl, hL3, hI3, hn3, H3, hkp⟩
          have HB3 := hide ((HB.out.kept (Only.kq (Only.drew _ _))).kept hkp)
          have HP3 := hide H3
          have HL3 := hide hL3
          have HI3 := hide hI3
          have HRL := hide (Nat.lt_of_lt_of_le (show r < W.heap.size by have := HP2.out.bs; omega) (Nat.le_refl _))
          clear hL3 hI3 H3 hkp
          refine hK.out _ _ (HB3.out.c1) (fun hHeld => ?_)
          clear hK K
          try simp only [Act.put, List.setIfInBounds_toArray, List.set_cons_zero, List.set_cons_succ]
          refine wpAnyH_ready (rs := [6]) (by kernel_rfl) (by simp) ?_
          refine AllReadyH.cons (o := { dst := some 42, op := Op.call { callee := Callee.value (Operand.func 11), args := #[Operand.tmp 4, Operand.tmp 41], argTypes := #[27, 3] }, type := 31, pos := "law.go:41", after := #[{ on := 5, ground := Ground.data }, { on := 3, ground := Ground.chain }], guard := none }) rfl (fun K hK => ?_) (AllReadyH.nil)
          go_simp
          refine (pa_jrelease HP3.out HOK.out x (by omega)).mono ?_
          rintro e w4 ⟨a4, c4, L4, rfl, hL4, hI4, hn4, H4, hkp⟩
          have HI34 := hide (HI3.out.kept hkp (fun k hk e => by have h1 := (HI3.out.low k hk).1; have h2 := HRL.out; rw [e] at h1; exact absurd h1 (by show ¬ W.heap.size ≤ r; omega)))
          have eL : L4 = L3 := hL4.one HL3.out
          subst eL
          have HB4 := hide (HB3.out.kept (Only.mono hkp (fun i _ e => .inr (.inr e))))
          have HP4 := hide H4
          have HI4 := hide hI4
          clear hL4 hI4 H4 hkp
          refine hK.out _ _ (HB4.out.c1) (fun hHeld => ?_)
          clear hK K
          try simp only [Act.put, List.setIfInBounds_toArray, List.set_cons_zero, List.set_cons_succ]
          refine wpAnyH_ready (rs := [7]) (by kernel_rfl) (by simp) ?_
          refine AllReadyH.cons (o := { dst := some 43, op := Op.call { callee := Callee.value (Operand.func 9), args := #[Operand.tmp 39, Operand.tmp 42], argTypes := #[31, 31] }, type := 4, pos := "law.go:41", after := #[{ on := 3, ground := Ground.data }, { on := 6, ground := Ground.data }, { on := 6, ground := Ground.chain }], guard := none }) rfl (fun K hK => ?_) (AllReadyH.nil)
          go_simp
          refine (sameI_true w4 _ _ _ _ _ _ _ HI34.out HI4.out (by omega)).mono ?_
          rintro e w5 ⟨rfl, ho5⟩
          have HB5 := hide (HB4.out.kept (Only.kq ho5))
          have HP5 := hide (HP4.out.more ho5)
          clear ho5
          refine hK.out _ _ (HB5.out.c1) (fun hHeld => ?_)
          clear hK K
          try simp only [Act.put, List.setIfInBounds_toArray, List.set_cons_zero, List.set_cons_succ]
          refine wpAnyH_take (i := 8) (oi := { dst := some 44, op := Op.unOp UnOp.not 4 (Operand.tmp 43), type := 4, pos := "law.go:41", after := #[{ on := 7, ground := Ground.data }], guard := none }) (v := .bool false) rfl (by kernel_rfl) (by kernel_rfl) (by kernel_rfl) (fun _ _ _ h => h) (Or.inl ⟨by rfl, fun w' hSw => by clear hSw; go_simp⟩) (by assumption) ?_
          simp only [Act.put, List.setIfInBounds_toArray, List.set_cons_zero, List.set_cons_succ]
          refine wpAnyH_done (by kernel_rfl) ?_ _
          refine NoPanic.normal ?_
          go_wp2_with fail
          go_meet
          exact ⟨_, hide (pa_up HP5.out), HB5⟩
      case rest =>
        obtain ⟨T2, HP3, HB3⟩ := hcut
        clear HP2 HB b0 b1 b2 HOK
        have b0 := HB3.out.c0
        have b1 := HB3.out.c1
        have b2 := HB3.out.c2
        obtain ⟨hv, hhv⟩ : ∃ hv, (T2.hold s).getD 0 = hv := ⟨_, rfl⟩
        obtain ⟨hs, hhs⟩ : ∃ hs, (T2.hold s).isSome = hs := ⟨_, rfl⟩
        obtain ⟨kv, hkv⟩ : ∃ kv, (T2.wait x).getD ⟨#[]⟩ = kv := ⟨_, rfl⟩
        obtain ⟨ks, hks⟩ : ∃ ks, (T2.wait x).isSome = ks := ⟨_, rfl⟩
        have HA1 := hide (pa_holder HP3.out s HS.out)
        have HA2 := hide (pa_jholder HP3.out s (by omega))
        have HA3 := hide (pa_waits HP3.out x HX.out)
        have HA4 := hide (fun (V : World) (HV : Pa w V t h m r (r + 1) (j + 1) (j + 1) T2 T2) => pa_jfor HV x (by omega))
        rw [hhv, hhs] at HA1 HA2
        rw [hkv, hks] at HA3
        simp only [hkv, hks] at HA4
        clear hhv hhs hkv hks
        go_wp2_with fail
        refine HA1.out.mono ?_
        rintro e wx ⟨rfl, hw⟩
        obtain rfl := hw.symm
        clear hw HA1
        go_wp2_with fail
        refine HA2.out.mono ?_
        rintro e wx ⟨rfl, hw⟩
        obtain rfl := hw.symm
        clear hw HA2
        go_wp2_with fail
        refine HA3.out.mono ?_
        rintro e w6 ⟨rfl, hO6⟩
        have HP6 := hide (HP3.out.more hO6)
        have HB6 := hide (HB3.out.kept (Only.kq hO6))
        have HA6 := hide (HA4.out _ HP6.out)
        clear HA3 hO6 HP3 HB3 b0 b1 b2 HA4
        have b0 := HB6.out.c0
        have b1 := HB6.out.c1
        have b2 := HB6.out.c2
        go_wp2_with fail
        refine HA6.out.mono ?_
        rintro e wx ⟨rfl, hw⟩
        obtain rfl := hw.symm
        clear hw HA6
        go_upto_region 20 with fail
        go_cut [131] (fun t0 wc => t0 = .bool false ∧ Hid (Only (fun _ => False) w6 wc))
        case first =>
          refine wp_region_noPanic ?_
          refine wp_region_held_drew (S := fun V => Only (fun _ => False) w6 V) (by kernel_rfl) (Only.drew _ w6) (fun hHeld => ?_)
          refine wpAnyH_take (i := 0) (oi := { dst := some 96, op := Op.move (Operand.tmp 11), type := 3, pos := "law.go:55", after := #[], guard := none }) (v := .int .i64 hv) rfl (by kernel_rfl) (by kernel_rfl) (by kernel_rfl) (fun _ _ _ h => h) (Or.inl ⟨by rfl, fun w' hSw => by clear hSw; go_simp⟩) (by assumption) ?_
          simp only [Act.put, List.setIfInBounds_toArray, List.set_cons_zero, List.set_cons_succ]
          refine wpAnyH_take (i := 1) (oi := { dst := some 97, op := Op.move (Operand.tmp 13), type := 3, pos := "law.go:55", after := #[], guard := none }) (v := .int .i64 hv) rfl (by kernel_rfl) (by kernel_rfl) (by kernel_rfl) (fun _ _ _ h => h) (Or.inl ⟨by rfl, fun w' hSw => by clear hSw; go_simp⟩) (by assumption) ?_
          simp only [Act.put, List.setIfInBounds_toArray, List.set_cons_zero, List.set_cons_succ]
          refine wpAnyH_take (i := 2) (oi := { dst := some 98, op := Op.binOp BinOp.neq 3 (Operand.tmp 96) (Operand.tmp 97) 3, type := 4, pos := "law.go:55", after := #[{ on := 0, ground := Ground.data }, { on := 1, ground := Ground.data }], guard := none }) (v := .bool false) rfl (by kernel_rfl) (by kernel_rfl) (by kernel_rfl) (fun _ _ _ h => h) (Or.inl ⟨by rfl, fun w' hSw => by clear hSw; go_simp⟩) (by assumption) ?_
          simp only [Act.put, List.setIfInBounds_toArray, List.set_cons_zero, List.set_cons_succ]
          refine wpAnyH_take (i := 3) (oi := { dst := some 99, op := Op.move (Operand.tmp 98), type := 4, pos := "law.go:55", after := #[{ on := 2, ground := Ground.data }], guard := none }) (v := .bool false) rfl (by kernel_rfl) (by kernel_rfl) (by kernel_rfl) (fun _ _ _ h => h) (Or.inl ⟨by rfl, fun w' hSw => by clear hSw; go_simp⟩) (by assumption) ?_
          simp only [Act.put, List.setIfInBounds_toArray, List.set_cons_zero, List.set_cons_succ]
          refine wpAnyH_take (i := 4) (oi := { dst := some 100, op := Op.move (Operand.tmp 12), type := 4, pos := "law.go:55", after := #[{ on := 3, ground := Ground.guard }], guard := some (3, false) }) (v := .bool hs) rfl (by kernel_rfl) (by kernel_rfl) (by kernel_rfl) (fun _ _ _ h => h) (Or.inl ⟨by rfl, fun w' hSw => by clear hSw; go_simp⟩) (by assumption) ?_
          simp only [Act.put, List.setIfInBounds_toArray, List.set_cons_zero, List.set_cons_succ]
          refine wpAnyH_take (i := 5) (oi := { dst := some 101, op := Op.move (Operand.tmp 14), type := 4, pos := "law.go:55", after := #[{ on := 3, ground := Ground.guard }], guard := some (3, false) }) (v := .bool hs) rfl (by kernel_rfl) (by kernel_rfl) (by kernel_rfl) (fun _ _ _ h => h) (Or.inl ⟨by rfl, fun w' hSw => by clear hSw; go_simp⟩) (by assumption) ?_
          simp only [Act.put, List.setIfInBounds_toArray, List.set_cons_zero, List.set_cons_succ]
          refine wpAnyH_take (i := 6) (oi := { dst := some 102, op := Op.binOp BinOp.neq 4 (Operand.tmp 100) (Operand.tmp 101) 4, type := 4, pos := "law.go:55", after := #[{ on := 4, ground := Ground.data }, { on := 5, ground := Ground.data }, { on := 3, ground := Ground.guard }], guard := some (3, false) }) (v := .bool false) rfl (by kernel_rfl) (by kernel_rfl) (by kernel_rfl) (fun _ _ _ h => h) (Or.inl ⟨by rfl, fun w' hSw => by clear hSw; go_simp⟩) (by assumption) ?_
          simp only [Act.put, List.setIfInBounds_toArray, List.set_cons_zero, List.set_cons_succ]
          refine wpAnyH_take (i := 7) (oi := { dst := some 103, op := Op.pick (Operand.tmp 99) (Operand.const (Value.bool true)) (Operand.tmp 102), type := 4, pos := "law.go:55", after := #[{ on := 3, ground := Ground.data }, { on := 6, ground := Ground.data }], guard := none }) (v := .bool false) rfl (by kernel_rfl) (by kernel_rfl) (by kernel_rfl) (fun _ _ _ h => h) (Or.inl ⟨by rfl, fun w' hSw => by clear hSw; go_simp⟩) (by assumption) ?_
          simp only [Act.put, List.setIfInBounds_toArray, List.set_cons_zero, List.set_cons_succ]
          refine wpAnyH_take (i := 8) (oi := { dst := some 104, op := Op.move (Operand.tmp 103), type := 4, pos := "law.go:55", after := #[{ on := 7, ground := Ground.data }, { on := 3, ground := Ground.chain }], guard := none }) (v := .bool false) rfl (by kernel_rfl) (by kernel_rfl) (by kernel_rfl) (fun _ _ _ h => h) (Or.inl ⟨by rfl, fun w' hSw => by clear hSw; go_simp⟩) (by assumption) ?_
          simp only [Act.put, List.setIfInBounds_toArray, List.set_cons_zero, List.set_cons_succ]
          refine wpAnyH_take (i := 9) (oi := { dst := some 105, op := Op.move (Operand.tmp 15), type := 9, pos := "law.go:55", after := #[{ on := 8, ground := Ground.guard }], guard := some (8, false) }) (v := .string kv) rfl (by kernel_rfl) (by kernel_rfl) (by kernel_rfl) (fun _ _ _ h => h) (Or.inl ⟨by rfl, fun w' hSw => by clear hSw; go_simp⟩) (by assumption) ?_
          simp only [Act.put, List.setIfInBounds_toArray, List.set_cons_zero, List.set_cons_succ]
          refine wpAnyH_take (i := 10) (oi := { dst := some 106, op := Op.move (Operand.tmp 17), type := 9, pos := "law.go:55", after := #[{ on := 8, ground := Ground.guard }], guard := some (8, false) }) (v := .string kv) rfl (by kernel_rfl) (by kernel_rfl) (by kernel_rfl) (fun _ _ _ h => h) (Or.inl ⟨by rfl, fun w' hSw => by clear hSw; go_simp⟩) (by assumption) ?_
          simp only [Act.put, List.setIfInBounds_toArray, List.set_cons_zero, List.set_cons_succ]
          refine wpAnyH_take (i := 11) (oi := { dst := some 107, op := Op.binOp BinOp.neq 9 (Operand.tmp 105) (Operand.tmp 106) 9, type := 4, pos := "law.go:55", after := #[{ on := 9, ground := Ground.data }, { on := 10, ground := Ground.data }, { on := 8, ground := Ground.guard }], guard := some (8, false) }) (v := .bool false) rfl (by kernel_rfl) (by kernel_rfl) (by kernel_rfl) (fun _ _ _ h => h) (Or.inl ⟨by rfl, fun w' hSw => by clear hSw; go_simp⟩) (by assumption) ?_
          simp only [Act.put, List.setIfInBounds_toArray, List.set_cons_zero, List.set_cons_succ]
          refine wpAnyH_take (i := 12) (oi := { dst := some 108, op := Op.pick (Operand.tmp 104) (Operand.const (Value.bool true)) (Operand.tmp 107), type := 4, pos := "law.go:55", after := #[{ on := 8, ground := Ground.data }, { on := 11, ground := Ground.data }], guard := none }) (v := .bool false) rfl (by kernel_rfl) (by kernel_rfl) (by kernel_rfl) (fun _ _ _ h => h) (Or.inl ⟨by rfl, fun w' hSw => by clear hSw; go_simp⟩) (by assumption) ?_
          simp only [Act.put, List.setIfInBounds_toArray, List.set_cons_zero, List.set_cons_succ]
          refine wpAnyH_take (i := 13) (oi := { dst := some 109, op := Op.move (Operand.tmp 108), type := 4, pos := "law.go:55", after := #[{ on := 12, ground := Ground.data }, { on := 8, ground := Ground.chain }], guard := none }) (v := .bool false) rfl (by kernel_rfl) (by kernel_rfl) (by kernel_rfl) (fun _ _ _ h => h) (Or.inl ⟨by rfl, fun w' hSw => by clear hSw; go_simp⟩) (by assumption) ?_
          simp only [Act.put, List.setIfInBounds_toArray, List.set_cons_zero, List.set_cons_succ]
          refine wpAnyH_take (i := 14) (oi := { dst := some 110, op := Op.move (Operand.tmp 16), type := 4, pos := "law.go:55", after := #[{ on := 13, ground := Ground.guard }], guard := some (13, false) }) (v := .bool ks) rfl (by kernel_rfl) (by kernel_rfl) (by kernel_rfl) (fun _ _ _ h => h) (Or.inl ⟨by rfl, fun w' hSw => by clear hSw; go_simp⟩) (by assumption) ?_
          simp only [Act.put, List.setIfInBounds_toArray, List.set_cons_zero, List.set_cons_succ]
          refine wpAnyH_take (i := 15) (oi := { dst := some 111, op := Op.move (Operand.tmp 18), type := 4, pos := "law.go:55", after := #[{ on := 13, ground := Ground.guard }], guard := some (13, false) }) (v := .bool ks) rfl (by kernel_rfl) (by kernel_rfl) (by kernel_rfl) (fun _ _ _ h => h) (Or.inl ⟨by rfl, fun w' hSw => by clear hSw; go_simp⟩) (by assumption) ?_
          simp only [Act.put, List.setIfInBounds_toArray, List.set_cons_zero, List.set_cons_succ]
          refine wpAnyH_take (i := 16) (oi := { dst := some 112, op := Op.binOp BinOp.neq 4 (Operand.tmp 110) (Operand.tmp 111) 4, type := 4, pos := "law.go:55", after := #[{ on := 14, ground := Ground.data }, { on := 15, ground := Ground.data }, { on := 13, ground := Ground.guard }], guard := some (13, false) }) (v := .bool false) rfl (by kernel_rfl) (by kernel_rfl) (by kernel_rfl) (fun _ _ _ h => h) (Or.inl ⟨by rfl, fun w' hSw => by clear hSw; go_simp⟩) (by assumption) ?_
          simp only [Act.put, List.setIfInBounds_toArray, List.set_cons_zero, List.set_cons_succ]
          refine wpAnyH_take (i := 17) (oi := { dst := some 113, op := Op.pick (Operand.tmp 109) (Operand.const (Value.bool true)) (Operand.tmp 112), type := 4, pos := "law.go:55", after := #[{ on := 13, ground := Ground.data }, { on := 16, ground := Ground.data }], guard := none }) (v := .bool false) rfl (by kernel_rfl) (by kernel_rfl) (by kernel_rfl) (fun _ _ _ h => h) (Or.inl ⟨by rfl, fun w' hSw => by clear hSw; go_simp⟩) (by assumption) ?_
          simp only [Act.put, List.setIfInBounds_toArray, List.set_cons_zero, List.set_cons_succ]
          refine wpAnyH_take (i := 18) (oi := { dst := some 114, op := Op.move (Operand.tmp 113), type := 4, pos := "law.go:55", after := #[{ on := 17, ground := Ground.data }, { on := 13, ground := Ground.chain }], guard := none }) (v := .bool false) rfl (by kernel_rfl) (by kernel_rfl) (by kernel_rfl) (fun _ _ _ h => h) (Or.inl ⟨by rfl, fun w' hSw => by clear hSw; go_simp⟩) (by assumption) ?_
          simp only [Act.put, List.setIfInBounds_toArray, List.set_cons_zero, List.set_cons_succ]
          refine wpAnyH_take (i := 19) (oi := { dst := some 115, op := Op.move (Operand.tmp 3), type := 23, pos := "law.go:55", after := #[{ on := 18, ground := Ground.guard }], guard := some (18, false) }) (v := .pointer (some ⟨t, 0, none⟩)) rfl (by kernel_rfl) (by kernel_rfl) (by kernel_rfl) (fun _ _ _ h => h) (Or.inl ⟨by rfl, fun w' hSw => by clear hSw; go_simp⟩) (by assumption) ?_
          simp only [Act.put, List.setIfInBounds_toArray, List.set_cons_zero, List.set_cons_succ]
          refine wpAnyH_take (i := 20) (oi := { dst := some 116, op := Op.fieldAddr 29 (Operand.tmp 6) 1, type := 0, pos := "law.go:55", after := #[{ on := 18, ground := Ground.guard }], guard := some (18, false) }) (v := .pointer (some ⟨b, 1, none⟩)) rfl (by kernel_rfl) (by kernel_rfl) (by kernel_rfl) (fun _ _ _ h => h) (Or.inl ⟨by rfl, fun w' hSw => by clear hSw; go_simp⟩) (by assumption) ?_
          simp only [Act.put, List.setIfInBounds_toArray, List.set_cons_zero, List.set_cons_succ]
          refine wpAnyH_take (i := 23) (oi := { dst := some 119, op := Op.fieldAddr 29 (Operand.tmp 6) 1, type := 0, pos := "law.go:55", after := #[{ on := 18, ground := Ground.guard }], guard := some (18, false) }) (v := .pointer (some ⟨b, 1, none⟩)) rfl (by kernel_rfl) (by kernel_rfl) (by kernel_rfl) (fun _ _ _ h => h) (Or.inl ⟨by rfl, fun w' hSw => by clear hSw; go_simp⟩) (by assumption) ?_
          simp only [Act.put, List.setIfInBounds_toArray, List.set_cons_zero, List.set_cons_succ]
          refine wpAnyH_take (i := 21) (oi := { dst := some 117, op := Op.load 3 (Operand.tmp 116), type := 3, pos := "law.go:55", after := #[{ on := 20, ground := Ground.data }, { on := 18, ground := Ground.guard }], guard := some (18, false) }) (v := .int .i64 x) rfl (by kernel_rfl) (by kernel_rfl) (by kernel_rfl) (fun _ _ _ h => h) (yieldsIf_load_cell (by rfl) 3 _ rfl _ rfl (fun W hW => (HB6.out.kept (Only.kq hW)).c1) (fun W hc => ld_int hc)) (by assumption) ?_
          simp only [Act.put, List.setIfInBounds_toArray, List.set_cons_zero, List.set_cons_succ]
          refine wpAnyH_take (i := 24) (oi := { dst := some 120, op := Op.load 3 (Operand.tmp 119), type := 3, pos := "law.go:55", after := #[{ on := 23, ground := Ground.data }, { on := 18, ground := Ground.guard }], guard := some (18, false) }) (v := .int .i64 x) rfl (by kernel_rfl) (by kernel_rfl) (by kernel_rfl) (fun _ _ _ h => h) (yieldsIf_load_cell (by rfl) 3 _ rfl _ rfl (fun W hW => (HB6.out.kept (Only.kq hW)).c1) (fun W hc => ld_int hc)) (by assumption) ?_
          simp only [Act.put, List.setIfInBounds_toArray, List.set_cons_zero, List.set_cons_succ]
          refine wpAnyH_ready (rs := [22]) (by kernel_rfl) (by simp) ?_
          refine AllReadyH.cons (o := { dst := some 118, op := Op.call { callee := Callee.value (Operand.func 19), args := #[Operand.tmp 115, Operand.tmp 117], argTypes := #[23, 3] }, type := 41, pos := "law.go:55", after := #[{ on := 19, ground := Ground.data }, { on := 21, ground := Ground.data }, { on := 18, ground := Ground.chain }, { on := 18, ground := Ground.guard }], guard := some (18, false) }) rfl (fun K hK => ?_) (AllReadyH.nil)
          go_simp
          refine (pa_held (HP6.out.more (Only.drew _ _)) x (by omega)).mono ?_
          rintro e v1 ⟨a1, c1, L1, rfl, hL1, hI1, hn1, ho⟩
          have HV1 : Hid (Only (fun _ => False) w6 v1) := (Only.drew (fun _ => False) w6).trans ho (fun _ _ e => e)
          have HL1 := hide hL1
          have HI1 := hide hI1
          clear hL1 hI1 ho
          refine hK.out _ _ (HV1.out) (fun hHeld => ?_)
          clear hK K
          try simp only [Act.put, List.setIfInBounds_toArray, List.set_cons_zero, List.set_cons_succ]
          refine wpAnyH_ready (rs := [25]) (by kernel_rfl) (by simp) ?_
          refine AllReadyH.cons (o := { dst := some 121, op := Op.call { callee := Callee.value (Operand.func 20), args := #[Operand.tmp 4, Operand.tmp 120], argTypes := #[27, 3] }, type := 41, pos := "law.go:55", after := #[{ on := 24, ground := Ground.data }, { on := 22, ground := Ground.chain }, { on := 18, ground := Ground.guard }], guard := some (18, false) }) rfl (fun K hK => ?_) (AllReadyH.nil)
          go_simp
          refine (pa_jheld (HP6.out.more HV1.out) x (by omega)).mono ?_
          rintro e v2 ⟨a2, c2, L2, rfl, hL2, hI2, hn2, ho⟩
          have eL : L2 = L1 := hL2.one HL1.out
          subst eL
          have HI12 := hide (HI1.out.kept ho (fun _ _ => id))
          have HV2 : Hid (Only (fun _ => False) w6 v2) := HV1.out.trans ho (fun _ _ e => e)
          have HI2 := hide hI2
          clear hL2 hI2 ho
          refine hK.out _ _ (HV2.out) (fun hHeld => ?_)
          clear hK K
          try simp only [Act.put, List.setIfInBounds_toArray, List.set_cons_zero, List.set_cons_succ]
          refine wpAnyH_ready (rs := [26]) (by kernel_rfl) (by simp) ?_
          refine AllReadyH.cons (o := { dst := some 122, op := Op.call { callee := Callee.value (Operand.func 18), args := #[Operand.tmp 118, Operand.tmp 121], argTypes := #[41, 41] }, type := 4, pos := "law.go:55", after := #[{ on := 22, ground := Ground.data }, { on := 25, ground := Ground.data }, { on := 25, ground := Ground.chain }, { on := 18, ground := Ground.guard }], guard := some (18, false) }) rfl (fun K hK => ?_) (AllReadyH.nil)
          go_simp
          refine (sameS_true v2 _ _ _ _ _ _ _ HI12.out HI2.out (by omega)).mono ?_
          rintro e v3 ⟨rfl, ho⟩
          have HV3 : Hid (Only (fun _ => False) w6 v3) := HV2.out.trans ho (fun _ _ e => e)
          clear ho
          refine hK.out _ _ (HV3.out) (fun hHeld => ?_)
          clear hK K
          try simp only [Act.put, List.setIfInBounds_toArray, List.set_cons_zero, List.set_cons_succ]
          refine wpAnyH_take (i := 27) (oi := { dst := some 123, op := Op.unOp UnOp.not 4 (Operand.tmp 122), type := 4, pos := "law.go:55", after := #[{ on := 26, ground := Ground.data }, { on := 18, ground := Ground.guard }], guard := some (18, false) }) (v := .bool false) rfl (by kernel_rfl) (by kernel_rfl) (by kernel_rfl) (fun _ _ _ h => h) (Or.inl ⟨by rfl, fun w' hSw => by clear hSw; go_simp⟩) (by assumption) ?_
          simp only [Act.put, List.setIfInBounds_toArray, List.set_cons_zero, List.set_cons_succ]
          refine wpAnyH_take (i := 28) (oi := { dst := some 124, op := Op.pick (Operand.tmp 114) (Operand.const (Value.bool true)) (Operand.tmp 123), type := 4, pos := "law.go:55", after := #[{ on := 18, ground := Ground.data }, { on := 27, ground := Ground.data }], guard := none }) (v := .bool false) rfl (by kernel_rfl) (by kernel_rfl) (by kernel_rfl) (fun _ _ _ h => h) (Or.inl ⟨by rfl, fun w' hSw => by clear hSw; go_simp⟩) (by assumption) ?_
          simp only [Act.put, List.setIfInBounds_toArray, List.set_cons_zero, List.set_cons_succ]
          refine wpAnyH_take (i := 29) (oi := { dst := some 125, op := Op.move (Operand.tmp 124), type := 4, pos := "law.go:55", after := #[{ on := 28, ground := Ground.data }, { on := 26, ground := Ground.chain }], guard := none }) (v := .bool false) rfl (by kernel_rfl) (by kernel_rfl) (by kernel_rfl) (fun _ _ _ h => h) (Or.inl ⟨by rfl, fun w' hSw => by clear hSw; go_simp⟩) (by assumption) ?_
          simp only [Act.put, List.setIfInBounds_toArray, List.set_cons_zero, List.set_cons_succ]
          refine wpAnyH_take (i := 30) (oi := { dst := some 126, op := Op.move (Operand.tmp 3), type := 23, pos := "law.go:55", after := #[{ on := 29, ground := Ground.guard }], guard := some (29, false) }) (v := .pointer (some ⟨t, 0, none⟩)) rfl (by kernel_rfl) (by kernel_rfl) (by kernel_rfl) (fun _ _ _ h => h) (Or.inl ⟨by rfl, fun w' hSw => by clear hSw; go_simp⟩) (by assumption) ?_
          simp only [Act.put, List.setIfInBounds_toArray, List.set_cons_zero, List.set_cons_succ]
          refine wpAnyH_ready (rs := [31]) (by kernel_rfl) (by simp) ?_
          refine AllReadyH.cons (o := { dst := some 127, op := Op.call { callee := Callee.value (Operand.func 21), args := #[Operand.tmp 126], argTypes := #[23] }, type := 31, pos := "law.go:55", after := #[{ on := 30, ground := Ground.data }, { on := 29, ground := Ground.chain }, { on := 29, ground := Ground.guard }], guard := some (29, false) }) rfl (fun K hK => ?_) (AllReadyH.nil)
          go_simp
          refine (pa_waiting (HP6.out.more HV3.out) (by omega)).mono ?_
          rintro e v4 ⟨a4, c4, L4, rfl, hL4, hI4, hn4, ho⟩
          have HV4 : Hid (Only (fun _ => False) w6 v4) := HV3.out.trans ho (fun _ _ e => e)
          have HL4 := hide hL4
          have HI4 := hide hI4
          clear hL4 hI4 ho
          refine hK.out _ _ (HV4.out) (fun hHeld => ?_)
          clear hK K
          try simp only [Act.put, List.setIfInBounds_toArray, List.set_cons_zero, List.set_cons_succ]
          refine wpAnyH_ready (rs := [32]) (by kernel_rfl) (by simp) ?_
          refine AllReadyH.cons (o := { dst := some 128, op := Op.call { callee := Callee.value (Operand.func 22), args := #[Operand.tmp 4], argTypes := #[27] }, type := 31, pos := "law.go:55", after := #[{ on := 31, ground := Ground.chain }, { on := 29, ground := Ground.guard }], guard := some (29, false) }) rfl (fun K hK => ?_) (AllReadyH.nil)
          go_simp
          refine (pa_jwaiting (HP6.out.more HV4.out) (by omega)).mono ?_
          rintro e v5 ⟨a5, c5, L5, rfl, hL5, hI5, hn5, ho⟩
          have eL : L5 = L4 := hL5.one HL4.out
          subst eL
          have HI45 := hide (HI4.out.kept ho (fun _ _ => id))
          have HV5 : Hid (Only (fun _ => False) w6 v5) := HV4.out.trans ho (fun _ _ e => e)
          have HI5 := hide hI5
          clear hL5 hI5 ho
          refine hK.out _ _ (HV5.out) (fun hHeld => ?_)
          clear hK K
          try simp only [Act.put, List.setIfInBounds_toArray, List.set_cons_zero, List.set_cons_succ]
          refine wpAnyH_ready (rs := [33]) (by kernel_rfl) (by simp) ?_
          refine AllReadyH.cons (o := { dst := some 129, op := Op.call { callee := Callee.value (Operand.func 9), args := #[Operand.tmp 127, Operand.tmp 128], argTypes := #[31, 31] }, type := 4, pos := "law.go:55", after := #[{ on := 31, ground := Ground.data }, { on := 32, ground := Ground.data }, { on := 32, ground := Ground.chain }, { on := 29, ground := Ground.guard }], guard := some (29, false) }) rfl (fun K hK => ?_) (AllReadyH.nil)
          go_simp
          refine (sameI_true v5 _ _ _ _ _ _ _ HI45.out HI5.out (by omega)).mono ?_
          rintro e v6 ⟨rfl, ho⟩
          have HV6 : Hid (Only (fun _ => False) w6 v6) := HV5.out.trans ho (fun _ _ e => e)
          clear ho
          refine hK.out _ _ (HV6.out) (fun hHeld => ?_)
          clear hK K
          try simp only [Act.put, List.setIfInBounds_toArray, List.set_cons_zero, List.set_cons_succ]
          refine wpAnyH_take (i := 34) (oi := { dst := some 130, op := Op.unOp UnOp.not 4 (Operand.tmp 129), type := 4, pos := "law.go:55", after := #[{ on := 33, ground := Ground.data }, { on := 29, ground := Ground.guard }], guard := some (29, false) }) (v := .bool false) rfl (by kernel_rfl) (by kernel_rfl) (by kernel_rfl) (fun _ _ _ h => h) (Or.inl ⟨by rfl, fun w' hSw => by clear hSw; go_simp⟩) (by assumption) ?_
          simp only [Act.put, List.setIfInBounds_toArray, List.set_cons_zero, List.set_cons_succ]
          refine wpAnyH_take (i := 35) (oi := { dst := some 131, op := Op.pick (Operand.tmp 125) (Operand.const (Value.bool true)) (Operand.tmp 130), type := 4, pos := "law.go:55", after := #[{ on := 29, ground := Ground.data }, { on := 34, ground := Ground.data }], guard := none }) (v := .bool false) rfl (by kernel_rfl) (by kernel_rfl) (by kernel_rfl) (fun _ _ _ h => h) (Or.inl ⟨by rfl, fun w' hSw => by clear hSw; go_simp⟩) (by assumption) ?_
          simp only [Act.put, List.setIfInBounds_toArray, List.set_cons_zero, List.set_cons_succ]
          refine wpAnyH_done (by kernel_rfl) ?_ _
          refine NoPanic.normal ?_
          go_wp2_with fail
          go_meet
          exact ⟨rfl, HV6⟩
        case rest =>
          obtain ⟨rfl, HV7⟩ := hcut
          have HP7 := hide (HP6.out.more HV7.out)
          have HB7 := hide (HB6.out.kept (Only.kq HV7.out))
          clear HP6 HB6 HV7 b0 b1 b2
          have b1 := HB7.out.c1
          go_wp2_with fail
          refine (pa_held HP7.out x (by omega)).mono ?_
          rintro e w8 ⟨a8, c8, L8, rfl, _, hI8, hn8, ho8⟩
          have HO8 := hide ho8
          have HI8 := hide hI8
          clear hI8 ho8 b1
          go_wp2_with fail
          go_loopw [20] (fun y wr => ∃ (q : Nat) (L : List ByteArray), q ≤ L8.length ∧ y = .int .i64 (q : Int) ∧ L.length = L8.length ∧ Hid (SRow wr wc.heap.size (.slice a8 L8.length c8) L) ∧ Hid (Only (fun _ => False) wc wr)) (fun y _ => L8.length - (intOf y).toNat)
          case atStart => exact ⟨0, L8, by omega, rfl, rfl, HI8, HO8⟩
          case round =>
            clear HI8 HO8
            obtain ⟨q, L, hq, rfl, hLL, HIq, HOq⟩ := hrel
            by_cases hql : q < L8.length
            · obtain ⟨g, e1, hgb, _, hcg⟩ := HIq.out.at_ (j := q) (by omega)
              subst e1
              obtain ⟨s1, s2, s3⟩ := srow_store HIq.out hLL q ⟨#[110, 111]⟩
              have HI9 := hide s1
              have HL9 := hide s2
              have HO9 : Hid (Only (fun _ => False) wc (wr.setCell ⟨g, q, none⟩ (.string ⟨#[110, 111]⟩))) := HOq.out.trans (Only.setCell (S := fun i => i = g) wr ⟨g, q, none⟩ _ rfl) (fun i hi e => by omega)
              obtain ⟨zz, hcq⟩ : ∃ zz, wr.cell? ⟨g, q, none⟩ = some (.string zz) := ⟨_, hcg⟩
              clear s1 s2 hcg hLL
              go_wp2_with fail
              exact ⟨⟨q + 1, _, by omega, by go_num, HL9.out, HI9, HO9⟩, by simp [intOf]; omega⟩
            · have HP9 := hide (HP7.out.more HOq.out)
              have HB9 := hide (HB7.out.kept (Only.kq HOq.out))
              clear HIq hLL HOq HP7 HB7
              go_upto_region 27 with fail
              go_cut [153] (fun t0 wd => t0 = .bool false ∧ Hid (Only (fun _ => False) wr wd))
              case first =>
                refine wp_region_noPanic ?_
                refine wp_region_held_drew (S := fun V => Only (fun _ => False) wr V) (by kernel_rfl) (Only.drew _ wr) (fun hHeld => ?_)
                refine wpAnyH_take (i := 0) (oi := { dst := some 145, op := Op.move (Operand.tmp 3), type := 23, pos := "law.go:62", after := #[], guard := none }) (v := .pointer (some ⟨t, 0, none⟩)) rfl (by kernel_rfl) (by kernel_rfl) (by kernel_rfl) (fun _ _ _ h => h) (Or.inl ⟨by rfl, fun w' hSw => by clear hSw; go_simp⟩) (by assumption) ?_
                simp only [Act.put, List.setIfInBounds_toArray, List.set_cons_zero, List.set_cons_succ]
                refine wpAnyH_take (i := 1) (oi := { dst := some 146, op := Op.fieldAddr 29 (Operand.tmp 6) 1, type := 0, pos := "law.go:62", after := #[], guard := none }) (v := .pointer (some ⟨b, 1, none⟩)) rfl (by kernel_rfl) (by kernel_rfl) (by kernel_rfl) (fun _ _ _ h => h) (Or.inl ⟨by rfl, fun w' hSw => by clear hSw; go_simp⟩) (by assumption) ?_
                simp only [Act.put, List.setIfInBounds_toArray, List.set_cons_zero, List.set_cons_succ]
                refine wpAnyH_take (i := 4) (oi := { dst := some 149, op := Op.fieldAddr 29 (Operand.tmp 6) 1, type := 0, pos := "law.go:62", after := #[], guard := none }) (v := .pointer (some ⟨b, 1, none⟩)) rfl (by kernel_rfl) (by kernel_rfl) (by kernel_rfl) (fun _ _ _ h => h) (Or.inl ⟨by rfl, fun w' hSw => by clear hSw; go_simp⟩) (by assumption) ?_
                simp only [Act.put, List.setIfInBounds_toArray, List.set_cons_zero, List.set_cons_succ]
                refine wpAnyH_take (i := 2) (oi := { dst := some 147, op := Op.load 3 (Operand.tmp 146), type := 3, pos := "law.go:62", after := #[{ on := 1, ground := Ground.data }], guard := none }) (v := .int .i64 x) rfl (by kernel_rfl) (by kernel_rfl) (by kernel_rfl) (fun _ _ _ h => h) (yieldsIf_load_cell (by rfl) 3 _ rfl _ rfl (fun W hW => (HB9.out.kept (Only.kq hW)).c1) (fun W hc => ld_int hc)) (by assumption) ?_
                simp only [Act.put, List.setIfInBounds_toArray, List.set_cons_zero, List.set_cons_succ]
                refine wpAnyH_take (i := 5) (oi := { dst := some 150, op := Op.load 3 (Operand.tmp 149), type := 3, pos := "law.go:62", after := #[{ on := 4, ground := Ground.data }], guard := none }) (v := .int .i64 x) rfl (by kernel_rfl) (by kernel_rfl) (by kernel_rfl) (fun _ _ _ h => h) (yieldsIf_load_cell (by rfl) 3 _ rfl _ rfl (fun W hW => (HB9.out.kept (Only.kq hW)).c1) (fun W hc => ld_int hc)) (by assumption) ?_
                simp only [Act.put, List.setIfInBounds_toArray, List.set_cons_zero, List.set_cons_succ]
                refine wpAnyH_ready (rs := [3]) (by kernel_rfl) (by simp) ?_
                refine AllReadyH.cons (o := { dst := some 148, op := Op.call { callee := Callee.value (Operand.func 19), args := #[Operand.tmp 145, Operand.tmp 147], argTypes := #[23, 3] }, type := 41, pos := "law.go:62", after := #[{ on := 0, ground := Ground.data }, { on := 2, ground := Ground.data }], guard := none }) rfl (fun K hK => ?_) (AllReadyH.nil)
                go_simp
                refine (pa_held (HP9.out.more (Only.drew _ _)) x (by omega)).mono ?_
                rintro e v1 ⟨a1, c1, L1, rfl, hL1, hI1, hn1, ho⟩
                have HV1 : Hid (Only (fun _ => False) wr v1) := (Only.drew (fun _ => False) wr).trans ho (fun _ _ e => e)
                have HL1 := hide hL1
                have HI1 := hide hI1
                clear hL1 hI1 ho
                refine hK.out _ _ (HV1.out) (fun hHeld => ?_)
                clear hK K
                try simp only [Act.put, List.setIfInBounds_toArray, List.set_cons_zero, List.set_cons_succ]
                refine wpAnyH_ready (rs := [6]) (by kernel_rfl) (by simp) ?_
                refine AllReadyH.cons (o := { dst := some 151, op := Op.call { callee := Callee.value (Operand.func 20), args := #[Operand.tmp 4, Operand.tmp 150], argTypes := #[27, 3] }, type := 41, pos := "law.go:62", after := #[{ on := 5, ground := Ground.data }, { on := 3, ground := Ground.chain }], guard := none }) rfl (fun K hK => ?_) (AllReadyH.nil)
                go_simp
                refine (pa_jheld (HP9.out.more HV1.out) x (by omega)).mono ?_
                rintro e v2 ⟨a2, c2, L2, rfl, hL2, hI2, hn2, ho⟩
                have eL : L2 = L1 := hL2.one HL1.out
                subst eL
                have HI12 := hide (HI1.out.kept ho (fun _ _ => id))
                have HV2 : Hid (Only (fun _ => False) wr v2) := HV1.out.trans ho (fun _ _ e => e)
                have HI2 := hide hI2
                clear hL2 hI2 ho
                refine hK.out _ _ (HV2.out) (fun hHeld => ?_)
                clear hK K
                try simp only [Act.put, List.setIfInBounds_toArray, List.set_cons_zero, List.set_cons_succ]
                refine wpAnyH_ready (rs := [7]) (by kernel_rfl) (by simp) ?_
                refine AllReadyH.cons (o := { dst := some 152, op := Op.call { callee := Callee.value (Operand.func 18), args := #[Operand.tmp 148, Operand.tmp 151], argTypes := #[41, 41] }, type := 4, pos := "law.go:62", after := #[{ on := 3, ground := Ground.data }, { on := 6, ground := Ground.data }, { on := 6, ground := Ground.chain }], guard := none }) rfl (fun K hK => ?_) (AllReadyH.nil)
                go_simp
                refine (sameS_true v2 _ _ _ _ _ _ _ HI12.out HI2.out (by omega)).mono ?_
                rintro e v3 ⟨rfl, ho⟩
                have HV3 : Hid (Only (fun _ => False) wr v3) := HV2.out.trans ho (fun _ _ e => e)
                clear ho
                refine hK.out _ _ (HV3.out) (fun hHeld => ?_)
                clear hK K
                try simp only [Act.put, List.setIfInBounds_toArray, List.set_cons_zero, List.set_cons_succ]
                refine wpAnyH_take (i := 8) (oi := { dst := some 153, op := Op.unOp UnOp.not 4 (Operand.tmp 152), type := 4, pos := "law.go:62", after := #[{ on := 7, ground := Ground.data }], guard := none }) (v := .bool false) rfl (by kernel_rfl) (by kernel_rfl) (by kernel_rfl) (fun _ _ _ h => h) (Or.inl ⟨by rfl, fun w' hSw => by clear hSw; go_simp⟩) (by assumption) ?_
                simp only [Act.put, List.setIfInBounds_toArray, List.set_cons_zero, List.set_cons_succ]
                refine wpAnyH_done (by kernel_rfl) ?_ _
                refine NoPanic.normal ?_
                go_wp2_with fail
                go_meet
                exact ⟨rfl, HV3⟩
              case rest =>
                obtain ⟨rfl, HV9⟩ := hcut
                go_wp2_with fail
                exact ⟨⟨j + 1, T2, by omega, by go_num, hide (HP9.out.more HV9.out)⟩, by simp [intOf]; omega⟩
    · go_wp2_with fail
      refine (lawake_any wr).mono ?_
      rintro e w9 ⟨rfl, hO⟩
      go_wp2_with fail
      go_ret
      exact ⟨rfl, HP.out.lk.only.trans hO (fun _ _ h => h)⟩
end Go.Proofs.Ytmmhmgndokaklaa
