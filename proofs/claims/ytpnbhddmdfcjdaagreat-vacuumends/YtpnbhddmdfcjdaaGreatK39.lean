/- Parts. -/
import Derived.Test.YtpnbhddmdfcjdaaGreatK38
set_option maxRecDepth 100000
namespace Go.Proofs.YtpnbhddmdfcjdaaGreat
open Go.RowKit
/-- What readInner answers: what it read, or that it is no inner node. -/
def InA (w w' : World) (e : Ending) (hi : En) (o : Option (List (En × Int))) : Prop := match o with
  | some ks => InR w w' e hi ks
  | none => CvR e false ∧ Only (fun _ => False) w w'
set_option maxRecDepth 100000 in
set_option maxHeartbeats 3200000 in
theorem readInner_all (w : World) (a v r : Int) (h : ByteArray) (hi : En) (B cp : Nat) (ao : Option Addr) (l : List ByteArray) (hS : Strs w B ao l) (hv : ¬ v = 0) (hH : hdO 3 v r h = some hi) (hl : l.length ≤ 8796093021952) (hp : 0 < l.length) :
    Calls Tryz.prog 174 #[pgv a 3 v r h ao l.length cp] w fun e w' => InA w w' e hi (rdI hi none l) := by
  have HX := hide (lf_new w (.int .i64 a) (.int .i64 3) (.int .i64 v) (.int .i64 r) (.string h) (.slice ao l.length cp))
  have HRH : Hid (∀ W, Calls Tryz.prog 193 #[.agg #[.int .i64 a, .int .i64 3, .int .i64 v, .int .i64 r, .string h, .slice ao l.length cp]] W fun e w' => e = .returned (.tuple #[.agg #[.string hi.key, .int .i64 hi.page, .int .i64 hi.slot], .bool true]) ∧ Only (fun _ => False) W w') := fun W => by
    have q := readHead_any W a 3 v r h ao l.length cp
    rw [hH] at q
    exact q
  obtain ⟨O, hmk, hown⟩ := ets_made2 l.length hl
  obtain ⟨O2, hmk2, hown2⟩ := kts_made2 l.length hl
  have HOWN : Hid (∀ (W : World) (g : Nat), g = W.heap.size → w.heap.size ≤ W.heap.size → Ets (W.alloc O) w.heap.size (.slice (some ⟨g, 0, none⟩) 0 l.length) []) := fun W g hg hb => by subst hg; exact hown W _ hb
  have HOWK : Hid (∀ (W : World) (g : Nat), g = W.heap.size → w.heap.size ≤ W.heap.size → Kts (W.alloc O2) w.heap.size (.slice (some ⟨g, 0, none⟩) 0 l.length) []) := fun W g hg hb => by subst hg; exact hown2 W _ hb
  have HS := hide hS
  have hv0 : (v == 0) = false := by simpa using hv
  have hl0 : ((l.length : Int) == 0) = false := by rw [beq_eq_false_iff_ne]; omega
  have HLL := hide hl
  clear hS hown hown2 hv hH hp
  unfold pgv
  go_enter Tryz.func174, Tryz.ntmps174
  go_upto_region 1 with fail
  obtain ⟨W0, hW0⟩ : ∃ x, (w.alloc (.cells #[.int .i64 a, .int .i64 3, .int .i64 v, .int .i64 r, .string h, .slice ao l.length cp] 30)).alloc (.cells #[.slice none 0 0, .slice none 0 0, .string ⟨#[]⟩, .int .i64 0, .int .i64 0] 200) = x := ⟨_, rfl⟩
  rw [hW0] at HX ⊢
  clear hW0
  obtain ⟨p0, p1, p2, p3, p4, p5, _⟩ := HX.out.1
  go_wp2_with fail
  refine (HRH.out _).mono ?_
  rintro e w1 ⟨rfl, ho⟩
  have HP1 := hide (HX.out.1.more ho)
  have HC1 := hide (HX.out.2.1.more ho)
  have HO1 := hide (o2 HX.out.2.2 ho)
  clear ho p0 p1 p2 p3 p4 p5 HX HRH
  go_upto_region 2 with fail
  have HA := hide (onlyA w1 (.cells #[.string hi.key, .int .i64 hi.page, .int .i64 hi.slot] 74))
  have HV2 := hide (Ev.new w1 hi)
  obtain ⟨b4, hb4⟩ : ∃ b, w1.heap.size = b := ⟨_, rfl⟩
  rw [hb4] at HV2 ⊢
  clear hb4
  obtain ⟨w2, hw2⟩ : ∃ x, w1.alloc (.cells #[.string hi.key, .int .i64 hi.page, .int .i64 hi.slot] 74) = x := ⟨_, rfl⟩
  rw [hw2] at HA HV2 ⊢
  clear hw2
  have HP2 := hide (HP1.out.more HA.out)
  have HC2 := hide (HC1.out.more HA.out)
  have HO2 := hide (o2 HO1.out HA.out)
  clear HA HP1 HC1 HO1
  have p2 := HP2.out.c2
  have p5 := HP2.out.c5
  go_upto_region 4 with fail
  clear p2 p5 hv0 hl0
  go_cut [6] (fun p wx => ∃ c g q, p = .pointer (some ⟨c, 0, none⟩) ∧ Hid (Lc w wx a v r h ao l.length cp c (.slice (some ⟨g, 0, none⟩) 0 l.length) (.slice (some ⟨q, 0, none⟩) 0 l.length) hi [] []))
  case first =>
    -- {r4
    refine wp_region_noPanic ?_
    refine wp_region_held_drew (S := fun W => Only (fun _ => False) w2 W) (by kernel_rfl) (Only.drew _ _) (fun hHeld => ?_)
    refine wpAnyH_take (i := 0) (oi := { dst := some 31, op := Op.fieldAddr 30 (Operand.tmp 1) 5, type := 0, pos := "read.go:49", after := #[], guard := none }) (v := .pointer (some ⟨w.heap.size, 5, none⟩)) rfl (by kernel_rfl) (by kernel_rfl) (by kernel_rfl) (fun _ _ _ h => h) (Or.inl ⟨by rfl, fun w' hSw => by clear hSw; go_simp⟩) (by assumption) ?_
    simp only [Act.put, List.setIfInBounds_toArray, List.set_cons_zero, List.set_cons_succ]
    refine wpAnyH_take (i := 4) (oi := { dst := some 35, op := Op.fieldAddr 30 (Operand.tmp 1) 5, type := 0, pos := "read.go:49", after := #[], guard := none }) (v := .pointer (some ⟨w.heap.size, 5, none⟩)) rfl (by kernel_rfl) (by kernel_rfl) (by kernel_rfl) (fun _ _ _ h => h) (Or.inl ⟨by rfl, fun w' hSw => by clear hSw; go_simp⟩) (by assumption) ?_
    simp only [Act.put, List.setIfInBounds_toArray, List.set_cons_zero, List.set_cons_succ]
    refine wpAnyH_take (i := 8) (oi := { dst := some 39, op := Op.load 74 (Operand.tmp 4), type := 74, pos := "read.go:49", after := #[], guard := none }) (v := .agg #[.string hi.key, .int .i64 hi.page, .int .i64 hi.slot]) rfl (by kernel_rfl) (by kernel_rfl) (by kernel_rfl) (fun _ _ _ h => h) (yieldsIf_load_ev (by rfl) _ rfl rfl (fun W hW => HV2.out.more hW)) (by assumption) ?_
    simp only [Act.put, List.setIfInBounds_toArray, List.set_cons_zero, List.set_cons_succ]
    refine wpAnyH_take (i := 1) (oi := { dst := some 32, op := Op.load 28 (Operand.tmp 31), type := 28, pos := "read.go:49", after := #[{ on := 0, ground := Ground.data }], guard := none }) (v := .slice ao l.length cp) rfl (by kernel_rfl) (by kernel_rfl) (by kernel_rfl) (fun _ _ _ h => h) (yieldsIf_load_cell (by rfl) 28 _ rfl _ rfl (fun W hW => (HP2.out.more hW).c5) (fun W hc => ld_strings hc)) (by assumption) ?_
    simp only [Act.put, List.setIfInBounds_toArray, List.set_cons_zero, List.set_cons_succ]
    refine wpAnyH_take (i := 5) (oi := { dst := some 36, op := Op.load 28 (Operand.tmp 35), type := 28, pos := "read.go:49", after := #[{ on := 4, ground := Ground.data }], guard := none }) (v := .slice ao l.length cp) rfl (by kernel_rfl) (by kernel_rfl) (by kernel_rfl) (fun _ _ _ h => h) (yieldsIf_load_cell (by rfl) 28 _ rfl _ rfl (fun W hW => (HP2.out.more hW).c5) (fun W hc => ld_strings hc)) (by assumption) ?_
    simp only [Act.put, List.setIfInBounds_toArray, List.set_cons_zero, List.set_cons_succ]
    refine wpAnyH_take (i := 2) (oi := { dst := some 33, op := Op.call { callee := Callee.builtin Builtin.len, args := #[Operand.tmp 32], argTypes := #[28] }, type := 3, pos := "read.go:49", after := #[{ on := 1, ground := Ground.data }], guard := none }) (v := .int .i64 (l.length : Int)) rfl (by kernel_rfl) (by kernel_rfl) (by kernel_rfl) (fun _ _ _ h => h) (Or.inl ⟨by rfl, fun w' hSw => by clear hSw; go_simp⟩) (by assumption) ?_
    simp only [Act.put, List.setIfInBounds_toArray, List.set_cons_zero, List.set_cons_succ]
    refine wpAnyH_take (i := 6) (oi := { dst := some 37, op := Op.call { callee := Callee.builtin Builtin.len, args := #[Operand.tmp 36], argTypes := #[28] }, type := 3, pos := "read.go:49", after := #[{ on := 5, ground := Ground.data }], guard := none }) (v := .int .i64 (l.length : Int)) rfl (by kernel_rfl) (by kernel_rfl) (by kernel_rfl) (fun _ _ _ h => h) (Or.inl ⟨by rfl, fun w' hSw => by clear hSw; go_simp⟩) (by assumption) ?_
    simp only [Act.put, List.setIfInBounds_toArray, List.set_cons_zero, List.set_cons_succ]
    refine wpAnyH_ready (rs := [3, 7, 10]) (by kernel_rfl) (by simp) ?_
    refine AllReadyH.cons (o := { dst := some 34, op := Op.makeSlice 37 (Operand.const (Value.int IntKind.i64 0)) (Operand.tmp 33), type := 37, pos := "read.go:49", after := #[{ on := 2, ground := Ground.data }], guard := none }) rfl (fun K hK => ?_) (AllReadyH.cons (o := { dst := some 38, op := Op.makeSlice 25 (Operand.const (Value.int IntKind.i64 0)) (Operand.tmp 37), type := 25, pos := "read.go:49", after := #[{ on := 6, ground := Ground.data }], guard := none }) rfl (fun K hK => ?_) (AllReadyH.cons (o := { dst := some 6, op := Op.alloc 200, type := 0, pos := "read.go:49", after := #[], guard := none }) rfl (fun K hK => ?_) (AllReadyH.nil)))
    · go_simp
      refine hK.out _ _ (o2 (onlyA _ _) (Only.drew _ _)) (fun hHeld => ?_)
      clear hK K
      try simp only [Act.put, List.setIfInBounds_toArray, List.set_cons_zero, List.set_cons_succ]
      refine wpAnyH_ready (rs := [7, 10]) (by kernel_rfl) (by simp) ?_
      refine AllReadyH.cons (o := { dst := some 38, op := Op.makeSlice 25 (Operand.const (Value.int IntKind.i64 0)) (Operand.tmp 37), type := 25, pos := "read.go:49", after := #[{ on := 6, ground := Ground.data }], guard := none }) rfl (fun K hK => ?_) (AllReadyH.cons (o := { dst := some 6, op := Op.alloc 200, type := 0, pos := "read.go:49", after := #[], guard := none }) rfl (fun K hK => ?_) (AllReadyH.nil))
      · go_simp
        refine hK.out _ _ (o2 (o2 (onlyA _ _) (onlyA _ _)) (Only.drew _ _)) (fun hHeld => ?_)
        clear hK K
        try simp only [Act.put, List.setIfInBounds_toArray, List.set_cons_zero, List.set_cons_succ]
        refine wpAnyH_take (i := 9) (oi := { dst := some 40, op := Op.build 200 #[(0, Operand.tmp 34), (1, Operand.tmp 38), (2, Operand.tmp 39)], type := 200, pos := "read.go:49", after := #[{ on := 3, ground := Ground.data }, { on := 7, ground := Ground.data }, { on := 8, ground := Ground.data }], guard := none }) (v := .agg #[.slice (some ⟨w2.heap.size, 0, none⟩) 0 l.length, .slice (some ⟨w2.heap.size + 1, 0, none⟩) 0 l.length, .string hi.key, .int .i64 hi.page, .int .i64 hi.slot]) rfl (by kernel_rfl) (by kernel_rfl) (by kernel_rfl) (fun _ _ _ h => h) (Or.inl ⟨by rfl, fun w' hSw => by clear hSw; go_simp⟩) (by assumption) ?_
        simp only [Act.put, List.setIfInBounds_toArray, List.set_cons_zero, List.set_cons_succ]
        refine wpAnyH_ready (rs := [10]) (by kernel_rfl) (by simp) ?_
        refine AllReadyH.cons (o := { dst := some 6, op := Op.alloc 200, type := 0, pos := "read.go:49", after := #[], guard := none }) rfl (fun K hK => ?_) (AllReadyH.nil)
        go_simp
        refine hK.out _ _ (o2 (o2 (o2 (onlyA _ _) (onlyA _ _)) (onlyA _ _)) (Only.drew _ _)) (fun hHeld => ?_)
        clear hK K
        try simp only [Act.put, List.setIfInBounds_toArray, List.set_cons_zero, List.set_cons_succ]
        refine wpAnyH_ready (rs := [11]) (by kernel_rfl) (by simp) ?_
        refine AllReadyH.cons (o := { dst := none, op := Op.store 200 (Operand.tmp 6) (Operand.tmp 40), type := 0, pos := "read.go:49", after := #[{ on := 10, ground := Ground.data }, { on := 9, ground := Ground.data }, { on := 0, ground := Ground.phase }, { on := 1, ground := Ground.phase }, { on := 2, ground := Ground.phase }, { on := 3, ground := Ground.phase }, { on := 4, ground := Ground.phase }, { on := 5, ground := Ground.phase }, { on := 6, ground := Ground.phase }, { on := 7, ground := Ground.phase }, { on := 8, ground := Ground.phase }, { on := 9, ground := Ground.phase }, { on := 10, ground := Ground.phase }], guard := none }) rfl (fun K hK => ?_) (AllReadyH.nil)
        go_simp
        have HLc : Hid (Lc w (((w2.alloc O).alloc O2).alloc (.cells #[.slice (some ⟨w2.heap.size, 0, none⟩) 0 l.length, .slice (some ⟨w2.heap.size + 1, 0, none⟩) 0 l.length, .string hi.key, .int .i64 hi.page, .int .i64 hi.slot] 200)).drew a v r h ao l.length cp (w2.heap.size + 1 + 1) (.slice (some ⟨w2.heap.size, 0, none⟩) 0 l.length) (.slice (some ⟨w2.heap.size + 1, 0, none⟩) 0 l.length) hi [] []) := Lc.firstI HP2.out HC2.out HO2.out (o2 (o2 (o2 (onlyA _ _) (onlyA _ _)) (onlyA _ _)) (Only.drew _ _)) ((Cv.at ((w2.alloc O).alloc O2) _ (by simp) _ _ hi).more (Only.drew _ _)) ((HOWN.out w2 _ (by simp) (by have := HO2.out.size; simp; omega)).more (o2 (o2 (onlyA _ _) (onlyA _ _)) (Only.drew _ _))) ((HOWK.out (w2.alloc O) _ (by simp) (by have := HO2.out.size; simp; omega)).more (o2 (onlyA _ _) (Only.drew _ _))) (by omega)
        refine hK.out _ _ (o2 (o2 (o2 (onlyA _ _) (onlyA _ _)) (onlyA _ _)) (Only.drew _ _)) (fun hHeld => ?_)
        clear hK K
        try simp only [Act.put, List.setIfInBounds_toArray, List.set_cons_zero, List.set_cons_succ]
        refine wpAnyH_done (by kernel_rfl) ?_ _
        refine NoPanic.normal ?_
        go_wp2_with fail
        go_meet
        exact ⟨_, _, _, rfl, HLc⟩
      · go_simp
        refine hK.out _ _ (o2 (o2 (onlyA _ _) (onlyA _ _)) (Only.drew _ _)) (fun hHeld => ?_)
        clear hK K
        try simp only [Act.put, List.setIfInBounds_toArray, List.set_cons_zero, List.set_cons_succ]
        refine wpAnyH_ready (rs := [7]) (by kernel_rfl) (by simp) ?_
        refine AllReadyH.cons (o := { dst := some 38, op := Op.makeSlice 25 (Operand.const (Value.int IntKind.i64 0)) (Operand.tmp 37), type := 25, pos := "read.go:49", after := #[{ on := 6, ground := Ground.data }], guard := none }) rfl (fun K hK => ?_) (AllReadyH.nil)
        go_simp
        refine hK.out _ _ (o2 (o2 (o2 (onlyA _ _) (onlyA _ _)) (onlyA _ _)) (Only.drew _ _)) (fun hHeld => ?_)
        clear hK K
        try simp only [Act.put, List.setIfInBounds_toArray, List.set_cons_zero, List.set_cons_succ]
        refine wpAnyH_take (i := 9) (oi := { dst := some 40, op := Op.build 200 #[(0, Operand.tmp 34), (1, Operand.tmp 38), (2, Operand.tmp 39)], type := 200, pos := "read.go:49", after := #[{ on := 3, ground := Ground.data }, { on := 7, ground := Ground.data }, { on := 8, ground := Ground.data }], guard := none }) (v := .agg #[.slice (some ⟨w2.heap.size, 0, none⟩) 0 l.length, .slice (some ⟨w2.heap.size + 1 + 1, 0, none⟩) 0 l.length, .string hi.key, .int .i64 hi.page, .int .i64 hi.slot]) rfl (by kernel_rfl) (by kernel_rfl) (by kernel_rfl) (fun _ _ _ h => h) (Or.inl ⟨by rfl, fun w' hSw => by clear hSw; go_simp⟩) (by assumption) ?_
        simp only [Act.put, List.setIfInBounds_toArray, List.set_cons_zero, List.set_cons_succ]
        refine wpAnyH_ready (rs := [11]) (by kernel_rfl) (by simp) ?_
        refine AllReadyH.cons (o := { dst := none, op := Op.store 200 (Operand.tmp 6) (Operand.tmp 40), type := 0, pos := "read.go:49", after := #[{ on := 10, ground := Ground.data }, { on := 9, ground := Ground.data }, { on := 0, ground := Ground.phase }, { on := 1, ground := Ground.phase }, { on := 2, ground := Ground.phase }, { on := 3, ground := Ground.phase }, { on := 4, ground := Ground.phase }, { on := 5, ground := Ground.phase }, { on := 6, ground := Ground.phase }, { on := 7, ground := Ground.phase }, { on := 8, ground := Ground.phase }, { on := 9, ground := Ground.phase }, { on := 10, ground := Ground.phase }], guard := none }) rfl (fun K hK => ?_) (AllReadyH.nil)
        go_simp
        have HLc : Hid (Lc w (((w2.alloc O).alloc (.cells #[.slice (some ⟨w2.heap.size, 0, none⟩) 0 l.length, .slice (some ⟨w2.heap.size + 1 + 1, 0, none⟩) 0 l.length, .string hi.key, .int .i64 hi.page, .int .i64 hi.slot] 200)).alloc O2).drew a v r h ao l.length cp (w2.heap.size + 1) (.slice (some ⟨w2.heap.size, 0, none⟩) 0 l.length) (.slice (some ⟨w2.heap.size + 1 + 1, 0, none⟩) 0 l.length) hi [] []) := Lc.firstI HP2.out HC2.out HO2.out (o2 (o2 (o2 (onlyA _ _) (onlyA _ _)) (onlyA _ _)) (Only.drew _ _)) ((Cv.at (w2.alloc O) _ (by simp) _ _ hi).more (o2 (onlyA _ _) (Only.drew _ _))) ((HOWN.out w2 _ (by simp) (by have := HO2.out.size; simp; omega)).more (o2 (o2 (onlyA _ _) (onlyA _ _)) (Only.drew _ _))) ((HOWK.out ((w2.alloc O).alloc (.cells #[.slice (some ⟨w2.heap.size, 0, none⟩) 0 l.length, .slice (some ⟨w2.heap.size + 1 + 1, 0, none⟩) 0 l.length, .string hi.key, .int .i64 hi.page, .int .i64 hi.slot] 200)) _ (by simp) (by have := HO2.out.size; simp; omega)).more (Only.drew _ _)) (by omega)
        refine hK.out _ _ (o2 (o2 (o2 (onlyA _ _) (onlyA _ _)) (onlyA _ _)) (Only.drew _ _)) (fun hHeld => ?_)
        clear hK K
        try simp only [Act.put, List.setIfInBounds_toArray, List.set_cons_zero, List.set_cons_succ]
        refine wpAnyH_done (by kernel_rfl) ?_ _
        refine NoPanic.normal ?_
        go_wp2_with fail
        go_meet
        exact ⟨_, _, _, rfl, HLc⟩
    · go_simp
      refine hK.out _ _ (o2 (onlyA _ _) (Only.drew _ _)) (fun hHeld => ?_)
      clear hK K
      try simp only [Act.put, List.setIfInBounds_toArray, List.set_cons_zero, List.set_cons_succ]
      refine wpAnyH_ready (rs := [3, 10]) (by kernel_rfl) (by simp) ?_
      refine AllReadyH.cons (o := { dst := some 34, op := Op.makeSlice 37 (Operand.const (Value.int IntKind.i64 0)) (Operand.tmp 33), type := 37, pos := "read.go:49", after := #[{ on := 2, ground := Ground.data }], guard := none }) rfl (fun K hK => ?_) (AllReadyH.cons (o := { dst := some 6, op := Op.alloc 200, type := 0, pos := "read.go:49", after := #[], guard := none }) rfl (fun K hK => ?_) (AllReadyH.nil))
      · go_simp
        refine hK.out _ _ (o2 (o2 (onlyA _ _) (onlyA _ _)) (Only.drew _ _)) (fun hHeld => ?_)
        clear hK K
        try simp only [Act.put, List.setIfInBounds_toArray, List.set_cons_zero, List.set_cons_succ]
        refine wpAnyH_take (i := 9) (oi := { dst := some 40, op := Op.build 200 #[(0, Operand.tmp 34), (1, Operand.tmp 38), (2, Operand.tmp 39)], type := 200, pos := "read.go:49", after := #[{ on := 3, ground := Ground.data }, { on := 7, ground := Ground.data }, { on := 8, ground := Ground.data }], guard := none }) (v := .agg #[.slice (some ⟨w2.heap.size + 1, 0, none⟩) 0 l.length, .slice (some ⟨w2.heap.size, 0, none⟩) 0 l.length, .string hi.key, .int .i64 hi.page, .int .i64 hi.slot]) rfl (by kernel_rfl) (by kernel_rfl) (by kernel_rfl) (fun _ _ _ h => h) (Or.inl ⟨by rfl, fun w' hSw => by clear hSw; go_simp⟩) (by assumption) ?_
        simp only [Act.put, List.setIfInBounds_toArray, List.set_cons_zero, List.set_cons_succ]
        refine wpAnyH_ready (rs := [10]) (by kernel_rfl) (by simp) ?_
        refine AllReadyH.cons (o := { dst := some 6, op := Op.alloc 200, type := 0, pos := "read.go:49", after := #[], guard := none }) rfl (fun K hK => ?_) (AllReadyH.nil)
        go_simp
        refine hK.out _ _ (o2 (o2 (o2 (onlyA _ _) (onlyA _ _)) (onlyA _ _)) (Only.drew _ _)) (fun hHeld => ?_)
        clear hK K
        try simp only [Act.put, List.setIfInBounds_toArray, List.set_cons_zero, List.set_cons_succ]
        refine wpAnyH_ready (rs := [11]) (by kernel_rfl) (by simp) ?_
        refine AllReadyH.cons (o := { dst := none, op := Op.store 200 (Operand.tmp 6) (Operand.tmp 40), type := 0, pos := "read.go:49", after := #[{ on := 10, ground := Ground.data }, { on := 9, ground := Ground.data }, { on := 0, ground := Ground.phase }, { on := 1, ground := Ground.phase }, { on := 2, ground := Ground.phase }, { on := 3, ground := Ground.phase }, { on := 4, ground := Ground.phase }, { on := 5, ground := Ground.phase }, { on := 6, ground := Ground.phase }, { on := 7, ground := Ground.phase }, { on := 8, ground := Ground.phase }, { on := 9, ground := Ground.phase }, { on := 10, ground := Ground.phase }], guard := none }) rfl (fun K hK => ?_) (AllReadyH.nil)
        go_simp
        have HLc : Hid (Lc w (((w2.alloc O2).alloc O).alloc (.cells #[.slice (some ⟨w2.heap.size + 1, 0, none⟩) 0 l.length, .slice (some ⟨w2.heap.size, 0, none⟩) 0 l.length, .string hi.key, .int .i64 hi.page, .int .i64 hi.slot] 200)).drew a v r h ao l.length cp (w2.heap.size + 1 + 1) (.slice (some ⟨w2.heap.size + 1, 0, none⟩) 0 l.length) (.slice (some ⟨w2.heap.size, 0, none⟩) 0 l.length) hi [] []) := Lc.firstI HP2.out HC2.out HO2.out (o2 (o2 (o2 (onlyA _ _) (onlyA _ _)) (onlyA _ _)) (Only.drew _ _)) ((Cv.at ((w2.alloc O2).alloc O) _ (by simp) _ _ hi).more (Only.drew _ _)) ((HOWN.out (w2.alloc O2) _ (by simp) (by have := HO2.out.size; simp; omega)).more (o2 (onlyA _ _) (Only.drew _ _))) ((HOWK.out w2 _ (by simp) (by have := HO2.out.size; simp; omega)).more (o2 (o2 (onlyA _ _) (onlyA _ _)) (Only.drew _ _))) (by omega)
        refine hK.out _ _ (o2 (o2 (o2 (onlyA _ _) (onlyA _ _)) (onlyA _ _)) (Only.drew _ _)) (fun hHeld => ?_)
        clear hK K
        try simp only [Act.put, List.setIfInBounds_toArray, List.set_cons_zero, List.set_cons_succ]
        refine wpAnyH_done (by kernel_rfl) ?_ _
        refine NoPanic.normal ?_
        go_wp2_with fail
        go_meet
        exact ⟨_, _, _, rfl, HLc⟩
      · go_simp
        refine hK.out _ _ (o2 (o2 (onlyA _ _) (onlyA _ _)) (Only.drew _ _)) (fun hHeld => ?_)
        clear hK K
        try simp only [Act.put, List.setIfInBounds_toArray, List.set_cons_zero, List.set_cons_succ]
        refine wpAnyH_ready (rs := [3]) (by kernel_rfl) (by simp) ?_
        refine AllReadyH.cons (o := { dst := some 34, op := Op.makeSlice 37 (Operand.const (Value.int IntKind.i64 0)) (Operand.tmp 33), type := 37, pos := "read.go:49", after := #[{ on := 2, ground := Ground.data }], guard := none }) rfl (fun K hK => ?_) (AllReadyH.nil)
        go_simp
        refine hK.out _ _ (o2 (o2 (o2 (onlyA _ _) (onlyA _ _)) (onlyA _ _)) (Only.drew _ _)) (fun hHeld => ?_)
        clear hK K
        try simp only [Act.put, List.setIfInBounds_toArray, List.set_cons_zero, List.set_cons_succ]
        refine wpAnyH_take (i := 9) (oi := { dst := some 40, op := Op.build 200 #[(0, Operand.tmp 34), (1, Operand.tmp 38), (2, Operand.tmp 39)], type := 200, pos := "read.go:49", after := #[{ on := 3, ground := Ground.data }, { on := 7, ground := Ground.data }, { on := 8, ground := Ground.data }], guard := none }) (v := .agg #[.slice (some ⟨w2.heap.size + 1 + 1, 0, none⟩) 0 l.length, .slice (some ⟨w2.heap.size, 0, none⟩) 0 l.length, .string hi.key, .int .i64 hi.page, .int .i64 hi.slot]) rfl (by kernel_rfl) (by kernel_rfl) (by kernel_rfl) (fun _ _ _ h => h) (Or.inl ⟨by rfl, fun w' hSw => by clear hSw; go_simp⟩) (by assumption) ?_
        simp only [Act.put, List.setIfInBounds_toArray, List.set_cons_zero, List.set_cons_succ]
        refine wpAnyH_ready (rs := [11]) (by kernel_rfl) (by simp) ?_
        refine AllReadyH.cons (o := { dst := none, op := Op.store 200 (Operand.tmp 6) (Operand.tmp 40), type := 0, pos := "read.go:49", after := #[{ on := 10, ground := Ground.data }, { on := 9, ground := Ground.data }, { on := 0, ground := Ground.phase }, { on := 1, ground := Ground.phase }, { on := 2, ground := Ground.phase }, { on := 3, ground := Ground.phase }, { on := 4, ground := Ground.phase }, { on := 5, ground := Ground.phase }, { on := 6, ground := Ground.phase }, { on := 7, ground := Ground.phase }, { on := 8, ground := Ground.phase }, { on := 9, ground := Ground.phase }, { on := 10, ground := Ground.phase }], guard := none }) rfl (fun K hK => ?_) (AllReadyH.nil)
        go_simp
        have HLc : Hid (Lc w (((w2.alloc O2).alloc (.cells #[.slice (some ⟨w2.heap.size + 1 + 1, 0, none⟩) 0 l.length, .slice (some ⟨w2.heap.size, 0, none⟩) 0 l.length, .string hi.key, .int .i64 hi.page, .int .i64 hi.slot] 200)).alloc O).drew a v r h ao l.length cp (w2.heap.size + 1) (.slice (some ⟨w2.heap.size + 1 + 1, 0, none⟩) 0 l.length) (.slice (some ⟨w2.heap.size, 0, none⟩) 0 l.length) hi [] []) := Lc.firstI HP2.out HC2.out HO2.out (o2 (o2 (o2 (onlyA _ _) (onlyA _ _)) (onlyA _ _)) (Only.drew _ _)) ((Cv.at (w2.alloc O2) _ (by simp) _ _ hi).more (o2 (onlyA _ _) (Only.drew _ _))) ((HOWN.out ((w2.alloc O2).alloc (.cells #[.slice (some ⟨w2.heap.size + 1 + 1, 0, none⟩) 0 l.length, .slice (some ⟨w2.heap.size, 0, none⟩) 0 l.length, .string hi.key, .int .i64 hi.page, .int .i64 hi.slot] 200)) _ (by simp) (by have := HO2.out.size; simp; omega)).more (Only.drew _ _)) ((HOWK.out w2 _ (by simp) (by have := HO2.out.size; simp; omega)).more (o2 (o2 (onlyA _ _) (onlyA _ _)) (Only.drew _ _))) (by omega)
        refine hK.out _ _ (o2 (o2 (o2 (onlyA _ _) (onlyA _ _)) (onlyA _ _)) (Only.drew _ _)) (fun hHeld => ?_)
        clear hK K
        try simp only [Act.put, List.setIfInBounds_toArray, List.set_cons_zero, List.set_cons_succ]
        refine wpAnyH_done (by kernel_rfl) ?_ _
        refine NoPanic.normal ?_
        go_wp2_with fail
        go_meet
        exact ⟨_, _, _, rfl, HLc⟩
    · go_simp
      refine hK.out _ _ (o2 (onlyA _ _) (Only.drew _ _)) (fun hHeld => ?_)
      clear hK K
      try simp only [Act.put, List.setIfInBounds_toArray, List.set_cons_zero, List.set_cons_succ]
      refine wpAnyH_ready (rs := [3, 7]) (by kernel_rfl) (by simp) ?_
      refine AllReadyH.cons (o := { dst := some 34, op := Op.makeSlice 37 (Operand.const (Value.int IntKind.i64 0)) (Operand.tmp 33), type := 37, pos := "read.go:49", after := #[{ on := 2, ground := Ground.data }], guard := none }) rfl (fun K hK => ?_) (AllReadyH.cons (o := { dst := some 38, op := Op.makeSlice 25 (Operand.const (Value.int IntKind.i64 0)) (Operand.tmp 37), type := 25, pos := "read.go:49", after := #[{ on := 6, ground := Ground.data }], guard := none }) rfl (fun K hK => ?_) (AllReadyH.nil))
      · go_simp
        refine hK.out _ _ (o2 (o2 (onlyA _ _) (onlyA _ _)) (Only.drew _ _)) (fun hHeld => ?_)
        clear hK K
        try simp only [Act.put, List.setIfInBounds_toArray, List.set_cons_zero, List.set_cons_succ]
        refine wpAnyH_ready (rs := [7]) (by kernel_rfl) (by simp) ?_
        refine AllReadyH.cons (o := { dst := some 38, op := Op.makeSlice 25 (Operand.const (Value.int IntKind.i64 0)) (Operand.tmp 37), type := 25, pos := "read.go:49", after := #[{ on := 6, ground := Ground.data }], guard := none }) rfl (fun K hK => ?_) (AllReadyH.nil)
        go_simp
        refine hK.out _ _ (o2 (o2 (o2 (onlyA _ _) (onlyA _ _)) (onlyA _ _)) (Only.drew _ _)) (fun hHeld => ?_)
        clear hK K
        try simp only [Act.put, List.setIfInBounds_toArray, List.set_cons_zero, List.set_cons_succ]
        refine wpAnyH_take (i := 9) (oi := { dst := some 40, op := Op.build 200 #[(0, Operand.tmp 34), (1, Operand.tmp 38), (2, Operand.tmp 39)], type := 200, pos := "read.go:49", after := #[{ on := 3, ground := Ground.data }, { on := 7, ground := Ground.data }, { on := 8, ground := Ground.data }], guard := none }) (v := .agg #[.slice (some ⟨w2.heap.size + 1, 0, none⟩) 0 l.length, .slice (some ⟨w2.heap.size + 1 + 1, 0, none⟩) 0 l.length, .string hi.key, .int .i64 hi.page, .int .i64 hi.slot]) rfl (by kernel_rfl) (by kernel_rfl) (by kernel_rfl) (fun _ _ _ h => h) (Or.inl ⟨by rfl, fun w' hSw => by clear hSw; go_simp⟩) (by assumption) ?_
        simp only [Act.put, List.setIfInBounds_toArray, List.set_cons_zero, List.set_cons_succ]
        refine wpAnyH_ready (rs := [11]) (by kernel_rfl) (by simp) ?_
        refine AllReadyH.cons (o := { dst := none, op := Op.store 200 (Operand.tmp 6) (Operand.tmp 40), type := 0, pos := "read.go:49", after := #[{ on := 10, ground := Ground.data }, { on := 9, ground := Ground.data }, { on := 0, ground := Ground.phase }, { on := 1, ground := Ground.phase }, { on := 2, ground := Ground.phase }, { on := 3, ground := Ground.phase }, { on := 4, ground := Ground.phase }, { on := 5, ground := Ground.phase }, { on := 6, ground := Ground.phase }, { on := 7, ground := Ground.phase }, { on := 8, ground := Ground.phase }, { on := 9, ground := Ground.phase }, { on := 10, ground := Ground.phase }], guard := none }) rfl (fun K hK => ?_) (AllReadyH.nil)
        go_simp
        have HLc : Hid (Lc w (((w2.alloc (.cells #[.slice (some ⟨w2.heap.size + 1, 0, none⟩) 0 l.length, .slice (some ⟨w2.heap.size + 1 + 1, 0, none⟩) 0 l.length, .string hi.key, .int .i64 hi.page, .int .i64 hi.slot] 200)).alloc O).alloc O2).drew a v r h ao l.length cp (w2.heap.size) (.slice (some ⟨w2.heap.size + 1, 0, none⟩) 0 l.length) (.slice (some ⟨w2.heap.size + 1 + 1, 0, none⟩) 0 l.length) hi [] []) := Lc.firstI HP2.out HC2.out HO2.out (o2 (o2 (o2 (onlyA _ _) (onlyA _ _)) (onlyA _ _)) (Only.drew _ _)) ((Cv.at w2 _ (by simp) _ _ hi).more (o2 (o2 (onlyA _ _) (onlyA _ _)) (Only.drew _ _))) ((HOWN.out (w2.alloc (.cells #[.slice (some ⟨w2.heap.size + 1, 0, none⟩) 0 l.length, .slice (some ⟨w2.heap.size + 1 + 1, 0, none⟩) 0 l.length, .string hi.key, .int .i64 hi.page, .int .i64 hi.slot] 200)) _ (by simp) (by have := HO2.out.size; simp; omega)).more (o2 (onlyA _ _) (Only.drew _ _))) ((HOWK.out ((w2.alloc (.cells #[.slice (some ⟨w2.heap.size + 1, 0, none⟩) 0 l.length, .slice (some ⟨w2.heap.size + 1 + 1, 0, none⟩) 0 l.length, .string hi.key, .int .i64 hi.page, .int .i64 hi.slot] 200)).alloc O) _ (by simp) (by have := HO2.out.size; simp; omega)).more (Only.drew _ _)) (by omega)
        refine hK.out _ _ (o2 (o2 (o2 (onlyA _ _) (onlyA _ _)) (onlyA _ _)) (Only.drew _ _)) (fun hHeld => ?_)
        clear hK K
        try simp only [Act.put, List.setIfInBounds_toArray, List.set_cons_zero, List.set_cons_succ]
        refine wpAnyH_done (by kernel_rfl) ?_ _
        refine NoPanic.normal ?_
        go_wp2_with fail
        go_meet
        exact ⟨_, _, _, rfl, HLc⟩
      · go_simp
        refine hK.out _ _ (o2 (o2 (onlyA _ _) (onlyA _ _)) (Only.drew _ _)) (fun hHeld => ?_)
        clear hK K
        try simp only [Act.put, List.setIfInBounds_toArray, List.set_cons_zero, List.set_cons_succ]
        refine wpAnyH_ready (rs := [3]) (by kernel_rfl) (by simp) ?_
        refine AllReadyH.cons (o := { dst := some 34, op := Op.makeSlice 37 (Operand.const (Value.int IntKind.i64 0)) (Operand.tmp 33), type := 37, pos := "read.go:49", after := #[{ on := 2, ground := Ground.data }], guard := none }) rfl (fun K hK => ?_) (AllReadyH.nil)
        go_simp
        refine hK.out _ _ (o2 (o2 (o2 (onlyA _ _) (onlyA _ _)) (onlyA _ _)) (Only.drew _ _)) (fun hHeld => ?_)
        clear hK K
        try simp only [Act.put, List.setIfInBounds_toArray, List.set_cons_zero, List.set_cons_succ]
        refine wpAnyH_take (i := 9) (oi := { dst := some 40, op := Op.build 200 #[(0, Operand.tmp 34), (1, Operand.tmp 38), (2, Operand.tmp 39)], type := 200, pos := "read.go:49", after := #[{ on := 3, ground := Ground.data }, { on := 7, ground := Ground.data }, { on := 8, ground := Ground.data }], guard := none }) (v := .agg #[.slice (some ⟨w2.heap.size + 1 + 1, 0, none⟩) 0 l.length, .slice (some ⟨w2.heap.size + 1, 0, none⟩) 0 l.length, .string hi.key, .int .i64 hi.page, .int .i64 hi.slot]) rfl (by kernel_rfl) (by kernel_rfl) (by kernel_rfl) (fun _ _ _ h => h) (Or.inl ⟨by rfl, fun w' hSw => by clear hSw; go_simp⟩) (by assumption) ?_
        simp only [Act.put, List.setIfInBounds_toArray, List.set_cons_zero, List.set_cons_succ]
        refine wpAnyH_ready (rs := [11]) (by kernel_rfl) (by simp) ?_
        refine AllReadyH.cons (o := { dst := none, op := Op.store 200 (Operand.tmp 6) (Operand.tmp 40), type := 0, pos := "read.go:49", after := #[{ on := 10, ground := Ground.data }, { on := 9, ground := Ground.data }, { on := 0, ground := Ground.phase }, { on := 1, ground := Ground.phase }, { on := 2, ground := Ground.phase }, { on := 3, ground := Ground.phase }, { on := 4, ground := Ground.phase }, { on := 5, ground := Ground.phase }, { on := 6, ground := Ground.phase }, { on := 7, ground := Ground.phase }, { on := 8, ground := Ground.phase }, { on := 9, ground := Ground.phase }, { on := 10, ground := Ground.phase }], guard := none }) rfl (fun K hK => ?_) (AllReadyH.nil)
        go_simp
        have HLc : Hid (Lc w (((w2.alloc (.cells #[.slice (some ⟨w2.heap.size + 1 + 1, 0, none⟩) 0 l.length, .slice (some ⟨w2.heap.size + 1, 0, none⟩) 0 l.length, .string hi.key, .int .i64 hi.page, .int .i64 hi.slot] 200)).alloc O2).alloc O).drew a v r h ao l.length cp (w2.heap.size) (.slice (some ⟨w2.heap.size + 1 + 1, 0, none⟩) 0 l.length) (.slice (some ⟨w2.heap.size + 1, 0, none⟩) 0 l.length) hi [] []) := Lc.firstI HP2.out HC2.out HO2.out (o2 (o2 (o2 (onlyA _ _) (onlyA _ _)) (onlyA _ _)) (Only.drew _ _)) ((Cv.at w2 _ (by simp) _ _ hi).more (o2 (o2 (onlyA _ _) (onlyA _ _)) (Only.drew _ _))) ((HOWN.out ((w2.alloc (.cells #[.slice (some ⟨w2.heap.size + 1 + 1, 0, none⟩) 0 l.length, .slice (some ⟨w2.heap.size + 1, 0, none⟩) 0 l.length, .string hi.key, .int .i64 hi.page, .int .i64 hi.slot] 200)).alloc O2) _ (by simp) (by have := HO2.out.size; simp; omega)).more (Only.drew _ _)) ((HOWK.out (w2.alloc (.cells #[.slice (some ⟨w2.heap.size + 1 + 1, 0, none⟩) 0 l.length, .slice (some ⟨w2.heap.size + 1, 0, none⟩) 0 l.length, .string hi.key, .int .i64 hi.page, .int .i64 hi.slot] 200)) _ (by simp) (by have := HO2.out.size; simp; omega)).more (o2 (onlyA _ _) (Only.drew _ _))) (by omega)
        refine hK.out _ _ (o2 (o2 (o2 (onlyA _ _) (onlyA _ _)) (onlyA _ _)) (Only.drew _ _)) (fun hHeld => ?_)
        clear hK K
        try simp only [Act.put, List.setIfInBounds_toArray, List.set_cons_zero, List.set_cons_succ]
        refine wpAnyH_done (by kernel_rfl) ?_ _
        refine NoPanic.normal ?_
        go_wp2_with fail
        go_meet
        exact ⟨_, _, _, rfl, HLc⟩
    -- r4}
  case rest =>
    obtain ⟨c, g, q, rfl, HL0⟩ := hcut
    clear HP2 HC2 HV2 HO2
    have p5 := HL0.out.pag.c5
    go_upto_region 6 with fail
    clear p5
    go_loopw [44] (fun i wr => ∃ (j : Nat) (es : List En) (ks : List Int), j ≤ l.length ∧ i = .int .i64 (j : Int) ∧ es.length = j ∧ ks.length = j ∧ Hid (Lc w wr a v r h ao l.length cp c (.slice (some ⟨g, 0, none⟩) j l.length) (.slice (some ⟨q, 0, none⟩) j l.length) hi es ks) ∧ Hid (rdI hi none l = (rdI hi es.getLast? (l.drop j)).map (fun t => es.zip ks ++ t))) (fun i _ => l.length - (intOf i).toNat)
    case atStart => exact ⟨0, [], [], Nat.zero_le _, rfl, rfl, rfl, HL0, hide (by simp)⟩
    case round =>
      clear HL0
      obtain ⟨j, es, ks, hj, rfl, hel, hkl, HLj, HRD⟩ := hrel
      by_cases hlt : j < l.length
      · obtain ⟨o, rfl, hc⟩ := (HS.out.more HLj.out.only).at_ (by omega)
        have ck := hc j hlt
        have hlk : (j : Int) < (l.length : Int) := by omega
        rw [List.drop_eq_getElem_cons hlt] at HRD
        obtain ⟨s, hs⟩ : ∃ s, l[j] = s := ⟨_, rfl⟩
        rw [hs] at ck HRD
        clear hc hs
        cases hd : decS (bl s) with
        | none =>
          have HDC : Hid (∀ W, Calls Tryz.prog 122 #[.string s] W fun e w' => e = .returned (.tuple #[.agg #[.string ⟨#[]⟩, .int .i64 0, .int .i64 0], .int .i64 0, .int .i64 140]) ∧ Only (fun _ => False) W w') := fun W => by
            have := unsep_any s W
            rw [hd] at this
            exact this
          have HF : Hid (rdI hi none l = none) := by
            unfold Hid
            rw [HRD.out, rdI, hd]
            rfl
          clear hd HRD
          go_wp2_with fail
          refine (HDC.out _).mono ?_
          rintro x w2 ⟨rfl, ho⟩
          have HL4 := hide (HLj.out.more ho)
          clear ho ck HLj HDC
          go_upto_region 9 with fail
          have HA := hide (onlyA w2 (.cells #[.string ⟨#[]⟩, .int .i64 0, .int .i64 0] 74))
          obtain ⟨xb, hxb⟩ : ∃ b, w2.heap.size = b := ⟨_, rfl⟩
          rw [hxb]
          clear hxb
          obtain ⟨W4, hW4⟩ : ∃ x, w2.alloc (.cells #[.string ⟨#[]⟩, .int .i64 0, .int .i64 0] 74) = x := ⟨_, rfl⟩
          rw [hW4] at HA ⊢
          clear hW4
          have HL5 := hide (HL4.out.more HA.out)
          clear HA HL4
          obtain ⟨r0, r1, r2, r3, r4, f0, f1, f2, f3, f4, _⟩ := HL5.out.res
          go_wp2_with fail
          refine bodyPost_ret (results_cv rfl rfl (HL5.out.res.all _ _ noE)) rfl ?_
          have hfive := Only.five W4 (w.heap.size + 1) (.slice none 0 0) (.slice none 0 0) (.string ⟨#[]⟩) (.int .i64 0) (.int .i64 0)
          rw [HF.out]
          exact ⟨⟨_, _, _, _, _, _, _, rfl⟩, HL5.out.only.trans hfive (fun i hi e => by omega)⟩
        | some kk =>
          obtain ⟨e, kd⟩ := kk
          have HDC : Hid (∀ W, Calls Tryz.prog 122 #[.string s] W fun x w' => x = .returned (.tuple #[.agg #[.string e.key, .int .i64 e.page, .int .i64 e.slot], .int .i64 kd, .int .i64 0]) ∧ Only (fun _ => False) W w') := fun W => by
            have := unsep_any s W
            rw [hd] at this
            exact this
          have HFO : Hid (∀ W, Ets W w.heap.size (.slice (some ⟨g, 0, none⟩) j l.length) es → Calls Tryz.prog 197 #[.agg #[(.slice (some ⟨g, 0, none⟩) j l.length), (.slice (some ⟨q, 0, none⟩) j l.length), .string hi.key, .int .i64 hi.page, .int .i64 hi.slot], .agg #[.string e.key, .int .i64 e.page, .int .i64 e.slot]] W fun x w' => x = .returned (.bool (okI hi es.getLast? e)) ∧ Only (fun _ => False) W w') := fun W hE => follows_any W w.heap.size l.length j l.length (some ⟨g, 0, none⟩) (some ⟨q, 0, none⟩) hi e es j hel (by have := HLL.out; omega) hE
          have HRE : Hid (rdI hi none l = (if okI hi es.getLast? e = true then (rdI hi (some e) (l.drop (j + 1))).map (fun ks => (e, kd) :: ks) else none).map (fun t => es.zip ks ++ t)) := by
            unfold Hid
            rw [HRD.out, rdI, hd]
          obtain ⟨ok, hok⟩ : ∃ b, okI hi es.getLast? e = b := ⟨_, rfl⟩
          rw [hok] at HFO HRE
          clear hok hd HRD
          go_wp2_with fail
          refine (HDC.out _).mono ?_
          rintro x w2 ⟨rfl, ho⟩
          have HL4 := hide (HLj.out.more ho)
          clear ho ck HLj HDC
          go_upto_region 9 with fail
          have HA := hide (onlyA w2 (.cells #[.string e.key, .int .i64 e.page, .int .i64 e.slot] 74))
          have HE4 := hide (Ev.new w2 e)
          obtain ⟨xb, hxb⟩ : ∃ b, w2.heap.size = b := ⟨_, rfl⟩
          rw [hxb] at HE4 ⊢
          clear hxb
          obtain ⟨W4, hW4⟩ : ∃ x, w2.alloc (.cells #[.string e.key, .int .i64 e.page, .int .i64 e.slot] 74) = x := ⟨_, rfl⟩
          rw [hW4] at HA HE4 ⊢
          clear hW4
          have HL5 := hide (HL4.out.more HA.out)
          clear HA HL4
          obtain ⟨d0, d1, d2, _⟩ := HE4.out
          obtain ⟨q0, q1, q2, q3, q4, _⟩ := HL5.out.con
          go_wp2_with fail
          refine (HFO.out _ HL5.out.ets).mono ?_
          rintro x W6 ⟨rfl, ho⟩
          have HL7 := hide (HL5.out.more ho)
          have HE7 := hide (HE4.out.more ho)
          clear ho d0 d1 d2 q0 q1 q2 q3 q4 HL5 HE4 HFO
          cases ok with
          | false =>
            have HF : Hid (rdI hi none l = none) := by
              unfold Hid
              rw [HRE.out]
              rfl
            clear HRE
            obtain ⟨r0, r1, r2, r3, r4, f0, f1, f2, f3, f4, _⟩ := HL7.out.res
            go_wp2_with fail
            refine bodyPost_ret (results_cv rfl rfl (HL7.out.res.all _ _ noE)) rfl ?_
            have hfive := Only.five W6 (w.heap.size + 1) (.slice none 0 0) (.slice none 0 0) (.string ⟨#[]⟩) (.int .i64 0) (.int .i64 0)
            rw [HF.out]
            exact ⟨⟨_, _, _, _, _, _, _, rfl⟩, HL7.out.only.trans hfive (fun i hi e => by omega)⟩
          | true =>
            have HRN : Hid (rdI hi none l = (rdI hi (es ++ [e]).getLast? (l.drop (j + 1))).map (fun t => (es ++ [e]).zip (ks ++ [kd]) ++ t)) := by
              unfold Hid
              rw [HRE.out, if_pos rfl, Option.map_map, List.getLast?_concat, List.zip_append (by omega)]
              congr 1
              funext t
              simp
            clear HRE
            have HN7 := hide (onlyA W6 (.cells #[.string e.key, .int .i64 e.page, .int .i64 e.slot] 74))
            have HEA := (HL7.out.ets.more HN7.out)
            obtain ⟨W8, hr8, he8, ho8⟩ := ets_room _ w.heap.size g j l.length es HEA hel (by omega) e W6.heap.size 0 (Ev.new W6 e).eb
            have HR8 := hide hr8
            have HL8 : Hid (Lc w (W8.setCell ⟨c, 0, none⟩ (.slice (some ⟨g, 0, none⟩) (j + 1) l.length)) a v r h (some ⟨B, o, none⟩) l.length cp c (.slice (some ⟨g, 0, none⟩) (j + 1) l.length) (.slice (some ⟨q, 0, none⟩) j l.length) hi (es ++ [e]) ks) := (HL7.out.more HN7.out).app he8 ho8 (.inl rfl)
            have hcn : ¬ (Value.slice (some ⟨g, 0, none⟩) j l.length).ownBlock = some c := fun k => (HL7.out.dis c k).2.1 rfl
            have hcx := (HL7.out.con.more HN7.out).kept ho8 hcn
            obtain ⟨d0, d1, d2, _⟩ := HE7.out
            have q0 := HL7.out.con.c0
            have u0 := hcx.c0
            have uf := hcx.f0
            clear hr8 he8 ho8 hcn hcx HEA HN7
            go_upto_region 12 with (at_builtin; go_must (refine Lib.wpList_append_run _ rfl _ _ _ _ rfl _ _ rfl rfl _ _ HR8.out ?_))
            obtain ⟨W9, hW9⟩ : ∃ x, W8.setCell ⟨c, 0, none⟩ (.slice (some ⟨g, 0, none⟩) (j + 1) l.length) = x := ⟨_, rfl⟩
            rw [hW9] at HL8 ⊢
            clear hW9 d0 d1 d2 q0 u0 uf HL7 HE7 HR8
            have HN9 := hide (onlyA W9 (.cells #[.int .i64 kd] 3))
            have HKA := (HL8.out.kts.more HN9.out)
            obtain ⟨W10, hr10, he10, ho10⟩ := kts_room _ w.heap.size q j l.length ks HKA hkl (by omega) kd W9.heap.size (by simp)
            have HR10 := hide hr10
            have HL10 : Hid (Lc w (W10.setCell ⟨c, 1, none⟩ (.slice (some ⟨q, 0, none⟩) (j + 1) l.length)) a v r h (some ⟨B, o, none⟩) l.length cp c (.slice (some ⟨g, 0, none⟩) (j + 1) l.length) (.slice (some ⟨q, 0, none⟩) (j + 1) l.length) hi (es ++ [e]) (ks ++ [kd])) := (HL8.out.more HN9.out).appk he10 ho10 (.inl rfl)
            have hcn : ¬ (Value.slice (some ⟨q, 0, none⟩) j l.length).ownBlock = some c := fun k => (HL8.out.diy c k).2.1 rfl
            have hcx := (HL8.out.con.more HN9.out).kept ho10 hcn
            have q1 := HL8.out.con.c1
            have u1 := hcx.c1
            have uf := hcx.f1
            clear hr10 he10 ho10 hcn hcx HKA HN9 HL8
            go_wp2_with (at_builtin; go_must (refine Lib.wpList_append_run _ rfl _ _ _ _ rfl _ _ rfl rfl _ _ HR10.out ?_))
            clear q1 u1 uf HR10
            go_roundw
            case rel => exact ⟨j + 1, es ++ [e], ks ++ [kd], by omega, by go_num, by rw [List.length_append, hel]; rfl, by rw [List.length_append, hkl]; rfl, HL10, HRN⟩
            case measure => simp [intOf]; omega
      · have hlk : ¬ (j : Int) < (l.length : Int) := by omega
        have HF : Hid (rdI hi none l = some (es.zip ks)) := by
          unfold Hid
          rw [HRD.out, List.drop_of_length_le (by omega), rdI]
          simp
        clear HRD
        obtain ⟨q0, q1, q2, q3, q4, _⟩ := HLj.out.con
        obtain ⟨r0, r1, r2, r3, r4, f0, f1, f2, f3, f4, _⟩ := HLj.out.res
        go_wp2_with fail
        refine bodyPost_ret (results_cv rfl rfl (HLj.out.res.all _ _ hi)) rfl ?_
        have hfive := Only.five wr (w.heap.size + 1) (.slice (some ⟨g, 0, none⟩) j l.length) (.slice (some ⟨q, 0, none⟩) j l.length) (.string hi.key) (.int .i64 hi.page) (.int .i64 hi.slot)
        have hz1 : (es.zip ks).map Prod.fst = es := List.map_fst_zip (by omega)
        have hz2 : (es.zip ks).map Prod.snd = ks := List.map_snd_zip (by omega)
        have hz3 : (es.zip ks).length = j := by rw [List.length_zip]; omega
        rw [HF.out]
        show InR _ _ _ _ _
        unfold InR
        rw [hz1, hz2, hz3]
        exact ⟨_, _, _, _, rfl, HLj.out.ets.kept hfive (fun k hk => by have := (HLj.out.dis k hk).1; omega), HLj.out.kts.kept hfive (fun k hk => by have := (HLj.out.diy k hk).1; omega), HLj.out.only.trans hfive (fun i hi e => by omega)⟩
end Go.Proofs.YtpnbhddmdfcjdaaGreat
