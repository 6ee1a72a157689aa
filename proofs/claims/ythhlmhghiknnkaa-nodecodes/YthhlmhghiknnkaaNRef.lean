/- What the document's Encode, Sep, Decode, Unsep, Compare of nodes do. -/
import Derived.Test.YthhlmhghiknnkaaNLawR
import Derived.Test.YthhlmhghiknnkaaURdD
import Derived.Test.YthhlmhghiknnkaaCNum
namespace Go.Proofs.Ythhlmhghiknnkaa
open Go.RowKit

theorem str_catN (a b : List UInt8) : str a ++ str b = str (a ++ b) := cat_eqU a ⟨b.toArray⟩
theorem rnum_two (W : World) (g : Nat) (p q : Int) (hg : g < W.heap.size) (h0 : W.cell? ⟨g, 0, none⟩ = some (.int .i64 p)) (h1 : W.cell? ⟨g, 1, none⟩ = some (.int .i64 q)) (hp : p < 9223372036854775808) (hq : q < 9223372036854775808) :
    Calls Try.prog 39 #[.slice (some ⟨g, 0, none⟩) 2 2] W fun e w' => e = .returned (.string (str (nums [p, q]))) ∧ Only (fun _ => False) W w' :=
  refNum_any W [p, q] g 0 2 (fun k hk => by
    match k, hk with
    | 0, _ => simpa using h0
    | 1, _ => simpa using h1) (fun k hk => by
    match k, hk with
    | 0, _ => simpa using hp
    | 1, _ => simpa using hq) hg (by simp)
theorem rnum_one (W : World) (g : Nat) (p : Int) (hg : g < W.heap.size) (h0 : W.cell? ⟨g, 0, none⟩ = some (.int .i64 p)) (hp : p < 9223372036854775808) :
    Calls Try.prog 39 #[.slice (some ⟨g, 0, none⟩) 1 1] W fun e w' => e = .returned (.string (str (nums [p]))) ∧ Only (fun _ => False) W w' :=
  refNum_any W [p] g 0 1 (fun k hk => by
    match k, hk with
    | 0, _ => simpa using h0) (fun k hk => by
    match k, hk with
    | 0, _ => simpa using hp) hg (by simp)
set_option maxRecDepth 100000 in
set_option maxHeartbeats 1600000 in
theorem fraw_any (e : En) (w : World) (hf : e.few) : Calls Try.prog 35 #[e.agg] w fun x w' => x = .returned (.string e.enc) ∧ Only (fun _ => False) w w' := by
  have HV := hide (Ev.new w e)
  have HO := hide (onlyA w (.cells #[.string e.key, .int .i64 e.page, .int .i64 e.slot] 23))
  have HT : Hid (∀ W, Calls Try.prog 65 #[.string e.key] W fun x w' => x = .returned (.string (str (txL e.key))) ∧ Only (fun _ => False) W w') := fun W => refText_any W e.key (by have := hf.1; omega)
  have HN : Hid (∀ (W : World) (g : Nat), g < W.heap.size → W.cell? ⟨g, 0, none⟩ = some (.int .i64 e.page) → W.cell? ⟨g, 1, none⟩ = some (.int .i64 e.slot) → Calls Try.prog 39 #[.slice (some ⟨g, 0, none⟩) 2 2] W fun x w' => x = .returned (.string (str (nums [e.page, e.slot]))) ∧ Only (fun _ => False) W w') := fun W g h1 h2 h3 => rnum_two W g e.page e.slot h1 h2 h3 (by have := hf.2; omega) (by have := hf.2; omega)
  have hC : str (txL e.key) ++ str (nums [e.page, e.slot]) = e.enc := by
    rw [str_catN, nums_two]
    rfl
  have s1 : (str (txL e.key)).size ≤ 100 := by rw [str_size]; have := txL_len e.key (by have := hf.1; omega); have := hf.1; omega
  have s2 : (str (nums [e.page, e.slot])).size ≤ 100 := by rw [str_size]; have := nums_len [e.page, e.slot]; simp only [List.length_cons, List.length_nil] at this; omega
  obtain ⟨Y1, hY1⟩ : ∃ Y, str (txL e.key) = Y := ⟨_, rfl⟩
  obtain ⟨Y2, hY2⟩ : ∃ Y, str (nums [e.page, e.slot]) = Y := ⟨_, rfl⟩
  obtain ⟨E, hE⟩ : ∃ E, e.enc = E := ⟨_, rfl⟩
  rw [hY1] at HT hC s1
  rw [hY2] at HN hC s2
  rw [hE] at hC ⊢
  have yC : Y1.size + Y2.size ≤ 9223372036854775807 := by omega
  clear hY1 hY2 hE hf s1 s2
  unfold En.agg
  go_enter Try.func35, Try.ntmps35
  go_upto_region 1 with fail
  obtain ⟨W0, hW0⟩ : ∃ x, w.alloc (.cells #[.string e.key, .int .i64 e.page, .int .i64 e.slot] 23) = x := ⟨_, rfl⟩
  rw [hW0] at HV HO ⊢
  clear hW0
  -- {r1
  refine wp_region_noPanic ?_
  refine wp_region_held_drew (S := fun W => Only (fun _ => False) W0 W) (by kernel_rfl) (Only.drew _ _) (fun hHeld => ?_)
  refine wpAnyH_take (i := 0) (oi := { dst := some 3, op := Op.fieldAddr 23 (Operand.tmp 1) 0, type := 0, pos := "ref.go:23", after := #[], guard := none }) (v := .pointer (some ⟨w.heap.size, 0, none⟩)) rfl (by kernel_rfl) (by kernel_rfl) (by kernel_rfl) (fun _ _ _ h => h) (Or.inl ⟨by rfl, fun w' hSw => by clear hSw; go_simp⟩) (by assumption) ?_
  simp only [Act.put, List.setIfInBounds_toArray, List.set_cons_zero, List.set_cons_succ]
  refine wpAnyH_take (i := 3) (oi := { dst := some 6, op := Op.fieldAddr 23 (Operand.tmp 1) 1, type := 0, pos := "ref.go:23", after := #[], guard := none }) (v := .pointer (some ⟨w.heap.size, 1, none⟩)) rfl (by kernel_rfl) (by kernel_rfl) (by kernel_rfl) (fun _ _ _ h => h) (Or.inl ⟨by rfl, fun w' hSw => by clear hSw; go_simp⟩) (by assumption) ?_
  simp only [Act.put, List.setIfInBounds_toArray, List.set_cons_zero, List.set_cons_succ]
  refine wpAnyH_take (i := 5) (oi := { dst := some 8, op := Op.fieldAddr 23 (Operand.tmp 1) 2, type := 0, pos := "ref.go:23", after := #[], guard := none }) (v := .pointer (some ⟨w.heap.size, 2, none⟩)) rfl (by kernel_rfl) (by kernel_rfl) (by kernel_rfl) (fun _ _ _ h => h) (Or.inl ⟨by rfl, fun w' hSw => by clear hSw; go_simp⟩) (by assumption) ?_
  simp only [Act.put, List.setIfInBounds_toArray, List.set_cons_zero, List.set_cons_succ]
  refine wpAnyH_take (i := 1) (oi := { dst := some 4, op := Op.load 9 (Operand.tmp 3), type := 9, pos := "ref.go:23", after := #[{ on := 0, ground := Ground.data }], guard := none }) (v := .string e.key) rfl (by kernel_rfl) (by kernel_rfl) (by kernel_rfl) (fun _ _ _ h => h) (yieldsIf_load_cell (by rfl) 9 _ rfl _ rfl (fun W hW => (HV.out.more hW).c0) (fun W hc => ld_string hc)) (by assumption) ?_
  simp only [Act.put, List.setIfInBounds_toArray, List.set_cons_zero, List.set_cons_succ]
  refine wpAnyH_take (i := 4) (oi := { dst := some 7, op := Op.load 3 (Operand.tmp 6), type := 3, pos := "ref.go:23", after := #[{ on := 3, ground := Ground.data }], guard := none }) (v := .int .i64 e.page) rfl (by kernel_rfl) (by kernel_rfl) (by kernel_rfl) (fun _ _ _ h => h) (yieldsIf_load_cell (by rfl) 3 _ rfl _ rfl (fun W hW => (HV.out.more hW).c1) (fun W hc => ld_int hc)) (by assumption) ?_
  simp only [Act.put, List.setIfInBounds_toArray, List.set_cons_zero, List.set_cons_succ]
  refine wpAnyH_take (i := 6) (oi := { dst := some 9, op := Op.load 3 (Operand.tmp 8), type := 3, pos := "ref.go:23", after := #[{ on := 5, ground := Ground.data }], guard := none }) (v := .int .i64 e.slot) rfl (by kernel_rfl) (by kernel_rfl) (by kernel_rfl) (fun _ _ _ h => h) (yieldsIf_load_cell (by rfl) 3 _ rfl _ rfl (fun W hW => (HV.out.more hW).c2) (fun W hc => ld_int hc)) (by assumption) ?_
  simp only [Act.put, List.setIfInBounds_toArray, List.set_cons_zero, List.set_cons_succ]
  refine wpAnyH_ready (rs := [2, 7]) (by kernel_rfl) (by simp) ?_
  refine AllReadyH.cons (o := { dst := some 5, op := Op.call { callee := Callee.value (Operand.func 65), args := #[Operand.tmp 4], argTypes := #[9] }, type := 9, pos := "ref.go:23", after := #[{ on := 1, ground := Ground.data }], guard := none }) rfl (fun K hK => ?_) (AllReadyH.cons (o := { dst := some 10, op := Op.buildSlice 57 2 #[(0, Operand.tmp 7), (1, Operand.tmp 9)], type := 57, pos := "ref.go:23", after := #[{ on := 4, ground := Ground.data }, { on := 6, ground := Ground.data }], guard := none }) rfl (fun K hK => ?_) (AllReadyH.nil))
  · go_simp
    refine (HT.out _).mono ?_
    rintro x x1 ⟨rfl, hx1⟩
    have HX1 := hide (o2 (Only.drew _ W0) hx1)
    clear hx1
    refine hK.out _ _ (HX1.out) (fun hHeld => ?_)
    clear hK K
    try simp only [Act.put, List.setIfInBounds_toArray, List.set_cons_zero, List.set_cons_succ]
    refine wpAnyH_ready (rs := [7]) (by kernel_rfl) (by simp) ?_
    refine AllReadyH.cons (o := { dst := some 10, op := Op.buildSlice 57 2 #[(0, Operand.tmp 7), (1, Operand.tmp 9)], type := 57, pos := "ref.go:23", after := #[{ on := 4, ground := Ground.data }, { on := 6, ground := Ground.data }], guard := none }) rfl (fun K hK => ?_) (AllReadyH.nil)
    go_simp
    refine hK.out _ _ (o2 HX1.out (onlyA _ _)) (fun hHeld => ?_)
    clear hK K
    try simp only [Act.put, List.setIfInBounds_toArray, List.set_cons_zero, List.set_cons_succ]
    refine wpAnyH_ready (rs := [8]) (by kernel_rfl) (by simp) ?_
    refine AllReadyH.cons (o := { dst := some 11, op := Op.call { callee := Callee.value (Operand.func 39), args := #[Operand.tmp 10], argTypes := #[57] }, type := 9, pos := "ref.go:23", after := #[{ on := 7, ground := Ground.data }, { on := 2, ground := Ground.chain }], guard := none }) rfl (fun K hK => ?_) (AllReadyH.nil)
    go_simp
    refine (HN.out _ x1.heap.size (by simp) (by simp) (by simp)).mono ?_
    rintro x x2 ⟨rfl, hx2⟩
    have HX2 := hide (o2 (o2 HX1.out (onlyA _ _)) hx2)
    clear hx2
    refine hK.out _ _ (HX2.out) (fun hHeld => ?_)
    clear hK K
    try simp only [Act.put, List.setIfInBounds_toArray, List.set_cons_zero, List.set_cons_succ]
    refine wpAnyH_take (i := 9) (oi := { dst := some 12, op := Op.binOp BinOp.add 9 (Operand.tmp 5) (Operand.tmp 11) 9, type := 9, pos := "ref.go:23", after := #[{ on := 2, ground := Ground.data }, { on := 8, ground := Ground.data }], guard := none }) (v := .string E) rfl (by kernel_rfl) (by kernel_rfl) (by kernel_rfl) (fun _ _ _ h => h) (Or.inl ⟨by rfl, fun w' hSw => by clear hSw; go_simp⟩) (by assumption) ?_
    simp only [Act.put, List.setIfInBounds_toArray, List.set_cons_zero, List.set_cons_succ]
    refine wpAnyH_take (i := 10) (oi := { dst := some 2, op := Op.assign (Operand.tmp 12), type := 9, pos := "ref.go:23", after := #[{ on := 9, ground := Ground.data }, { on := 8, ground := Ground.chain }, { on := 0, ground := Ground.phase }, { on := 1, ground := Ground.phase }, { on := 2, ground := Ground.phase }, { on := 3, ground := Ground.phase }, { on := 4, ground := Ground.phase }, { on := 5, ground := Ground.phase }, { on := 6, ground := Ground.phase }, { on := 7, ground := Ground.phase }, { on := 8, ground := Ground.phase }, { on := 9, ground := Ground.phase }], guard := none }) (v := .string E) rfl (by kernel_rfl) (by kernel_rfl) (by kernel_rfl) (fun _ _ _ h => h) (Or.inl ⟨by rfl, fun w' hSw => by clear hSw; go_simp⟩) (by assumption) ?_
    simp only [Act.put, List.setIfInBounds_toArray, List.set_cons_zero, List.set_cons_succ]
    refine wpAnyH_done (by kernel_rfl) ?_ _
    refine NoPanic.normal ?_
    go_wp2_with fail
    go_ret
    exact ⟨rfl, o2 HO.out HX2.out⟩
  · go_simp
    refine hK.out _ _ (o2 (onlyA _ _) (Only.drew _ _)) (fun hHeld => ?_)
    clear hK K
    try simp only [Act.put, List.setIfInBounds_toArray, List.set_cons_zero, List.set_cons_succ]
    refine wpAnyH_ready (rs := [2]) (by kernel_rfl) (by simp) ?_
    refine AllReadyH.cons (o := { dst := some 5, op := Op.call { callee := Callee.value (Operand.func 65), args := #[Operand.tmp 4], argTypes := #[9] }, type := 9, pos := "ref.go:23", after := #[{ on := 1, ground := Ground.data }], guard := none }) rfl (fun K hK => ?_) (AllReadyH.nil)
    go_simp
    refine (HT.out _).mono ?_
    rintro x x1 ⟨rfl, hx1⟩
    have HCG : Hid (W0.heap.size < x1.heap.size ∧ x1.cell? ⟨W0.heap.size, 0, none⟩ = some (.int .i64 e.page) ∧ x1.cell? ⟨W0.heap.size, 1, none⟩ = some (.int .i64 e.slot)) := ⟨Nat.lt_of_lt_of_le (by simp) hx1.size, (hx1.cell (p := ⟨W0.heap.size, 0, none⟩) (by simp) (fun h => h)).trans (by simp), (hx1.cell (p := ⟨W0.heap.size, 1, none⟩) (by simp) (fun h => h)).trans (by simp)⟩
    have HX1 := hide (o2 (o2 (onlyA W0 _) (Only.drew _ _)) hx1)
    clear hx1
    refine hK.out _ _ (HX1.out) (fun hHeld => ?_)
    clear hK K
    try simp only [Act.put, List.setIfInBounds_toArray, List.set_cons_zero, List.set_cons_succ]
    refine wpAnyH_ready (rs := [8]) (by kernel_rfl) (by simp) ?_
    refine AllReadyH.cons (o := { dst := some 11, op := Op.call { callee := Callee.value (Operand.func 39), args := #[Operand.tmp 10], argTypes := #[57] }, type := 9, pos := "ref.go:23", after := #[{ on := 7, ground := Ground.data }, { on := 2, ground := Ground.chain }], guard := none }) rfl (fun K hK => ?_) (AllReadyH.nil)
    go_simp
    refine (HN.out _ W0.heap.size HCG.out.1 HCG.out.2.1 HCG.out.2.2).mono ?_
    rintro x x2 ⟨rfl, hx2⟩
    have HX2 := hide (o2 HX1.out hx2)
    clear hx2
    refine hK.out _ _ (HX2.out) (fun hHeld => ?_)
    clear hK K
    try simp only [Act.put, List.setIfInBounds_toArray, List.set_cons_zero, List.set_cons_succ]
    refine wpAnyH_take (i := 9) (oi := { dst := some 12, op := Op.binOp BinOp.add 9 (Operand.tmp 5) (Operand.tmp 11) 9, type := 9, pos := "ref.go:23", after := #[{ on := 2, ground := Ground.data }, { on := 8, ground := Ground.data }], guard := none }) (v := .string E) rfl (by kernel_rfl) (by kernel_rfl) (by kernel_rfl) (fun _ _ _ h => h) (Or.inl ⟨by rfl, fun w' hSw => by clear hSw; go_simp⟩) (by assumption) ?_
    simp only [Act.put, List.setIfInBounds_toArray, List.set_cons_zero, List.set_cons_succ]
    refine wpAnyH_take (i := 10) (oi := { dst := some 2, op := Op.assign (Operand.tmp 12), type := 9, pos := "ref.go:23", after := #[{ on := 9, ground := Ground.data }, { on := 8, ground := Ground.chain }, { on := 0, ground := Ground.phase }, { on := 1, ground := Ground.phase }, { on := 2, ground := Ground.phase }, { on := 3, ground := Ground.phase }, { on := 4, ground := Ground.phase }, { on := 5, ground := Ground.phase }, { on := 6, ground := Ground.phase }, { on := 7, ground := Ground.phase }, { on := 8, ground := Ground.phase }, { on := 9, ground := Ground.phase }], guard := none }) (v := .string E) rfl (by kernel_rfl) (by kernel_rfl) (by kernel_rfl) (fun _ _ _ h => h) (Or.inl ⟨by rfl, fun w' hSw => by clear hSw; go_simp⟩) (by assumption) ?_
    simp only [Act.put, List.setIfInBounds_toArray, List.set_cons_zero, List.set_cons_succ]
    refine wpAnyH_done (by kernel_rfl) ?_ _
    refine NoPanic.normal ?_
    go_wp2_with fail
    go_ret
    exact ⟨rfl, o2 HO.out HX2.out⟩
  -- r1}
theorem fencode_any (e : En) (w : World) : Calls Try.prog 10 #[e.agg] w fun x w' => x = .returned (outC e.ok e.enc) ∧ Only (fun _ => False) w w' := by
  have HC : Hid (∀ W, Calls Try.prog 34 #[e.agg] W fun x w' => x = .returned (.bool e.ok) ∧ Only (fun _ => False) W w') := fun W => fentry_any e W
  have HE : Hid (e.ok = true → ∀ W, Calls Try.prog 35 #[e.agg] W fun x w' => x = .returned (.string e.enc) ∧ Only (fun _ => False) W w') := fun h W => fraw_any e W (En.few_ok h)
  have HO := hide (onlyA w (.cells #[.string e.key, .int .i64 e.page, .int .i64 e.slot] 23))
  have HEb := hide (Eb.new w e)
  obtain ⟨E, hE⟩ : ∃ E, e.enc = E := ⟨_, rfl⟩
  obtain ⟨b, hb⟩ : ∃ b, e.ok = b := ⟨_, rfl⟩
  rw [hE, hb]
  rw [hb] at HC
  rw [hE, hb] at HE
  clear hE hb
  obtain ⟨k, p, s⟩ := e
  unfold En.agg at HC HE ⊢
  simp only [] at HC HE HO HEb ⊢
  go_enter Try.func10, Try.ntmps10
  go_wp2_with fail
  refine (HC.out _).mono ?_
  rintro x w1 ⟨rfl, ho⟩
  have HO1 := hide (o2 HO.out ho)
  have HE1 := hide (HEb.out.more ho)
  clear ho HO HEb
  cases b with
  | false =>
    clear HE
    go_wp2_with fail
    go_ret2
    exact ⟨rfl, HO1.out⟩
  | true =>
    have HE2 := hide (HE.out rfl)
    clear HE
    have c0 := HE1.out.c0
    have c1 := HE1.out.c1
    have c2 := HE1.out.c2
    simp only [Nat.zero_add] at c0 c1 c2
    go_wp2_with fail
    refine (HE2.out _).mono ?_
    rintro x w2 ⟨rfl, ho⟩
    have HO2 := hide (o2 HO1.out ho)
    clear ho
    go_wp2_with fail
    go_ret2
    exact ⟨rfl, HO2.out⟩
set_option maxHeartbeats 1600000 in
theorem fsep_any (e : En) (c : Int) (w : World) : Calls Try.prog 12 #[e.agg, .int .i64 c] w fun x w' => x = .returned (outC (e.sp && okC c) (e.encS c)) ∧ Only (fun _ => False) w w' := by
  have HC : Hid (∀ W, Calls Try.prog 34 #[.agg #[.string e.key, .int .i64 e.page, .int .i64 e.slot]] W fun x w' => x = .returned (.bool e.ok) ∧ Only (fun _ => False) W w') := fun W => fentry_any e W
  have HD : Hid (∀ W, Calls Try.prog 38 #[.int .i64 c] W fun x w' => x = .returned (.bool (okC c)) ∧ w' = W) := fun W => fchild_any c W
  have HE : Hid (e.sp = true → ∀ W, Calls Try.prog 35 #[.agg #[.string e.key, .int .i64 e.page, .int .i64 e.slot]] W fun x w' => x = .returned (.string e.enc) ∧ Only (fun _ => False) W w') := fun h W => fraw_any e W (En.few_sp h)
  have HNU : Hid (okC c = true → ∀ W W' : World, Only (fun _ => False) (W.alloc (.cells #[.int .i64 c] 3)) W' → Calls Try.prog 39 #[.slice (some ⟨W.heap.size, 0, none⟩) 1 1] W' fun x w' => x = .returned (.string (str (nums [c]))) ∧ Only (fun _ => False) W' w') := fun h W W' ho => rnum_one W' W.heap.size c (Nat.lt_of_lt_of_le (by simp) ho.size) ((ho.cell (p := ⟨W.heap.size, 0, none⟩) (by simp) (fun h => h)).trans (by simp)) (by have := (okC_iff.1 h).2; omega)
  have HCAT : Hid (e.sp = true → e.enc ++ str (nums [c]) = e.encS c ∧ e.enc.size + (str (nums [c])).size ≤ 9223372036854775807) := fun h => by
    refine ⟨by unfold En.enc; rw [str_catN, nums_one]; rfl, ?_⟩
    have h1 := lay_len (En.few_sp h).1
    have h2 := nums_len [c]
    simp only [List.length_cons, List.length_nil] at h2
    unfold En.enc
    rw [str_size, str_size]
    omega
  have hne := neE_run e noE
  have HSP : Hid (e.sp = (e.ok || decide (e = noE))) := by unfold Hid En.sp; rw [Bool.or_comm]
  have HV := hide (Ev.new w e)
  have HO := hide (onlyA w (.cells #[.string e.key, .int .i64 e.page, .int .i64 e.slot] 23))
  obtain ⟨R, hR⟩ : ∃ R, outC (e.sp && okC c) (e.encS c) = R := ⟨_, rfl⟩
  rw [hR]
  obtain ⟨b, hb⟩ : ∃ b, e.ok = b := ⟨_, rfl⟩
  obtain ⟨v, hv⟩ : ∃ v, decide (e = noE) = v := ⟨_, rfl⟩
  obtain ⟨d, hd⟩ : ∃ d, okC c = d := ⟨_, rfl⟩
  obtain ⟨E, hE⟩ : ∃ E, e.enc = E := ⟨_, rfl⟩
  obtain ⟨ES, hES⟩ : ∃ E, e.encS c = E := ⟨_, rfl⟩
  obtain ⟨NC, hNC⟩ : ∃ E, str (nums [c]) = E := ⟨_, rfl⟩
  rw [hb, hv] at HSP
  rw [HSP.out] at HE HCAT hR
  rw [hb] at HC
  rw [hd] at HD HNU hR
  rw [hv] at hne
  rw [hE] at HE HCAT
  rw [hES] at HCAT hR
  rw [hNC] at HNU HCAT
  have HR := hide hR
  unfold noE at hne
  simp only [] at hne
  clear hb hv hd hE hES hNC hR HSP
  unfold En.agg
  go_enter Try.func12, Try.ntmps12
  go_upto_region 1 with fail
  obtain ⟨W0, hW0⟩ : ∃ x, w.alloc (.cells #[.string e.key, .int .i64 e.page, .int .i64 e.slot] 23) = x := ⟨_, rfl⟩
  rw [hW0] at HV HO ⊢
  clear hW0
  obtain ⟨c0, c1, c2, _⟩ := HV.out
  go_wp2_with fail
  refine (HC.out _).mono ?_
  rintro x w1 ⟨rfl, ho⟩
  have HO1 := hide (o2 HO.out ho)
  have HV1 := hide (HV.out.more ho)
  clear ho HO HV c0 c1 c2
  obtain ⟨c0, c1, c2, _⟩ := HV1.out
  have HRF : Hid (b = false → v = false → R = outC false ES) := by intro h1 h2; rw [← HR.out, h1, h2]; rfl
  have HRD : Hid ((b || v) = true → R = outC d ES) := by intro h1; rw [← HR.out, h1, Bool.true_and]
  by_cases hbv : (b || v) = true
  · have HE2 := hide (HE.out hbv)
    have HCA := hide (HCAT.out hbv)
    have HRD2 := hide (HRD.out hbv)
    have HBV : Hid ((b = true) ∨ (b = false ∧ v = true)) := by cases b <;> cases v <;> simp_all [Hid]
    clear hbv HE HCAT HRF HRD HR
    rcases HBV.out with rfl | ⟨rfl, rfl⟩
    · clear HBV
      go_wp2_with fail
      refine (HD.out _).mono ?_
      rintro x w2 ⟨rfl, h⟩
      obtain rfl := h.symm
      cases d with
      | false =>
        clear HNU
        go_wp2_with fail
        go_ret2
        exact ⟨by rw [HRD2.out]; rfl, HO1.out⟩
      | true =>
        have HNU2 := hide (HNU.out rfl)
        have hca := HCA.out.1
        have hcs := HCA.out.2
        clear HNU
        go_wp2_with fail
        refine (HE2.out _).mono ?_
        rintro x w2 ⟨rfl, ho⟩
        have HO2 := hide (o2 HO1.out ho)
        clear ho
        go_wp2_with fail
        refine (HNU2.out _ _ (Only.refl _ _)).mono ?_
        rintro x w3 ⟨rfl, ho⟩
        have HO3 := hide (o2 (o2 HO2.out (onlyA _ _)) ho)
        clear ho
        go_wp2_with fail
        go_ret2
        exact ⟨by rw [HRD2.out]; rfl, HO3.out⟩
    · clear HBV
      go_wp2_with fail
      refine (HD.out _).mono ?_
      rintro x w2 ⟨rfl, h⟩
      obtain rfl := h.symm
      cases d with
      | false =>
        clear HNU
        go_wp2_with fail
        go_ret2
        exact ⟨by rw [HRD2.out]; rfl, HO1.out⟩
      | true =>
        have HNU2 := hide (HNU.out rfl)
        have hca := HCA.out.1
        have hcs := HCA.out.2
        clear HNU
        go_wp2_with fail
        refine (HE2.out _).mono ?_
        rintro x w2 ⟨rfl, ho⟩
        have HO2 := hide (o2 HO1.out ho)
        clear ho
        go_wp2_with fail
        refine (HNU2.out _ _ (Only.refl _ _)).mono ?_
        rintro x w3 ⟨rfl, ho⟩
        have HO3 := hide (o2 (o2 HO2.out (onlyA _ _)) ho)
        clear ho
        go_wp2_with fail
        go_ret2
        exact ⟨by rw [HRD2.out]; rfl, HO3.out⟩
  · obtain ⟨rfl, rfl⟩ : b = false ∧ v = false := by cases b <;> cases v <;> simp_all
    have HR2 := hide (HRF.out rfl rfl)
    clear hbv HE HCAT HRF HRD HR HNU
    go_wp2_with fail
    go_ret2
    exact ⟨by rw [HR2.out]; rfl, HO1.out⟩
end Go.Proofs.Ythhlmhghiknnkaa
