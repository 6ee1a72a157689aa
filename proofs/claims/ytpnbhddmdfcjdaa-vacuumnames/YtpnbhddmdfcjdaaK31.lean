/- Parts. -/
import Derived.Test.YtpnbhddmdfcjdaaK30
set_option maxRecDepth 100000
namespace Go.Proofs.Ytpnbhddmdfcjdaa
open Go.RowKit
/-- A text taken, if nothing was wrong before. -/
def stx (z : Int) (l : List UInt8) (x : Int) : List UInt8 × List UInt8 × Int := if x = 0 then rdT z l else ([], l, x)
theorem rdTT_stx (l : List UInt8) : rdTT l = ((rdT 24 l).1, (stx 64 (rdT 24 l).2.1 (rdT 24 l).2.2).1, (stx 64 (rdT 24 l).2.1 (rdT 24 l).2.2).2.1, (stx 64 (rdT 24 l).2.1 (rdT 24 l).2.2).2.2) := by
  unfold rdTT stx
  split <;> rfl
theorem rtext_st (w : World) (r : Nat) (s : ByteArray) (x z : Int) (hR : Rd w r s x) :
    Calls Try.prog 44 #[.pointer (some ⟨r, 0, none⟩), .int .i64 z] w fun e w' => e = .returned (.string (str (stx z (bl s) x).1)) ∧ Rd w' r (str (stx z (bl s) x).2.1) (stx z (bl s) x).2.2 ∧ Only (fun k => k = r) w w' := by
  unfold stx
  by_cases hx : x = 0
  · subst hx
    rw [if_pos rfl]
    refine (rtext_any w r s z hR).mono ?_
    rintro e w' ⟨he, h1, h2⟩
    exact ⟨he, h1, h2⟩
  · rw [if_neg hx]
    refine (rtext_err w r x z hR.c1 (by simpa using hx)).mono ?_
    rintro e w' ⟨he, rfl⟩
    refine ⟨he, ?_, Only.refl _ _⟩
    simp only [str_bl]
    exact hR
theorem rend_st (w : World) (r : Nat) (s : ByteArray) (x : Int) (hR : Rd w r s x) :
    Calls Try.prog 45 #[.pointer (some ⟨r, 0, none⟩)] w fun e w' => e = .returned (.int .i64 (endE (bl s) x)) ∧ w' = w := by
  unfold endE
  by_cases hx : x = 0
  · subst hx
    rw [if_pos rfl, bl_len]
    exact rend_ok w r s hR.c1 hR.c0
  · rw [if_neg hx]
    exact rend_err w r x hR.c1 (by simpa using hx)
theorem of_two (s : ByteArray) (i : Nat) (h : i + 2 ≤ s.size) (w : World) : Calls Try.prog 43 #[.string (s.extract i (i + 2))] w fun e w' => e = .returned (.int .i64 (ofTo (((bl s).drop i).take 2))) ∧ w' = w := by
  have hl := bl_len s
  have e1 : (s.extract i (i + 2)).data.toList = ((bl s).drop i).take 2 := by
    have := ext_blU s i (i + 2)
    rwa [show i + 2 - i = 2 by omega] at this
  have l2 : (((bl s).drop i).take 2).length = 2 := by simp; omega
  have hb := ofTo_small (((bl s).drop i).take 2) (by omega)
  rw [l2] at hb
  have hz : (s.extract i (i + 2)).size = 2 := by rw [← bl_len]; exact (congrArg List.length e1).trans l2
  have := of_any (s.extract i (i + 2)) w (by rw [hz]; decide)
  rw [e1, Int.emod_eq_of_lt hb.1 (by omega)] at this
  exact this
set_option maxRecDepth 100000 in
set_option maxHeartbeats 1600000 in
theorem udecode_head (s : ByteArray) (w : World) (h : headed (bl s) = false) :
    Calls Try.prog 22 #[.string s] w fun e w' => e = .returned (.tuple #[noT.agg, .int .i64 110]) ∧ Only (fun _ => False) w w' := by
  have HB := hide (Tb.new w noT)
  have HO := hide (onlyA w (.cells #[.int .i64 0, .int .i64 0, .bool false, .string ⟨#[]⟩, .string ⟨#[]⟩] 57))
  have hl := bl_len s
  by_cases h5 : 5 ≤ s.size
  · obtain ⟨a, r, h1, h2, h3⟩ := ext_first s (by omega)
    have hm : (a == 1 || a == 3) = false := by
      unfold headed marked at h
      rw [h1] at h hl
      simpa [show 4 ≤ r.length by simp at hl; omega] using h
    have HM : Hid (∀ W, Calls Try.prog 41 #[.string (s.extract 0 1)] W fun e w' => e = .returned (.bool false) ∧ w' = W) := fun W => by
      rw [h2, ← hm]
      exact isMark_any a W
    have t5 : (5 : Int) ≤ (s.size : Int) := by omega
    clear h hl h1 h2 h3 hm h5
    go_enter Try.func22, Try.ntmps22
    go_wp2_with fail
    refine (HM.out _).mono ?_
    rintro e w1 ⟨rfl, rfl⟩
    go_wp2_with fail
    refine bodyPost_ret (results_tub rfl rfl HB.out) rfl ?_
    exact ⟨rfl, HO.out⟩
  · have t5 : (s.size : Int) < 5 := by omega
    clear h hl h5
    go_enter Try.func22, Try.ntmps22
    go_wp2_with fail
    refine bodyPost_ret (results_tub rfl rfl HB.out) rfl ?_
    exact ⟨rfl, HO.out⟩
-- {good
/-- The variables of Decode: what it answers, its reader, the version that it fills. -/
structure Dst (w W : World) (D : ByteArray) (x : Int) (t : Tu) : Prop where
  res : Tb W w.heap.size noT
  rd : Rd W (w.heap.size + 1) D x
  tb : Tb W (w.heap.size + 1 + 1) t
  only : Only (fun _ => False) w W
theorem Dst.new (w : World) (D : ByteArray) (f : Bool) : Dst w (((w.alloc (.cells #[.int .i64 0, .int .i64 0, .bool false, .string ⟨#[]⟩, .string ⟨#[]⟩] 57)).alloc (.cells #[.string D, .int .i64 0] 121)).alloc (.cells #[.int .i64 0, .int .i64 0, .bool f, .string ⟨#[]⟩, .string ⟨#[]⟩] 57)) D 0 ⟨0, 0, f, ⟨#[]⟩, ⟨#[]⟩⟩ := by
  refine ⟨((Tb.new w noT).more (onlyA _ _)).more (onlyA _ _), ?_, ?_, o2 (o2 (onlyA _ _) (onlyA _ _)) (onlyA _ _)⟩
  · have := (Rd.new (w.alloc (.cells #[.int .i64 0, .int .i64 0, .bool false, .string ⟨#[]⟩, .string ⟨#[]⟩] 57)) D).alloc (.cells #[.int .i64 0, .int .i64 0, .bool f, .string ⟨#[]⟩, .string ⟨#[]⟩] 57)
    rw [World.size_alloc] at this
    exact this
  · have := Tb.new ((w.alloc (.cells #[.int .i64 0, .int .i64 0, .bool false, .string ⟨#[]⟩, .string ⟨#[]⟩] 57)).alloc (.cells #[.string D, .int .i64 0] 121)) ⟨0, 0, f, ⟨#[]⟩, ⟨#[]⟩⟩
    rw [World.size_alloc, World.size_alloc] at this
    exact this
theorem Dst.drew {w W : World} {D : ByteArray} {x : Int} {t : Tu} (h : Dst w W D x t) : Dst w W.drew D x t :=
  ⟨h.res.more (Only.drew _ _), h.rd.kept (Only.drew (fun _ => False) _) (fun h => h), h.tb.more (Only.drew _ _), o2 h.only (Only.drew _ _)⟩
theorem Dst.set {w W : World} {D : ByteArray} {x : Int} {t t' : Tu} (h : Dst w W D x t) (i : Nat) (v : Value) (ht : Tb (W.setCell ⟨w.heap.size + 1 + 1, i, none⟩ v) (w.heap.size + 1 + 1) t') : Dst w (W.setCell ⟨w.heap.size + 1 + 1, i, none⟩ v) D x t' := by
  have ho : Only (fun k => k = w.heap.size + 1 + 1) W (W.setCell ⟨w.heap.size + 1 + 1, i, none⟩ v) := Only.setCell W _ v rfl
  exact ⟨h.res.kept ho (by omega), h.rd.kept ho (by omega), ht, h.only.trans ho (fun j hj e => by omega)⟩
theorem Dst.text {w W W' : World} {D D' : ByteArray} {x x' : Int} {t : Tu} (h : Dst w W D x t) (hr : Rd W' (w.heap.size + 1) D' x') (ho : Only (fun k => k = w.heap.size + 1) W W') : Dst w W' D' x' t :=
  ⟨h.res.kept ho (by omega), hr, h.tb.kept ho (by omega), h.only.trans ho (fun j hj e => by omega)⟩
theorem Dst.more {w W W' : World} {D : ByteArray} {x : Int} {t : Tu} (h : Dst w W D x t) (ho : Only (fun _ => False) W W') : Dst w W' D x t :=
  ⟨h.res.more ho, h.rd.kept ho (fun h => h), h.tb.more ho, o2 h.only ho⟩
/-- What Decode answers. -/
def outT (o : Option Tu) : Value := .tuple #[(o.getD noT).agg, .int .i64 (if o.isSome then 0 else 110)]
set_option maxRecDepth 100000 in
set_option maxHeartbeats 3200000 in
theorem udecode_good (s : ByteArray) (w : World) (h : headed (bl s) = true) :
    Calls Try.prog 22 #[.string s] w fun e w' => e = .returned (outT (decT (bl s))) ∧ Only (fun _ => False) w w' := by
  have hl := bl_len s
  have h' := h
  unfold headed marked at h'
  simp only [Bool.and_eq_true, decide_eq_true_eq] at h'
  obtain ⟨h5, hm0⟩ := h'
  obtain ⟨a, r, h1, h2, h3⟩ := ext_first s (by omega)
  have hm : (a == 1 || a == 3) = true := by
    rw [h1] at hm0
    simpa using hm0
  have HM : Hid (∀ W, Calls Try.prog 41 #[.string (s.extract 0 1)] W fun e w' => e = .returned (.bool true) ∧ w' = W) := fun W => by
    rw [h2, ← hm]
    exact isMark_any a W
  have t5 : (5 : Int) ≤ (s.size : Int) := by omega
  have t3 : (3 : Int) ≤ (s.size : Int) := by omega
  have hfz : ((s.extract 0 1).toList == [3]) = ((bl s).head? == some 3) := by
    rw [h2, h1]
    simp [ByteArray.toList_eq]
  obtain ⟨D, hD⟩ : ∃ D, s.extract 5 s.size = D := ⟨_, rfl⟩
  have bD : bl D = (bl s).drop 5 := by rw [← hD, ext_blU]; exact List.take_of_length_le (by simp)
  obtain ⟨fz, efz⟩ : ∃ f, ((bl s).head? == some 3) = f := ⟨_, rfl⟩
  rw [efz] at hfz
  obtain ⟨q1, hq1⟩ : ∃ q, ofTo (((bl s).drop 1).take 2) = q := ⟨_, rfl⟩
  obtain ⟨q2, hq2⟩ : ∃ q, ofTo (((bl s).drop 3).take 2) = q := ⟨_, rfl⟩
  have bq : (0 ≤ q1 ∧ q1 < 65536) ∧ (0 ≤ q2 ∧ q2 < 65536) := by
    have e1 := ofTo_small (((bl s).drop 1).take 2) (by simp; omega)
    have e2 := ofTo_small (((bl s).drop 3).take 2) (by simp; omega)
    have l1 : (((bl s).drop 1).take 2).length = 2 := by simp; omega
    have l2 : (((bl s).drop 3).take 2).length = 2 := by simp; omega
    rw [l1, hq1] at e1
    rw [l2, hq2] at e2
    omega
  have HOF1 : Hid (∀ W, Calls Try.prog 43 #[.string (s.extract 1 3)] W fun e w' => e = .returned (.int .i64 q1) ∧ w' = W) := fun W => by
    rw [← hq1]
    exact of_two s 1 (by omega) W
  have HOF2 : Hid (∀ W, Calls Try.prog 43 #[.string (s.extract 3 5)] W fun e w' => e = .returned (.int .i64 q2) ∧ w' = W) := fun W => by
    rw [← hq2]
    exact of_two s 3 (by omega) W
  obtain ⟨A1, hA1⟩ : ∃ A, s.extract 1 3 = A := ⟨_, rfl⟩
  obtain ⟨A2, hA2⟩ : ∃ A, s.extract 3 5 = A := ⟨_, rfl⟩
  rw [hA1] at HOF1
  rw [hA2] at HOF2
  obtain ⟨P, hP⟩ : ∃ P, stx 24 (bl D) 0 = P := ⟨_, rfl⟩
  obtain ⟨R, hR⟩ : ∃ R, stx 64 P.2.1 P.2.2 = R := ⟨_, rfl⟩
  have HRAW : Hid (rawT (bl s) = ⟨q1, q2, fz, str P.1, str R.1⟩ ∧ endT ((bl s).drop 5) = endE R.2.1 R.2.2) := by
    have e0 : rdT 24 ((bl s).drop 5) = P := by rw [← hP, bD]; rfl
    have e1 := rdTT_stx ((bl s).drop 5)
    rw [e0, hR] at e1
    unfold rawT endT
    rw [e1, hq1, hq2, efz]
    exact ⟨rfl, rfl⟩
  have HP : Hid (stx 24 (bl D) 0 = P) := hP
  have HR : Hid (stx 64 P.2.1 P.2.2 = R) := hR
  have HD := hide hD
  have HH := hide h
  obtain ⟨K1, hK1⟩ : ∃ k, str P.1 = k := ⟨_, rfl⟩
  obtain ⟨V1, hV1⟩ : ∃ k, str R.1 = k := ⟨_, rfl⟩
  rw [hK1, hV1] at HRAW
  have HK1 := hide hK1
  have HV1 := hide hV1
  obtain ⟨E, hE⟩ : ∃ E, endE R.2.1 R.2.2 = E := ⟨_, rfl⟩
  rw [hE] at HRAW
  have HE := hide hE
  obtain ⟨O, hO⟩ : ∃ O, Tu.ok ⟨q1, q2, fz, K1, V1⟩ = O := ⟨_, rfl⟩
  have HOK : Hid (∀ W, Calls Try.prog 34 #[.agg #[.int .i64 q1, .int .i64 q2, .bool fz, .string K1, .string V1]] W fun e w' => e = .returned (.bool O) ∧ Only (fun _ => False) W w') := fun W => by
    rw [← hO]
    exact isVersion_any ⟨q1, q2, fz, K1, V1⟩ W ⟨by simp only; omega, by simp only; omega⟩ ⟨by simp only; omega, by simp only; omega⟩
  have HDE : Hid (decT (bl s) = if E = 0 ∧ O = true then some ⟨q1, q2, fz, K1, V1⟩ else none) := by
    unfold Hid decT goodT
    rw [HRAW.out.1, HRAW.out.2, h, hO]
    by_cases e1 : E = 0 <;> cases O <;> simp [e1]
  clear h1 h2 h3 hm hm0 efz hD bD h hl hP hR hK1 hV1 hE hO hq1 hq2 h5 bq HRAW
  go_enter Try.func22, Try.ntmps22
  go_wp2_with fail
  refine (HM.out _).mono ?_
  rintro e w1 ⟨rfl, rfl⟩
  go_wp2_with fail
  rw [HD.out]
  refine (read_any D _).mono ?_
  rintro e w2 ⟨rfl, rfl⟩
  go_upto_region 5 with fail
  have H0 := hide (Dst.new w D fz)
  obtain ⟨W0, hW0⟩ : ∃ x, ((w.alloc (.cells #[.int .i64 0, .int .i64 0, .bool false, .string ⟨#[]⟩, .string ⟨#[]⟩] 57)).alloc (.cells #[.string D, .int .i64 0] 121)).alloc (.cells #[.int .i64 0, .int .i64 0, .bool fz, .string ⟨#[]⟩, .string ⟨#[]⟩] 57) = x := ⟨_, rfl⟩
  rw [hW0] at H0 ⊢
  clear hW0
  have c0 := H0.out.tb.c0
  have f0 := H0.out.tb.f0
  have c1 := H0.out.tb.c1
  have f1 := H0.out.tb.f1
  refine wp_region_noPanic ?_
  refine wp_region_held_drew (S := fun W => Only (fun k => k = w.heap.size + 1 + 1) W0 W) (by kernel_rfl) (Only.drew _ _) (fun hHeld => ?_)
  refine wpAnyH_take (i := 0) (oi := { dst := some 23, op := Op.move (Operand.tmp 0), type := 9, pos := "tuple.go:45", after := #[], guard := none }) (v := .string s) rfl (by kernel_rfl) (by kernel_rfl) (by kernel_rfl) (fun _ _ _ h => h) (Or.inl ⟨by rfl, fun w' hSw => by clear hSw; go_simp⟩) (by assumption) ?_
  simp only [Act.put, List.setIfInBounds_toArray, List.set_cons_zero, List.set_cons_succ]
  refine wpAnyH_take (i := 3) (oi := { dst := some 26, op := Op.move (Operand.tmp 0), type := 9, pos := "tuple.go:45", after := #[], guard := none }) (v := .string s) rfl (by kernel_rfl) (by kernel_rfl) (by kernel_rfl) (fun _ _ _ h => h) (Or.inl ⟨by rfl, fun w' hSw => by clear hSw; go_simp⟩) (by assumption) ?_
  simp only [Act.put, List.setIfInBounds_toArray, List.set_cons_zero, List.set_cons_succ]
  refine wpAnyH_take (i := 1) (oi := { dst := some 24, op := Op.slice 9 (Operand.tmp 23) (some (Operand.const (Value.int IntKind.i64 1))) (some (Operand.const (Value.int IntKind.i64 3))) none, type := 9, pos := "tuple.go:45", after := #[{ on := 0, ground := Ground.data }], guard := none }) (v := .string A1) rfl (by kernel_rfl) (by kernel_rfl) (by kernel_rfl) (fun _ _ _ h => h) (Or.inl ⟨by rfl, fun w' hSw => by clear hSw; go_simp⟩) (by assumption) ?_
  simp only [Act.put, List.setIfInBounds_toArray, List.set_cons_zero, List.set_cons_succ]
  refine wpAnyH_take (i := 4) (oi := { dst := some 27, op := Op.slice 9 (Operand.tmp 26) (some (Operand.const (Value.int IntKind.i64 3))) (some (Operand.const (Value.int IntKind.i64 5))) none, type := 9, pos := "tuple.go:45", after := #[{ on := 3, ground := Ground.data }], guard := none }) (v := .string A2) rfl (by kernel_rfl) (by kernel_rfl) (by kernel_rfl) (fun _ _ _ h => h) (Or.inl ⟨by rfl, fun w' hSw => by clear hSw; go_simp⟩) (by assumption) ?_
  simp only [Act.put, List.setIfInBounds_toArray, List.set_cons_zero, List.set_cons_succ]
  refine wpAnyH_ready (rs := [2]) (by kernel_rfl) (by simp) ?_
  refine AllReadyH.cons (o := { dst := some 25, op := Op.call { callee := Callee.value (Operand.func 43), args := #[Operand.tmp 24], argTypes := #[9] }, type := 3, pos := "tuple.go:45", after := #[{ on := 1, ground := Ground.data }], guard := none }) rfl (fun K hK => ?_) (AllReadyH.nil)
  go_simp
  refine (HOF1.out _).mono ?_
  rintro e _ ⟨rfl, rfl⟩
  refine hK.out _ _ (Only.drew _ _) (fun hHeld => ?_)
  clear hK K
  try simp only [Act.put, List.setIfInBounds_toArray, List.set_cons_zero, List.set_cons_succ]
  refine wpAnyH_take (i := 6) (oi := { dst := some 29, op := Op.fieldAddr 57 (Operand.tmp 5) 0, type := 0, pos := "tuple.go:45", after := #[{ on := 0, ground := Ground.phase }, { on := 1, ground := Ground.phase }, { on := 2, ground := Ground.phase }, { on := 3, ground := Ground.textOnly Departure.lateStores }, { on := 4, ground := Ground.textOnly Departure.lateStoresUnsure }, { on := 5, ground := Ground.textOnly Departure.lateStoresUnsure }], guard := none }) (v := .pointer (some ⟨w.heap.size + 1 + 1, 0, none⟩)) rfl (by kernel_rfl) (by kernel_rfl) (by kernel_rfl) (fun _ _ _ h => h) (Or.inl ⟨by rfl, fun w' hSw => by clear hSw; go_simp⟩) (by assumption) ?_
  simp only [Act.put, List.setIfInBounds_toArray, List.set_cons_zero, List.set_cons_succ]
  refine wpAnyH_ready (rs := [5]) (by kernel_rfl) (by simp) ?_
  refine AllReadyH.cons (o := { dst := some 28, op := Op.call { callee := Callee.value (Operand.func 43), args := #[Operand.tmp 27], argTypes := #[9] }, type := 3, pos := "tuple.go:45", after := #[{ on := 4, ground := Ground.data }, { on := 2, ground := Ground.chain }], guard := none }) rfl (fun K hK => ?_) (AllReadyH.nil)
  go_simp
  refine (HOF2.out _).mono ?_
  rintro e _ ⟨rfl, rfl⟩
  refine hK.out _ _ (Only.drew _ _) (fun hHeld => ?_)
  clear hK K
  try simp only [Act.put, List.setIfInBounds_toArray, List.set_cons_zero, List.set_cons_succ]
  refine wpAnyH_ready (rs := [7]) (by kernel_rfl) (by simp) ?_
  refine AllReadyH.cons (o := { dst := none, op := Op.store 3 (Operand.tmp 29) (Operand.tmp 25), type := 0, pos := "tuple.go:45", after := #[{ on := 6, ground := Ground.data }, { on := 2, ground := Ground.data }, { on := 5, ground := Ground.chain }, { on := 0, ground := Ground.phase }, { on := 1, ground := Ground.phase }, { on := 2, ground := Ground.phase }, { on := 3, ground := Ground.textOnly Departure.lateStores }, { on := 4, ground := Ground.textOnly Departure.lateStoresUnsure }, { on := 5, ground := Ground.textOnly Departure.lateStoresUnsure }], guard := none }) rfl (fun K hK => ?_) (AllReadyH.nil)
  go_simp
  refine hK.out _ _ ((Only.drew _ _).trans (Only.setCell (S := fun k => k = w.heap.size + 1 + 1) _ _ _ rfl) (fun _ _ h => h)) (fun hHeld => ?_)
  clear hK K
  try simp only [Act.put, List.setIfInBounds_toArray, List.set_cons_zero, List.set_cons_succ]
  refine wpAnyH_take (i := 8) (oi := { dst := some 30, op := Op.fieldAddr 57 (Operand.tmp 5) 1, type := 0, pos := "tuple.go:45", after := #[{ on := 0, ground := Ground.phase }, { on := 1, ground := Ground.phase }, { on := 2, ground := Ground.phase }, { on := 3, ground := Ground.phase }, { on := 4, ground := Ground.phase }, { on := 5, ground := Ground.phase }, { on := 6, ground := Ground.phase }, { on := 7, ground := Ground.phase }], guard := none }) (v := .pointer (some ⟨w.heap.size + 1 + 1, 1, none⟩)) rfl (by kernel_rfl) (by kernel_rfl) (by kernel_rfl) (fun _ _ _ h => h) (Or.inl ⟨by rfl, fun w' hSw => by clear hSw; go_simp⟩) (by assumption) ?_
  simp only [Act.put, List.setIfInBounds_toArray, List.set_cons_zero, List.set_cons_succ]
  refine wpAnyH_ready (rs := [9]) (by kernel_rfl) (by simp) ?_
  refine AllReadyH.cons (o := { dst := none, op := Op.store 3 (Operand.tmp 30) (Operand.tmp 28), type := 0, pos := "tuple.go:45", after := #[{ on := 8, ground := Ground.data }, { on := 5, ground := Ground.data }, { on := 7, ground := Ground.chain }, { on := 0, ground := Ground.phase }, { on := 1, ground := Ground.phase }, { on := 2, ground := Ground.phase }, { on := 3, ground := Ground.phase }, { on := 4, ground := Ground.phase }, { on := 5, ground := Ground.phase }, { on := 6, ground := Ground.phase }, { on := 7, ground := Ground.phase }], guard := none }) rfl (fun K hK => ?_) (AllReadyH.nil)
  go_simp
  refine hK.out _ _ (((Only.drew _ _).trans (Only.setCell (S := fun k => k = w.heap.size + 1 + 1) _ _ _ rfl) (fun _ _ h => h)).trans (Only.setCell (S := fun k => k = w.heap.size + 1 + 1) _ _ _ rfl) (fun _ _ h => h)) (fun hHeld => ?_)
  clear hK K
  try simp only [Act.put, List.setIfInBounds_toArray, List.set_cons_zero, List.set_cons_succ]
  refine wpAnyH_done (by kernel_rfl) ?_ _
  refine NoPanic.normal ?_
  rw [Exit.then]
  have H1 := hide ((H0.out.set 0 _ (H0.out.tb.s0 q1)).set 1 _ ((H0.out.tb.s0 q1).s1 q2)).drew
  clear c0 f0 c1 f1 hHeld
  obtain ⟨W1, hW1⟩ : ∃ x, ((W0.setCell ⟨w.heap.size + 1 + 1, 0, none⟩ (.int .i64 q1)).setCell ⟨w.heap.size + 1 + 1, 1, none⟩ (.int .i64 q2)).drew = x := ⟨_, rfl⟩
  rw [hW1] at H1 ⊢
  clear hW1
  go_wp2_with fail
  refine (rtext_st _ _ D 0 24 H1.out.rd).mono ?_
  rintro e W2 ⟨rfl, hr2, ho2⟩
  rw [HP.out] at hr2 ⊢
  rw [HK1.out]
  have H2 := hide (H1.out.text hr2 ho2)
  clear hr2 ho2
  have c3 := H2.out.tb.c3
  have f3 := H2.out.tb.f3
  go_wp2_with fail
  have H3 := hide (H2.out.set 3 _ (H2.out.tb.s3 K1))
  clear c3 f3
  refine (rtext_st _ _ (str P.2.1) P.2.2 64 H3.out.rd).mono ?_
  rintro e W4 ⟨rfl, hr4, ho4⟩
  rw [bl_str, HR.out] at hr4 ⊢
  rw [HV1.out]
  have H4 := hide (H3.out.text hr4 ho4)
  clear hr4 ho4
  have c4 := H4.out.tb.c4
  have f4 := H4.out.tb.f4
  go_wp2_with fail
  have H5 := hide (H4.out.set 4 _ (H4.out.tb.s4 V1))
  clear c4 f4
  obtain ⟨W5, hW5⟩ : ∃ x, W4.setCell ⟨w.heap.size + 1 + 1, 4, none⟩ (.string V1) = x := ⟨_, rfl⟩
  rw [hW5] at H5 ⊢
  clear hW5
  refine (rend_st _ _ (str R.2.1) R.2.2 H5.out.rd).mono ?_
  rintro e W6 ⟨rfl, rfl⟩
  rw [bl_str, HE.out]
  have c0 := H5.out.tb.c0
  have c1 := H5.out.tb.c1
  have c2 := H5.out.tb.c2
  have c3 := H5.out.tb.c3
  have c4 := H5.out.tb.c4
  have HQ : Hid (∀ W', Only (fun _ => False) W6 W' → Tb W' w.heap.size noT) := fun W' hW' => H5.out.res.more hW'
  simp only at c0 c1 c2 c3 c4
  by_cases he : E = 0
  · subst he
    have HDX : Hid (decT (bl s) = if O = true then some ⟨q1, q2, fz, K1, V1⟩ else none) := by unfold Hid; rw [HDE.out]; simp
    go_wp2_with fail
    refine (HOK.out _).mono ?_
    rintro e W7 ⟨rfl, ho7⟩
    have H7 := hide (H5.out.more ho7)
    clear ho7
    have r0 := H7.out.res.c0
    have r1 := H7.out.res.c1
    have r2 := H7.out.res.c2
    have r3 := H7.out.res.c3
    have r4 := H7.out.res.c4
    have g0 := H7.out.res.f0
    have g1 := H7.out.res.f1
    have g2 := H7.out.res.f2
    have g3 := H7.out.res.f3
    have g4 := H7.out.res.f4
    clear c0 c1 c2 c3 c4
    have c0 := H7.out.tb.c0
    have c1 := H7.out.tb.c1
    have c2 := H7.out.tb.c2
    have c3 := H7.out.tb.c3
    have c4 := H7.out.tb.c4
    simp only at c0 c1 c2 c3 c4
    cases O
    · go_wp2_with fail
      refine bodyPost_ret (results_tub rfl rfl (H7.out.res.all noT)) rfl ?_
      exact ⟨by rw [HDX.out]; rfl, H7.out.only.trans (Only.fiveU _ _ _ _ _ _ _) (fun i hi e => by omega)⟩
    · go_wp2_with fail
      refine bodyPost_ret (results_tub rfl rfl (H7.out.res.all ⟨q1, q2, fz, K1, V1⟩)) rfl ?_
      exact ⟨by rw [HDX.out]; rfl, H7.out.only.trans (Only.fiveU _ _ _ _ _ _ _) (fun i hi e => by omega)⟩
  · have he' : (E != 0) = true := by simpa using he
    have HDX : Hid (decT (bl s) = none) := by unfold Hid; rw [HDE.out, if_neg (fun h => he h.1)]
    clear he c0 c1 c2 c3 c4
    have r0 := H5.out.res.c0
    have r1 := H5.out.res.c1
    have r2 := H5.out.res.c2
    have r3 := H5.out.res.c3
    have r4 := H5.out.res.c4
    have g0 := H5.out.res.f0
    have g1 := H5.out.res.f1
    have g2 := H5.out.res.f2
    have g3 := H5.out.res.f3
    have g4 := H5.out.res.f4
    go_wp2_with fail
    refine bodyPost_ret (results_tub rfl rfl (H5.out.res.all noT)) rfl ?_
    exact ⟨by rw [HDX.out]; rfl, H5.out.only.trans (Only.fiveU _ _ _ _ _ _ _) (fun i hi e => by omega)⟩
theorem udecode_any (s : ByteArray) (w : World) :
    Calls Try.prog 22 #[.string s] w fun e w' => e = .returned (outT (decT (bl s))) ∧ Only (fun _ => False) w w' := by
  cases h : headed (bl s)
  · have e : decT (bl s) = none := by unfold decT goodT; rw [h]; rfl
    rw [e]
    exact udecode_head s w h
  · exact udecode_good s w h
end Go.Proofs.Ytpnbhddmdfcjdaa
