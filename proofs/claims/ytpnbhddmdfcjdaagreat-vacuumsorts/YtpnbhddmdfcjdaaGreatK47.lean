/- Parts. -/
import Derived.Test.YtpnbhddmdfcjdaaGreatK40
set_option maxRecDepth 100000
namespace Go.Proofs.YtpnbhddmdfcjdaaGreat
open Go.RowKit
/-- The document's reader in block x: what is left, what is wrong. -/
def Xs (W : World) (x : Nat) (D : ByteArray) (l : List UInt8) (y : Int) : Prop := ∃ p : Nat, XR W x D p y ∧ (y = 0 → p ≤ D.size ∧ (bl D).drop p = l)
theorem Xs.kept {S : Nat → Prop} {w w' : World} {x : Nat} {D : ByteArray} {l : List UInt8} {y : Int} (h : Xs w x D l y) (ho : Only S w w') (hS : ¬ S x) : Xs w' x D l y := by
  obtain ⟨p, h1, h2⟩ := h
  exact ⟨p, h1.kept ho hS, h2⟩
theorem Xs.more {w w' : World} {x : Nat} {D : ByteArray} {l : List UInt8} {y : Int} (h : Xs w x D l y) (ho : Only (fun _ => False) w w') : Xs w' x D l y := h.kept ho (fun h => h)
theorem Xs.new (w : World) (D : ByteArray) : Xs (w.alloc (.cells #[.string D, .int .i64 0, .int .i64 0] 111)) w.heap.size D (bl D) 0 := ⟨0, XR.new w D, fun _ => ⟨Nat.zero_le _, rfl⟩⟩
theorem xtext_st (w : World) (x : Nat) (D : ByteArray) (l : List UInt8) (y z : Int) (h : Xs w x D l y) (hs : D.size ≤ maxLen - 100) :
    Calls Tryz.prog 62 #[.pointer (some ⟨x, 0, none⟩), .int .i64 z] w fun e w' => e = .returned (.string (str (stx z l y).1)) ∧ Xs w' x D (stx z l y).2.1 (stx z l y).2.2 ∧ Only (fun k => k = x) w w' := by
  obtain ⟨p, h1, h2⟩ := h
  unfold stx
  by_cases hy : y = 0
  · subst hy
    obtain ⟨hp, hl⟩ := h2 rfl
    rw [if_pos rfl]
    refine (xtext_any w x D p z h1 hp hs).mono ?_
    rintro e w' ⟨he, hx⟩
    rw [show D.data.toList.drop p = l from hl] at he hx
    obtain ⟨p', a1, a2, a3⟩ := hx
    exact ⟨he, ⟨p', a1, a2⟩, a3⟩
  · rw [if_neg hy]
    refine (xtext_err w x D p y z h1 (by simpa using hy) (by simpa using hy)).mono ?_
    rintro e w' ⟨he, ho⟩
    exact ⟨he, ⟨p, h1.kept ho (fun h => h), fun e => absurd e hy⟩, ho.mono (fun _ _ h => h.elim)⟩
theorem xend_st (w : World) (x : Nat) (D : ByteArray) (l : List UInt8) (y : Int) (h : Xs w x D l y) :
    Calls Tryz.prog 64 #[.pointer (some ⟨x, 0, none⟩)] w fun e w' => e = .returned (.int .i64 (endE l y)) ∧ Only (fun _ => False) w w' := by
  obtain ⟨p, h1, h2⟩ := h
  unfold endE
  by_cases hy : y = 0
  · subst hy
    obtain ⟨hp, hl⟩ := h2 rfl
    rw [if_pos rfl]
    refine (xend_ok w x D p h1 hp).mono ?_
    rintro e w' ⟨he, rfl⟩
    have e1 : l.length = D.size - p := by rw [← hl, List.length_drop, bl_len]
    rw [e1]
    exact ⟨he, Only.drew _ _⟩
  · rw [if_neg hy]
    refine (xend_err w x D p y h1 (by simpa using hy)).mono ?_
    rintro e w' ⟨he, rfl⟩
    exact ⟨he, Only.drew _ _⟩
theorem rof_two (s : ByteArray) (i : Nat) (h : i + 2 ≤ s.size) (w : World) : Calls Tryz.prog 61 #[.string (s.extract i (i + 2))] w fun e w' => e = .returned (.int .i64 (ofTo (((bl s).drop i).take 2))) ∧ w' = w := by
  have hl := bl_len s
  have e1 : (s.extract i (i + 2)).data.toList = ((bl s).drop i).take 2 := by
    have := ext_blU s i (i + 2)
    rwa [show i + 2 - i = 2 by omega] at this
  have l2 : (((bl s).drop i).take 2).length = 2 := by simp; omega
  have hb := ofTo_small (((bl s).drop i).take 2) (by omega)
  rw [l2] at hb
  have hz : (s.extract i (i + 2)).size = 2 := by rw [← bl_len]; exact (congrArg List.length e1).trans l2
  have := refOf_any (s.extract i (i + 2)) w (by rw [hz]; decide)
  rw [e1, Int.emod_eq_of_lt hb.1 (by omega)] at this
  exact this
theorem get_first (s : ByteArray) (h : 0 < s.size) : ∃ a r, bl s = a :: r ∧ s[0] = a := by
  obtain ⟨⟨l⟩⟩ := s
  match l, h with
  | a :: r, _ => exact ⟨a, r, rfl, rfl⟩
theorem u8_ne {a b : UInt8} (h : ¬ a = b) : ¬ (a.toNat : Int) = (b.toNat : Int) := fun e => h (UInt8.toNat_inj.1 (by omega))
set_option maxRecDepth 100000 in
set_option maxHeartbeats 1600000 in
theorem tdecode_head (s : ByteArray) (w : World) (h : headed (bl s) = false) :
    Calls Tryz.prog 31 #[.string s] w fun e w' => e = .returned (outT none) ∧ Only (fun _ => False) w w' := by
  have HB := hide (Tb.new w noT)
  have HO := hide (onlyA w (.cells #[.int .i64 0, .int .i64 0, .bool false, .string ⟨#[]⟩, .string ⟨#[]⟩] 62))
  have hl := bl_len s
  by_cases h5 : 5 ≤ s.size
  · have hz : 0 < s.size := by omega
    obtain ⟨a, r, h1, h2⟩ := get_first s hz
    have hm : ¬ a = 1 ∧ ¬ a = 3 := by
      unfold headed marked at h
      rw [h1] at h hl
      simp only [List.length_cons] at hl h
      rw [decide_eq_true (by omega)] at h
      simpa using h
    have t5 : ¬ (s.size : Int) < 5 := by omega
    have n1 : ((s[0].toNat : Int) != 1) = true := by rw [h2]; simpa using u8_ne hm.1
    have n3 : ((s[0].toNat : Int) != 3) = true := by rw [h2]; simpa using u8_ne hm.2
    clear h hl h1 h2 hm h5
    go_enter Tryz.func31, Tryz.ntmps31
    go_wp2_with fail
    refine bodyPost_ret (results_tub rfl rfl HB.out) rfl ?_
    exact ⟨rfl, HO.out⟩
  · have t5 : (s.size : Int) < 5 := by omega
    clear h hl h5
    go_enter Tryz.func31, Tryz.ntmps31
    go_wp2_with fail
    refine bodyPost_ret (results_tub rfl rfl HB.out) rfl ?_
    exact ⟨rfl, HO.out⟩
/-- The variables of the document's Decode. -/
structure Est (w W : World) (D : ByteArray) (l : List UInt8) (y : Int) (t : Tu) : Prop where
  res : Tb W w.heap.size noT
  rd : Xs W (w.heap.size + 1) D l y
  tb : Tb W (w.heap.size + 1 + 1) t
  only : Only (fun _ => False) w W
theorem Est.set {w W : World} {D : ByteArray} {l : List UInt8} {x : Int} {t t' : Tu} (h : Est w W D l x t) (i : Nat) (v : Value) (ht : Tb (W.setCell ⟨w.heap.size + 1 + 1, i, none⟩ v) (w.heap.size + 1 + 1) t') : Est w (W.setCell ⟨w.heap.size + 1 + 1, i, none⟩ v) D l x t' := by
  have ho : Only (fun k => k = w.heap.size + 1 + 1) W (W.setCell ⟨w.heap.size + 1 + 1, i, none⟩ v) := Only.setCell W _ v rfl
  exact ⟨h.res.kept ho (by omega), h.rd.kept ho (by omega), ht, h.only.trans ho (fun j hj e => by omega)⟩
theorem Est.text {w W W' : World} {D : ByteArray} {l l' : List UInt8} {x x' : Int} {t : Tu} (h : Est w W D l x t) (hr : Xs W' (w.heap.size + 1) D l' x') (ho : Only (fun k => k = w.heap.size + 1) W W') : Est w W' D l' x' t :=
  ⟨h.res.kept ho (by omega), hr, h.tb.kept ho (by omega), h.only.trans ho (fun j hj e => by omega)⟩
theorem Est.more {w W W' : World} {D : ByteArray} {l : List UInt8} {x : Int} {t : Tu} (h : Est w W D l x t) (ho : Only (fun _ => False) W W') : Est w W' D l x t :=
  ⟨h.res.more ho, h.rd.more ho, h.tb.more ho, o2 h.only ho⟩
/-- Ahead of the version. -/
structure Est0 (w W : World) (D : ByteArray) : Prop where
  res : Tb W w.heap.size noT
  rd : Xs W (w.heap.size + 1) D (bl D) 0
  size : W.heap.size = w.heap.size + 1 + 1
  only : Only (fun _ => False) w W
theorem Est0.new (w : World) (D : ByteArray) : Est0 w ((w.alloc (.cells #[.int .i64 0, .int .i64 0, .bool false, .string ⟨#[]⟩, .string ⟨#[]⟩] 62)).alloc (.cells #[.string D, .int .i64 0, .int .i64 0] 111)) D := by
  refine ⟨(Tb.new w noT).more (onlyA _ _), ?_, by simp, o2 (onlyA _ _) (onlyA _ _)⟩
  have := Xs.new (w.alloc (.cells #[.int .i64 0, .int .i64 0, .bool false, .string ⟨#[]⟩, .string ⟨#[]⟩] 62)) D
  rw [World.size_alloc] at this
  exact this
theorem Est0.tup {w W : World} {D : ByteArray} (h : Est0 w W D) (t : Tu) : Est w (W.alloc (.cells #[.int .i64 t.xmin, .int .i64 t.xmax, .bool t.frozen, .string t.key, .string t.value] 62)).drew D (bl D) 0 t := by
  refine ⟨(h.res.more (onlyA _ _)).more (Only.drew _ _), (h.rd.more (onlyA _ _)).more (Only.drew _ _), ?_, o2 (o2 h.only (onlyA _ _)) (Only.drew _ _)⟩
  have := Tb.new W t
  rw [h.size] at this
  exact this.more (Only.drew _ _)
set_option maxRecDepth 100000 in
set_option maxHeartbeats 3200000 in
theorem tdecode_good (s : ByteArray) (w : World) (h : headed (bl s) = true) (hz : s.size ≤ 140737488355328) :
    Calls Tryz.prog 31 #[.string s] w fun e w' => e = .returned (outT (decT (bl s))) ∧ Only (fun _ => False) w w' := by
  have hl := bl_len s
  have h' := h
  unfold headed marked at h'
  simp only [Bool.and_eq_true, decide_eq_true_eq] at h'
  obtain ⟨h5, hm0⟩ := h'
  have hz0 : 0 < s.size := by omega
  obtain ⟨a, r, h1, h2⟩ := get_first s hz0
  have t5 : ¬ (s.size : Int) < 5 := by omega
  have t5' : (5 : Int) ≤ (s.size : Int) := by omega
  have t3 : (3 : Int) ≤ (s.size : Int) := by omega
  have hnn : ((s[0].toNat : Int) != 1) = false ∨ (((s[0].toNat : Int) != 1) = true ∧ ((s[0].toNat : Int) != 3) = false) := by
    rw [h1] at hm0
    rw [h2]
    by_cases e : a = 1
    · subst e
      exact .inl rfl
    · have e3 : a = 3 := by simpa [e] using hm0
      subst e3
      exact .inr ⟨rfl, rfl⟩
  obtain ⟨D, hD⟩ : ∃ D, s.extract 5 s.size = D := ⟨_, rfl⟩
  have bD : bl D = (bl s).drop 5 := by rw [← hD, ext_blU]; exact List.take_of_length_le (by simp)
  have HSZ : Hid (D.size ≤ maxLen - 100) := by
    have e := bl_len D
    rw [bD, List.length_drop] at e
    unfold Hid maxLen
    omega
  obtain ⟨fz, efz⟩ : ∃ f, ((bl s).head? == some 3) = f := ⟨_, rfl⟩
  have hfz : ((s[0].toNat : Int) == 3) = fz := by
    rw [← efz, h1, h2]
    by_cases e : a = 3
    · subst e; rfl
    · rw [show ((a.toNat : Int) == 3) = false from beq_false_of_ne (u8_ne e)]
      simpa using e
  obtain ⟨q1, hq1⟩ : ∃ q, ofTo (((bl s).drop 1).take 2) = q := ⟨_, rfl⟩
  obtain ⟨q2, hq2⟩ : ∃ q, ofTo (((bl s).drop 3).take 2) = q := ⟨_, rfl⟩
  have bq : (0 ≤ q1 ∧ q1 < 65536) ∧ (0 ≤ q2 ∧ q2 < 65536) := by
    have e1 := ofTo_small (((bl s).drop 1).take 2) (by simp; omega)
    have e2 := ofTo_small (((bl s).drop 3).take 2) (by simp; omega)
    have l1 : (((bl s).drop 1).take 2).length = 2 := by simp; omega
    have l2 : (((bl s).drop 3).take 2).length = 2 := by simp; omega
    rw [l1, hq1] at e1
    rw [l2, hq2] at e2
    omega
  have HOF1 : Hid (∀ W, Calls Tryz.prog 61 #[.string (s.extract 1 3)] W fun e w' => e = .returned (.int .i64 q1) ∧ w' = W) := fun W => by
    rw [← hq1]
    exact rof_two s 1 (by omega) W
  have HOF2 : Hid (∀ W, Calls Tryz.prog 61 #[.string (s.extract 3 5)] W fun e w' => e = .returned (.int .i64 q2) ∧ w' = W) := fun W => by
    rw [← hq2]
    exact rof_two s 3 (by omega) W
  obtain ⟨A1, hA1⟩ : ∃ A, s.extract 1 3 = A := ⟨_, rfl⟩
  obtain ⟨A2, hA2⟩ : ∃ A, s.extract 3 5 = A := ⟨_, rfl⟩
  rw [hA1] at HOF1
  rw [hA2] at HOF2
  obtain ⟨P, hP⟩ : ∃ P, stx 24 (bl D) 0 = P := ⟨_, rfl⟩
  obtain ⟨R, hR⟩ : ∃ R, stx 64 P.2.1 P.2.2 = R := ⟨_, rfl⟩
  have HRAW : Hid (rawT (bl s) = ⟨q1, q2, fz, str P.1, str R.1⟩ ∧ endT ((bl s).drop 5) = endE R.2.1 R.2.2) := by
    have e0 : rdT 24 ((bl s).drop 5) = P := by rw [← hP, bD]; rfl
    have e1 := rdTT_stx ((bl s).drop 5)
    rw [e0, hR] at e1
    unfold rawT endT
    rw [e1, hq1, hq2, efz]
    exact ⟨rfl, rfl⟩
  have HP : Hid (stx 24 (bl D) 0 = P) := hP
  have HR : Hid (stx 64 P.2.1 P.2.2 = R) := hR
  have HD := hide hD
  obtain ⟨K1, hK1⟩ : ∃ k, str P.1 = k := ⟨_, rfl⟩
  obtain ⟨V1, hV1⟩ : ∃ k, str R.1 = k := ⟨_, rfl⟩
  rw [hK1, hV1] at HRAW
  have HK1 := hide hK1
  have HV1 := hide hV1
  obtain ⟨E, hE⟩ : ∃ E, endE R.2.1 R.2.2 = E := ⟨_, rfl⟩
  rw [hE] at HRAW
  have HE := hide hE
  obtain ⟨O, hO⟩ : ∃ O, Tu.ok ⟨q1, q2, fz, K1, V1⟩ = O := ⟨_, rfl⟩
  have HDE : Hid (decT (bl s) = if E = 0 ∧ O = true then some ⟨q1, q2, fz, K1, V1⟩ else none) := by
    unfold Hid decT goodT
    rw [HRAW.out.1, HRAW.out.2, h, hO]
    by_cases e1 : E = 0 <;> cases O <;> simp [e1]
  obtain ⟨S2, hS2⟩ : ∃ S, str (Tu.out ⟨q1, q2, fz, K1, V1⟩) = S := ⟨_, rfl⟩
  obtain ⟨X2, hX2⟩ : ∃ X, Tu.err ⟨q1, q2, fz, K1, V1⟩ = X := ⟨_, rfl⟩
  have HEN := hide (ret_tenc ⟨q1, q2, fz, K1, V1⟩ ⟨by simp only; omega, by simp only; omega⟩ ⟨by simp only; omega, by simp only; omega⟩)
  rw [hS2, hX2] at HEN
  have HSX : Hid (E = 0 → O = true → S2 = s) := fun e1 e2 => by
    have hd := HDE.out
    rw [if_pos ⟨e1, e2⟩] at hd
    have he := (enc_decT hd).2.1
    rw [← hS2]
    unfold Tu.out
    rw [hO, e2, if_pos rfl, he, str_bl]
  have HXX : Hid (X2 = if O then 0 else 110) := by
    unfold Hid
    rw [← hX2]
    unfold Tu.err
    rw [hO]
  simp only at HEN
  clear h1 h2 hm0 efz hD bD h hl hP hR hK1 hV1 hE hO hq1 hq2 h5 bq HRAW hz hS2 hX2
  go_enter Tryz.func31, Tryz.ntmps31
  rcases hnn with n1 | ⟨n1, n3⟩
  all_goals
    go_upto_region 4 with fail
    rw [HD.out]
    have HT := hide (Est0.new w D)
    obtain ⟨W0, hW0⟩ : ∃ x, (w.alloc (.cells #[.int .i64 0, .int .i64 0, .bool false, .string ⟨#[]⟩, .string ⟨#[]⟩] 62)).alloc (.cells #[.string D, .int .i64 0, .int .i64 0] 111) = x := ⟨_, rfl⟩
    rw [hW0] at HT ⊢
    clear hW0
    have hws := HT.out.size
    refine wp_region_noPanic ?_
    refine wp_region_held_drew (S := fun W => Only (fun _ => False) W0 W) (by kernel_rfl) (Only.drew _ _) (fun hHeld => ?_)
    refine wpAnyH_take (i := 0) (oi := { dst := some 26, op := Op.move (Operand.tmp 0), type := 9, pos := "ref.go:30", after := #[], guard := none }) (v := .string s) rfl (by kernel_rfl) (by kernel_rfl) (by kernel_rfl) (fun _ _ _ h => h) (Or.inl ⟨by rfl, fun w' hSw => by clear hSw; go_simp⟩) (by assumption) ?_
    simp only [Act.put, List.setIfInBounds_toArray, List.set_cons_zero, List.set_cons_succ]
    refine wpAnyH_take (i := 3) (oi := { dst := some 29, op := Op.move (Operand.tmp 0), type := 9, pos := "ref.go:30", after := #[], guard := none }) (v := .string s) rfl (by kernel_rfl) (by kernel_rfl) (by kernel_rfl) (fun _ _ _ h => h) (Or.inl ⟨by rfl, fun w' hSw => by clear hSw; go_simp⟩) (by assumption) ?_
    simp only [Act.put, List.setIfInBounds_toArray, List.set_cons_zero, List.set_cons_succ]
    refine wpAnyH_take (i := 6) (oi := { dst := some 32, op := Op.move (Operand.tmp 0), type := 9, pos := "ref.go:30", after := #[], guard := none }) (v := .string s) rfl (by kernel_rfl) (by kernel_rfl) (by kernel_rfl) (fun _ _ _ h => h) (Or.inl ⟨by rfl, fun w' hSw => by clear hSw; go_simp⟩) (by assumption) ?_
    simp only [Act.put, List.setIfInBounds_toArray, List.set_cons_zero, List.set_cons_succ]
    refine wpAnyH_take (i := 1) (oi := { dst := some 27, op := Op.index 9 (Operand.tmp 26) (Operand.const (Value.int IntKind.i64 0)), type := 5, pos := "ref.go:30", after := #[{ on := 0, ground := Ground.data }], guard := none }) (v := .int .u8 (s[0].toNat : Int)) rfl (by kernel_rfl) (by kernel_rfl) (by kernel_rfl) (fun _ _ _ h => h) (Or.inl ⟨by rfl, fun w' hSw => by clear hSw; go_simp⟩) (by assumption) ?_
    simp only [Act.put, List.setIfInBounds_toArray, List.set_cons_zero, List.set_cons_succ]
    refine wpAnyH_take (i := 4) (oi := { dst := some 30, op := Op.slice 9 (Operand.tmp 29) (some (Operand.const (Value.int IntKind.i64 1))) (some (Operand.const (Value.int IntKind.i64 3))) none, type := 9, pos := "ref.go:30", after := #[{ on := 3, ground := Ground.data }], guard := none }) (v := .string A1) rfl (by kernel_rfl) (by kernel_rfl) (by kernel_rfl) (fun _ _ _ h => h) (Or.inl ⟨by rfl, fun w' hSw => by clear hSw; go_simp⟩) (by assumption) ?_
    simp only [Act.put, List.setIfInBounds_toArray, List.set_cons_zero, List.set_cons_succ]
    refine wpAnyH_take (i := 7) (oi := { dst := some 33, op := Op.slice 9 (Operand.tmp 32) (some (Operand.const (Value.int IntKind.i64 3))) (some (Operand.const (Value.int IntKind.i64 5))) none, type := 9, pos := "ref.go:30", after := #[{ on := 6, ground := Ground.data }], guard := none }) (v := .string A2) rfl (by kernel_rfl) (by kernel_rfl) (by kernel_rfl) (fun _ _ _ h => h) (Or.inl ⟨by rfl, fun w' hSw => by clear hSw; go_simp⟩) (by assumption) ?_
    simp only [Act.put, List.setIfInBounds_toArray, List.set_cons_zero, List.set_cons_succ]
    refine wpAnyH_take (i := 2) (oi := { dst := some 28, op := Op.binOp BinOp.eql 5 (Operand.tmp 27) (Operand.const (Value.int IntKind.u8 3)) 5, type := 4, pos := "ref.go:30", after := #[{ on := 1, ground := Ground.data }], guard := none }) (v := .bool fz) rfl (by kernel_rfl) (by kernel_rfl) (by kernel_rfl) (fun _ _ _ h => h) (Or.inl ⟨by rfl, fun w' hSw => by clear hSw; go_simp⟩) (by assumption) ?_
    simp only [Act.put, List.setIfInBounds_toArray, List.set_cons_zero, List.set_cons_succ]
    refine wpAnyH_ready (rs := [5, 10]) (by kernel_rfl) (by simp) ?_
    refine AllReadyH.cons (o := { dst := some 31, op := Op.call { callee := Callee.value (Operand.func 61), args := #[Operand.tmp 30], argTypes := #[9] }, type := 3, pos := "ref.go:30", after := #[{ on := 4, ground := Ground.data }], guard := none }) rfl (fun K hK => ?_) (AllReadyH.cons (o := { dst := some 5, op := Op.alloc 62, type := 0, pos := "ref.go:30", after := #[], guard := none }) rfl (fun K hK => ?_) (AllReadyH.nil))
    · go_simp
      refine (HOF1.out _).mono ?_
      rintro e _ ⟨rfl, rfl⟩
      refine hK.out _ _ (Only.drew _ _) (fun hHeld => ?_)
      clear hK K
      try simp only [Act.put, List.setIfInBounds_toArray, List.set_cons_zero, List.set_cons_succ]
      refine wpAnyH_ready (rs := [8, 10]) (by kernel_rfl) (by simp) ?_
      refine AllReadyH.cons (o := { dst := some 34, op := Op.call { callee := Callee.value (Operand.func 61), args := #[Operand.tmp 33], argTypes := #[9] }, type := 3, pos := "ref.go:30", after := #[{ on := 7, ground := Ground.data }, { on := 5, ground := Ground.chain }], guard := none }) rfl (fun K hK => ?_) (AllReadyH.cons (o := { dst := some 5, op := Op.alloc 62, type := 0, pos := "ref.go:30", after := #[], guard := none }) rfl (fun K hK => ?_) (AllReadyH.nil))
      · go_simp
        refine (HOF2.out _).mono ?_
        rintro e _ ⟨rfl, rfl⟩
        refine hK.out _ _ (Only.drew _ _) (fun hHeld => ?_)
        clear hK K
        try simp only [Act.put, List.setIfInBounds_toArray, List.set_cons_zero, List.set_cons_succ]
        refine wpAnyH_take (i := 9) (oi := { dst := some 35, op := Op.build 62 #[(2, Operand.tmp 28), (0, Operand.tmp 31), (1, Operand.tmp 34)], type := 62, pos := "ref.go:30", after := #[{ on := 2, ground := Ground.data }, { on := 5, ground := Ground.data }, { on := 8, ground := Ground.data }], guard := none }) (v := .agg #[.int .i64 q1, .int .i64 q2, .bool fz, .string ⟨#[]⟩, .string ⟨#[]⟩]) rfl (by kernel_rfl) (by kernel_rfl) (by kernel_rfl) (fun _ _ _ h => h) (Or.inl ⟨by rfl, fun w' hSw => by clear hSw; go_simp⟩) (by assumption) ?_
        simp only [Act.put, List.setIfInBounds_toArray, List.set_cons_zero, List.set_cons_succ]
        refine wpAnyH_ready (rs := [10]) (by kernel_rfl) (by simp) ?_
        refine AllReadyH.cons (o := { dst := some 5, op := Op.alloc 62, type := 0, pos := "ref.go:30", after := #[], guard := none }) rfl (fun K hK => ?_) (AllReadyH.nil)
        go_simp
        refine hK.out _ _ (o2 (Only.drew _ _) (onlyA _ _)) (fun hHeld => ?_)
        clear hK K
        try simp only [Act.put, List.setIfInBounds_toArray, List.set_cons_zero, List.set_cons_succ]
        refine wpAnyH_ready (rs := [11]) (by kernel_rfl) (by simp) ?_
        refine AllReadyH.cons (o := { dst := none, op := Op.store 62 (Operand.tmp 5) (Operand.tmp 35), type := 0, pos := "ref.go:30", after := #[{ on := 10, ground := Ground.data }, { on := 9, ground := Ground.data }, { on := 8, ground := Ground.chain }, { on := 0, ground := Ground.phase }, { on := 1, ground := Ground.phase }, { on := 2, ground := Ground.phase }, { on := 3, ground := Ground.phase }, { on := 4, ground := Ground.phase }, { on := 5, ground := Ground.phase }, { on := 6, ground := Ground.phase }, { on := 7, ground := Ground.phase }, { on := 8, ground := Ground.phase }, { on := 9, ground := Ground.phase }, { on := 10, ground := Ground.phase }], guard := none }) rfl (fun K hK => ?_) (AllReadyH.nil)
        go_simp
        refine hK.out _ _ (o2 (Only.drew _ _) (onlyA _ _)) (fun hHeld => ?_)
        clear hK K
        try simp only [Act.put, List.setIfInBounds_toArray, List.set_cons_zero, List.set_cons_succ]
        refine wpAnyH_done (by kernel_rfl) ?_ _
        refine NoPanic.normal ?_
        rw [Exit.then]
        have H1 := hide (HT.out.tup ⟨q1, q2, fz, ⟨#[]⟩, ⟨#[]⟩⟩)
        simp only at H1
        clear hHeld
        obtain ⟨W1, hW1⟩ : ∃ x, (W0.alloc (.cells #[.int .i64 q1, .int .i64 q2, .bool fz, .string ⟨#[]⟩, .string ⟨#[]⟩] 62)).drew = x := ⟨_, rfl⟩
        rw [hW1] at H1 ⊢
        clear hW1
        go_wp2_with fail
        refine (xtext_st _ _ D (bl D) 0 24 H1.out.rd HSZ.out).mono ?_
        rintro e W2 ⟨rfl, hr2, ho2⟩
        rw [HP.out] at hr2 ⊢
        rw [HK1.out]
        have H2 := hide (H1.out.text hr2 ho2)
        clear hr2 ho2
        have c3 := H2.out.tb.c3
        have f3 := H2.out.tb.f3
        go_wp2_with fail
        have H3 := hide (H2.out.set 3 _ (H2.out.tb.s3 K1))
        clear c3 f3
        refine (xtext_st _ _ D P.2.1 P.2.2 64 H3.out.rd HSZ.out).mono ?_
        rintro e W4 ⟨rfl, hr4, ho4⟩
        rw [HR.out] at hr4 ⊢
        rw [HV1.out]
        have H4 := hide (H3.out.text hr4 ho4)
        clear hr4 ho4
        have c0 := H4.out.tb.c0
        have c1 := H4.out.tb.c1
        have c2 := H4.out.tb.c2
        have c3 := H4.out.tb.c3
        have c4 := H4.out.tb.c4
        have f4 := H4.out.tb.f4
        simp only at c0 c1 c2 c3 c4
        go_wp2_with fail
        have H5 := hide (H4.out.set 4 _ (H4.out.tb.s4 V1))
        clear c0 c1 c2 c3 c4 f4
        refine (HEN.out _).mono ?_
        rintro e W6 ⟨rfl, ho6⟩
        have H6 := hide (H5.out.more ho6)
        clear ho6
        go_wp2_with fail
        refine (xend_st _ _ D R.2.1 R.2.2 H6.out.rd).mono ?_
        rintro e W7 ⟨rfl, ho7⟩
        rw [HE.out]
        have H7 := hide (H6.out.more ho7)
        clear ho7
        have r0 := H7.out.res.c0
        have r1 := H7.out.res.c1
        have r2 := H7.out.res.c2
        have r3 := H7.out.res.c3
        have r4 := H7.out.res.c4
        have g0 := H7.out.res.f0
        have g1 := H7.out.res.f1
        have g2 := H7.out.res.f2
        have g3 := H7.out.res.f3
        have g4 := H7.out.res.f4
        have c0 := H7.out.tb.c0
        have c1 := H7.out.tb.c1
        have c2 := H7.out.tb.c2
        have c3 := H7.out.tb.c3
        have c4 := H7.out.tb.c4
        simp only at c0 c1 c2 c3 c4
        by_cases he : E = 0
        · subst he
          have HX := HXX.out
          have HSX2 := HSX.out rfl
          have HDX : Hid (decT (bl s) = if O = true then some ⟨q1, q2, fz, K1, V1⟩ else none) := by unfold Hid; rw [HDE.out]; simp
          cases O
          · have hx : X2 = 110 := HX
            subst hx
            clear HX HSX2
            go_wp2_with fail
            refine bodyPost_ret (results_tub rfl rfl (H7.out.res.all noT)) rfl ?_
            exact ⟨by rw [HDX.out]; rfl, H7.out.only.trans (Only.fiveU _ _ _ _ _ _ _) (fun i hi e => by omega)⟩
          · have hx : X2 = 0 := HX
            have hs2 := HSX2 rfl
            subst hx hs2
            clear HX HSX2
            go_wp2_with fail
            refine bodyPost_ret (results_tub rfl rfl (H7.out.res.all ⟨q1, q2, fz, K1, V1⟩)) rfl ?_
            exact ⟨by rw [HDX.out]; rfl, H7.out.only.trans (Only.fiveU _ _ _ _ _ _ _) (fun i hi e => by omega)⟩
        · have he' : (E != 0) = true := by simpa using he
          have HDX : Hid (decT (bl s) = none) := by unfold Hid; rw [HDE.out, if_neg (fun h => he h.1)]
          clear he
          go_wp2_with fail
          refine bodyPost_ret (results_tub rfl rfl (H7.out.res.all noT)) rfl ?_
          exact ⟨by rw [HDX.out]; rfl, H7.out.only.trans (Only.fiveU _ _ _ _ _ _ _) (fun i hi e => by omega)⟩
      · go_simp
        refine hK.out _ _ (o2 (Only.drew _ _) (onlyA _ _)) (fun hHeld => ?_)
        clear hK K
        try simp only [Act.put, List.setIfInBounds_toArray, List.set_cons_zero, List.set_cons_succ]
        refine wpAnyH_ready (rs := [8]) (by kernel_rfl) (by simp) ?_
        refine AllReadyH.cons (o := { dst := some 34, op := Op.call { callee := Callee.value (Operand.func 61), args := #[Operand.tmp 33], argTypes := #[9] }, type := 3, pos := "ref.go:30", after := #[{ on := 7, ground := Ground.data }, { on := 5, ground := Ground.chain }], guard := none }) rfl (fun K hK => ?_) (AllReadyH.nil)
        go_simp
        refine (HOF2.out _).mono ?_
        rintro e _ ⟨rfl, rfl⟩
        refine hK.out _ _ ((o2 (Only.drew _ _) (onlyA _ _))) (fun hHeld => ?_)
        clear hK K
        try simp only [Act.put, List.setIfInBounds_toArray, List.set_cons_zero, List.set_cons_succ]
        refine wpAnyH_take (i := 9) (oi := { dst := some 35, op := Op.build 62 #[(2, Operand.tmp 28), (0, Operand.tmp 31), (1, Operand.tmp 34)], type := 62, pos := "ref.go:30", after := #[{ on := 2, ground := Ground.data }, { on := 5, ground := Ground.data }, { on := 8, ground := Ground.data }], guard := none }) (v := .agg #[.int .i64 q1, .int .i64 q2, .bool fz, .string ⟨#[]⟩, .string ⟨#[]⟩]) rfl (by kernel_rfl) (by kernel_rfl) (by kernel_rfl) (fun _ _ _ h => h) (Or.inl ⟨by rfl, fun w' hSw => by clear hSw; go_simp⟩) (by assumption) ?_
        simp only [Act.put, List.setIfInBounds_toArray, List.set_cons_zero, List.set_cons_succ]
        refine wpAnyH_ready (rs := [11]) (by kernel_rfl) (by simp) ?_
        refine AllReadyH.cons (o := { dst := none, op := Op.store 62 (Operand.tmp 5) (Operand.tmp 35), type := 0, pos := "ref.go:30", after := #[{ on := 10, ground := Ground.data }, { on := 9, ground := Ground.data }, { on := 8, ground := Ground.chain }, { on := 0, ground := Ground.phase }, { on := 1, ground := Ground.phase }, { on := 2, ground := Ground.phase }, { on := 3, ground := Ground.phase }, { on := 4, ground := Ground.phase }, { on := 5, ground := Ground.phase }, { on := 6, ground := Ground.phase }, { on := 7, ground := Ground.phase }, { on := 8, ground := Ground.phase }, { on := 9, ground := Ground.phase }, { on := 10, ground := Ground.phase }], guard := none }) rfl (fun K hK => ?_) (AllReadyH.nil)
        go_simp
        refine hK.out _ _ (o2 (Only.drew _ _) (onlyA _ _)) (fun hHeld => ?_)
        clear hK K
        try simp only [Act.put, List.setIfInBounds_toArray, List.set_cons_zero, List.set_cons_succ]
        refine wpAnyH_done (by kernel_rfl) ?_ _
        refine NoPanic.normal ?_
        rw [Exit.then]
        have H1 := hide (HT.out.tup ⟨q1, q2, fz, ⟨#[]⟩, ⟨#[]⟩⟩)
        simp only at H1
        clear hHeld
        obtain ⟨W1, hW1⟩ : ∃ x, (W0.alloc (.cells #[.int .i64 q1, .int .i64 q2, .bool fz, .string ⟨#[]⟩, .string ⟨#[]⟩] 62)).drew = x := ⟨_, rfl⟩
        rw [hW1] at H1 ⊢
        clear hW1
        go_wp2_with fail
        refine (xtext_st _ _ D (bl D) 0 24 H1.out.rd HSZ.out).mono ?_
        rintro e W2 ⟨rfl, hr2, ho2⟩
        rw [HP.out] at hr2 ⊢
        rw [HK1.out]
        have H2 := hide (H1.out.text hr2 ho2)
        clear hr2 ho2
        have c3 := H2.out.tb.c3
        have f3 := H2.out.tb.f3
        go_wp2_with fail
        have H3 := hide (H2.out.set 3 _ (H2.out.tb.s3 K1))
        clear c3 f3
        refine (xtext_st _ _ D P.2.1 P.2.2 64 H3.out.rd HSZ.out).mono ?_
        rintro e W4 ⟨rfl, hr4, ho4⟩
        rw [HR.out] at hr4 ⊢
        rw [HV1.out]
        have H4 := hide (H3.out.text hr4 ho4)
        clear hr4 ho4
        have c0 := H4.out.tb.c0
        have c1 := H4.out.tb.c1
        have c2 := H4.out.tb.c2
        have c3 := H4.out.tb.c3
        have c4 := H4.out.tb.c4
        have f4 := H4.out.tb.f4
        simp only at c0 c1 c2 c3 c4
        go_wp2_with fail
        have H5 := hide (H4.out.set 4 _ (H4.out.tb.s4 V1))
        clear c0 c1 c2 c3 c4 f4
        refine (HEN.out _).mono ?_
        rintro e W6 ⟨rfl, ho6⟩
        have H6 := hide (H5.out.more ho6)
        clear ho6
        go_wp2_with fail
        refine (xend_st _ _ D R.2.1 R.2.2 H6.out.rd).mono ?_
        rintro e W7 ⟨rfl, ho7⟩
        rw [HE.out]
        have H7 := hide (H6.out.more ho7)
        clear ho7
        have r0 := H7.out.res.c0
        have r1 := H7.out.res.c1
        have r2 := H7.out.res.c2
        have r3 := H7.out.res.c3
        have r4 := H7.out.res.c4
        have g0 := H7.out.res.f0
        have g1 := H7.out.res.f1
        have g2 := H7.out.res.f2
        have g3 := H7.out.res.f3
        have g4 := H7.out.res.f4
        have c0 := H7.out.tb.c0
        have c1 := H7.out.tb.c1
        have c2 := H7.out.tb.c2
        have c3 := H7.out.tb.c3
        have c4 := H7.out.tb.c4
        simp only at c0 c1 c2 c3 c4
        by_cases he : E = 0
        · subst he
          have HX := HXX.out
          have HSX2 := HSX.out rfl
          have HDX : Hid (decT (bl s) = if O = true then some ⟨q1, q2, fz, K1, V1⟩ else none) := by unfold Hid; rw [HDE.out]; simp
          cases O
          · have hx : X2 = 110 := HX
            subst hx
            clear HX HSX2
            go_wp2_with fail
            refine bodyPost_ret (results_tub rfl rfl (H7.out.res.all noT)) rfl ?_
            exact ⟨by rw [HDX.out]; rfl, H7.out.only.trans (Only.fiveU _ _ _ _ _ _ _) (fun i hi e => by omega)⟩
          · have hx : X2 = 0 := HX
            have hs2 := HSX2 rfl
            subst hx hs2
            clear HX HSX2
            go_wp2_with fail
            refine bodyPost_ret (results_tub rfl rfl (H7.out.res.all ⟨q1, q2, fz, K1, V1⟩)) rfl ?_
            exact ⟨by rw [HDX.out]; rfl, H7.out.only.trans (Only.fiveU _ _ _ _ _ _ _) (fun i hi e => by omega)⟩
        · have he' : (E != 0) = true := by simpa using he
          have HDX : Hid (decT (bl s) = none) := by unfold Hid; rw [HDE.out, if_neg (fun h => he h.1)]
          clear he
          go_wp2_with fail
          refine bodyPost_ret (results_tub rfl rfl (H7.out.res.all noT)) rfl ?_
          exact ⟨by rw [HDX.out]; rfl, H7.out.only.trans (Only.fiveU _ _ _ _ _ _ _) (fun i hi e => by omega)⟩
    · go_simp
      refine hK.out _ _ (o2 (Only.drew _ _) (onlyA _ _)) (fun hHeld => ?_)
      clear hK K
      try simp only [Act.put, List.setIfInBounds_toArray, List.set_cons_zero, List.set_cons_succ]
      refine wpAnyH_ready (rs := [5]) (by kernel_rfl) (by simp) ?_
      refine AllReadyH.cons (o := { dst := some 31, op := Op.call { callee := Callee.value (Operand.func 61), args := #[Operand.tmp 30], argTypes := #[9] }, type := 3, pos := "ref.go:30", after := #[{ on := 4, ground := Ground.data }], guard := none }) rfl (fun K hK => ?_) (AllReadyH.nil)
      go_simp
      refine (HOF1.out _).mono ?_
      rintro e _ ⟨rfl, rfl⟩
      refine hK.out _ _ ((o2 (Only.drew _ _) (onlyA _ _))) (fun hHeld => ?_)
      clear hK K
      try simp only [Act.put, List.setIfInBounds_toArray, List.set_cons_zero, List.set_cons_succ]
      refine wpAnyH_ready (rs := [8]) (by kernel_rfl) (by simp) ?_
      refine AllReadyH.cons (o := { dst := some 34, op := Op.call { callee := Callee.value (Operand.func 61), args := #[Operand.tmp 33], argTypes := #[9] }, type := 3, pos := "ref.go:30", after := #[{ on := 7, ground := Ground.data }, { on := 5, ground := Ground.chain }], guard := none }) rfl (fun K hK => ?_) (AllReadyH.nil)
      go_simp
      refine (HOF2.out _).mono ?_
      rintro e _ ⟨rfl, rfl⟩
      refine hK.out _ _ ((o2 (Only.drew _ _) (onlyA _ _))) (fun hHeld => ?_)
      clear hK K
      try simp only [Act.put, List.setIfInBounds_toArray, List.set_cons_zero, List.set_cons_succ]
      refine wpAnyH_take (i := 9) (oi := { dst := some 35, op := Op.build 62 #[(2, Operand.tmp 28), (0, Operand.tmp 31), (1, Operand.tmp 34)], type := 62, pos := "ref.go:30", after := #[{ on := 2, ground := Ground.data }, { on := 5, ground := Ground.data }, { on := 8, ground := Ground.data }], guard := none }) (v := .agg #[.int .i64 q1, .int .i64 q2, .bool fz, .string ⟨#[]⟩, .string ⟨#[]⟩]) rfl (by kernel_rfl) (by kernel_rfl) (by kernel_rfl) (fun _ _ _ h => h) (Or.inl ⟨by rfl, fun w' hSw => by clear hSw; go_simp⟩) (by assumption) ?_
      simp only [Act.put, List.setIfInBounds_toArray, List.set_cons_zero, List.set_cons_succ]
      refine wpAnyH_ready (rs := [11]) (by kernel_rfl) (by simp) ?_
      refine AllReadyH.cons (o := { dst := none, op := Op.store 62 (Operand.tmp 5) (Operand.tmp 35), type := 0, pos := "ref.go:30", after := #[{ on := 10, ground := Ground.data }, { on := 9, ground := Ground.data }, { on := 8, ground := Ground.chain }, { on := 0, ground := Ground.phase }, { on := 1, ground := Ground.phase }, { on := 2, ground := Ground.phase }, { on := 3, ground := Ground.phase }, { on := 4, ground := Ground.phase }, { on := 5, ground := Ground.phase }, { on := 6, ground := Ground.phase }, { on := 7, ground := Ground.phase }, { on := 8, ground := Ground.phase }, { on := 9, ground := Ground.phase }, { on := 10, ground := Ground.phase }], guard := none }) rfl (fun K hK => ?_) (AllReadyH.nil)
      go_simp
      refine hK.out _ _ (o2 (Only.drew _ _) (onlyA _ _)) (fun hHeld => ?_)
      clear hK K
      try simp only [Act.put, List.setIfInBounds_toArray, List.set_cons_zero, List.set_cons_succ]
      refine wpAnyH_done (by kernel_rfl) ?_ _
      refine NoPanic.normal ?_
      rw [Exit.then]
      have H1 := hide (HT.out.tup ⟨q1, q2, fz, ⟨#[]⟩, ⟨#[]⟩⟩)
      simp only at H1
      clear hHeld
      obtain ⟨W1, hW1⟩ : ∃ x, (W0.alloc (.cells #[.int .i64 q1, .int .i64 q2, .bool fz, .string ⟨#[]⟩, .string ⟨#[]⟩] 62)).drew = x := ⟨_, rfl⟩
      rw [hW1] at H1 ⊢
      clear hW1
      go_wp2_with fail
      refine (xtext_st _ _ D (bl D) 0 24 H1.out.rd HSZ.out).mono ?_
      rintro e W2 ⟨rfl, hr2, ho2⟩
      rw [HP.out] at hr2 ⊢
      rw [HK1.out]
      have H2 := hide (H1.out.text hr2 ho2)
      clear hr2 ho2
      have c3 := H2.out.tb.c3
      have f3 := H2.out.tb.f3
      go_wp2_with fail
      have H3 := hide (H2.out.set 3 _ (H2.out.tb.s3 K1))
      clear c3 f3
      refine (xtext_st _ _ D P.2.1 P.2.2 64 H3.out.rd HSZ.out).mono ?_
      rintro e W4 ⟨rfl, hr4, ho4⟩
      rw [HR.out] at hr4 ⊢
      rw [HV1.out]
      have H4 := hide (H3.out.text hr4 ho4)
      clear hr4 ho4
      have c0 := H4.out.tb.c0
      have c1 := H4.out.tb.c1
      have c2 := H4.out.tb.c2
      have c3 := H4.out.tb.c3
      have c4 := H4.out.tb.c4
      have f4 := H4.out.tb.f4
      simp only at c0 c1 c2 c3 c4
      go_wp2_with fail
      have H5 := hide (H4.out.set 4 _ (H4.out.tb.s4 V1))
      clear c0 c1 c2 c3 c4 f4
      refine (HEN.out _).mono ?_
      rintro e W6 ⟨rfl, ho6⟩
      have H6 := hide (H5.out.more ho6)
      clear ho6
      go_wp2_with fail
      refine (xend_st _ _ D R.2.1 R.2.2 H6.out.rd).mono ?_
      rintro e W7 ⟨rfl, ho7⟩
      rw [HE.out]
      have H7 := hide (H6.out.more ho7)
      clear ho7
      have r0 := H7.out.res.c0
      have r1 := H7.out.res.c1
      have r2 := H7.out.res.c2
      have r3 := H7.out.res.c3
      have r4 := H7.out.res.c4
      have g0 := H7.out.res.f0
      have g1 := H7.out.res.f1
      have g2 := H7.out.res.f2
      have g3 := H7.out.res.f3
      have g4 := H7.out.res.f4
      have c0 := H7.out.tb.c0
      have c1 := H7.out.tb.c1
      have c2 := H7.out.tb.c2
      have c3 := H7.out.tb.c3
      have c4 := H7.out.tb.c4
      simp only at c0 c1 c2 c3 c4
      by_cases he : E = 0
      · subst he
        have HX := HXX.out
        have HSX2 := HSX.out rfl
        have HDX : Hid (decT (bl s) = if O = true then some ⟨q1, q2, fz, K1, V1⟩ else none) := by unfold Hid; rw [HDE.out]; simp
        cases O
        · have hx : X2 = 110 := HX
          subst hx
          clear HX HSX2
          go_wp2_with fail
          refine bodyPost_ret (results_tub rfl rfl (H7.out.res.all noT)) rfl ?_
          exact ⟨by rw [HDX.out]; rfl, H7.out.only.trans (Only.fiveU _ _ _ _ _ _ _) (fun i hi e => by omega)⟩
        · have hx : X2 = 0 := HX
          have hs2 := HSX2 rfl
          subst hx hs2
          clear HX HSX2
          go_wp2_with fail
          refine bodyPost_ret (results_tub rfl rfl (H7.out.res.all ⟨q1, q2, fz, K1, V1⟩)) rfl ?_
          exact ⟨by rw [HDX.out]; rfl, H7.out.only.trans (Only.fiveU _ _ _ _ _ _ _) (fun i hi e => by omega)⟩
      · have he' : (E != 0) = true := by simpa using he
        have HDX : Hid (decT (bl s) = none) := by unfold Hid; rw [HDE.out, if_neg (fun h => he h.1)]
        clear he
        go_wp2_with fail
        refine bodyPost_ret (results_tub rfl rfl (H7.out.res.all noT)) rfl ?_
        exact ⟨by rw [HDX.out]; rfl, H7.out.only.trans (Only.fiveU _ _ _ _ _ _ _) (fun i hi e => by omega)⟩
theorem tdecode_any (s : ByteArray) (w : World) (hz : s.size ≤ 140737488355328) :
    Calls Tryz.prog 31 #[.string s] w fun e w' => e = .returned (outT (decT (bl s))) ∧ Only (fun _ => False) w w' := by
  cases h : headed (bl s)
  · have e : decT (bl s) = none := by unfold decT goodT; rw [h]; rfl
    rw [e]
    exact tdecode_head s w h
  · exact tdecode_good s w h hz
end Go.Proofs.YtpnbhddmdfcjdaaGreat
