/- Walk of HeapKeys. -/
import Derived.Test.YtpbpamhlenogoaaHAwake
namespace Go.Proofs.Ytpbpamhlenogoaa
open Go.RowKit

theorem entsL_pre (l : List ByteArray) (j n : Nat) (h : j ≤ n) : ∃ r, entsL l n = entsL l j ++ r := by
  induction n with
  | zero =>
    have : j = 0 := by omega
    subst this
    exact ⟨[], by simp⟩
  | succ n ih =>
    by_cases e : j = n + 1
    · subst e
      exact ⟨[], by simp⟩
    · obtain ⟨r, hr⟩ := ih (by omega)
      simp only [entsL]
      rw [hr]
      exact ⟨r ++ _, List.append_assoc _ _ _⟩
theorem entsL_at (l : List ByteArray) (j : Nat) (key : ByteArray) (h : j < l.length) (hk : keyT (bl l[j]) = some key) : ∃ hm : (entsL l j).length < (entsL l l.length).length, (entsL l l.length)[(entsL l j).length] = (key, j) := by
  obtain ⟨r, hr⟩ := entsL_pre l (j + 1) l.length h
  rw [entsL_some h hk, List.append_assoc] at hr
  have hm : (entsL l j).length < (entsL l l.length).length := by rw [hr]; simp
  refine ⟨hm, ?_⟩
  have : (entsL l l.length)[(entsL l j).length]? = some (key, j) := by rw [hr]; simp
  rw [List.getElem?_eq_getElem hm] at this
  simpa using this
/-- What an item tells, its key, and what Look answers by its own key and by another one. -/
theorem item_tells (x : ByteArray) : (∃ t, stT (bl x) = 3 ∧ keyT (bl x) = some t.key ∧ decT (bl x) = some t) ∨ (∃ key, stT (bl x) = 2 ∧ keyT (bl x) = some key ∧ decT (bl x) = none) ∨ (stT (bl x) ≠ 3 ∧ stT (bl x) ≠ 2 ∧ keyT (bl x) = none) := by
  unfold stT keyT
  cases hd : decT (bl x) with
  | some t => exact .inl ⟨t, rfl, rfl, rfl⟩
  | none =>
    cases hk : deadK (bl x) with
    | some key => exact .inr (.inl ⟨key, rfl, rfl, rfl⟩)
    | none =>
      refine .inr (.inr ⟨?_, ?_, rfl⟩)
      · rw [if_neg (by simp), if_neg (by simp)]
        split <;> decide
      · rw [if_neg (by simp), if_neg (by simp)]
        split <;> decide
theorem stT_bd (l : List UInt8) : 0 ≤ stT l ∧ stT l < 256 := by
  unfold stT
  split
  · omega
  · split
    · omega
    · split <;> omega
theorem Tb.fiveK {w w5 : World} {b : Nat} {t : Tu} (_ : Tb w5 b t) (ho : Only (fun _ => False) w w5) (hb : w.heap.size ≤ b) (v0 v1 v2 v3 v4 : Value) : Only (fun _ => False) w (((((w5.setCell ⟨b, 0, none⟩ v0).setCell ⟨b, 1, none⟩ v1).setCell ⟨b, 2, none⟩ v2).setCell ⟨b, 3, none⟩ v3).setCell ⟨b, 4, none⟩ v4) :=
  ho.trans (Only.fiveU w5 b v0 v1 v2 v3 v4) (fun i hi e => by omega)
set_option maxRecDepth 100000 in
set_option maxHeartbeats 3200000 in
theorem heapKeys_law (w : World) (a k v r : Int) (h : ByteArray) (B cp : Nat) (ao : Option Addr) (l : List ByteArray) (other : ByteArray) (hS : Strs w B ao l) (hlen : l.length ≤ 1048576) :
    Calls Try.prog 5 #[pv a k v r h ao l.length cp, .string other] w fun e w' => e = .returned (.bool true) ∧ Only (fun _ => False) w w' := by
  have HAW := hide hawake_any
  have HO := hide (onlyA w (.cells #[.int .i64 a, .int .i64 k, .int .i64 v, .int .i64 r, .string h, .slice ao l.length cp] 24))
  have HP := hide (Pag.new w (.int .i64 a) (.int .i64 k) (.int .i64 v) (.int .i64 r) (.string h) (.slice ao l.length cp))
  have HS := hide hS
  have HLK : Hid (∀ W i key, Only (fun _ => False) w W → Calls Try.prog 11 #[.agg #[.int .i64 a, .int .i64 k, .int .i64 v, .int .i64 r, .string h, .slice ao l.length cp], .int .i64 i, .string key] W fun e w' => e = .returned (outL (lookL k l i key)) ∧ Only (fun _ => False) W w') := fun W i key ho => look_any W a k v r h B cp ao l i key (hS.more ho)
  have HKY := hide (keys_any _ a k v r h B cp ao l (hS.more HO.out) hlen)
  clear hS
  go_enter Try.func5, Try.ntmps5
  go_upto_region 1 with fail
  obtain ⟨W0, hW0⟩ : ∃ y, w.alloc (.cells #[.int .i64 a, .int .i64 k, .int .i64 v, .int .i64 r, .string h, .slice ao l.length cp] 24) = y := ⟨_, rfl⟩
  rw [hW0] at HO HP HKY ⊢
  clear hW0
  obtain ⟨p0, p1, p2, p3, p4, p5, _⟩ := HP.out
  go_wp2_with fail
  refine HKY.out.mono ?_
  rintro e w1 ⟨ks, rfl, hes, ho1⟩
  have HO1 := hide (o2 HO.out ho1)
  have HP1 := hide (HP.out.more ho1)
  clear ho1 p0 p1 p2 p3 p4 p5 HKY HO HP
  by_cases hk : k = 2
  · have hk' : (k == 2) = true := by simpa using hk
    rw [if_pos hk] at hes
    have HK := hide hk
    clear hk
    have HEF := hide (fun W (ho : Only (fun _ => False) w1 W) m (hm : m < (entsL l l.length).length) => (hes.more ho).at_ m hm)
    obtain ⟨ka, kc, hks⟩ := hes.form
    subst hks
    have HEL := hide (entsL_len l l.length)
    obtain ⟨nE, hnE⟩ : ∃ n, (entsL l l.length).length = n := ⟨_, rfl⟩
    have HNE := hide hnE
    rw [hnE] at HEL ⊢
    have hnEb : nE ≤ 1048576 := by have := HEL.out; omega
    clear hnE hes
    go_upto_region 4 with fail
    go_loopw [6, 7] (fun m i wr => ∃ (j M : Nat), j ≤ l.length ∧ M ≤ 1048576 ∧ i = .int .i64 (j : Int) ∧ m = .int .i64 (M : Int) ∧ Hid (M = (entsL l j).length) ∧ Hid (Only (fun _ => False) w1 wr)) (fun _ i _ => l.length - (intOf i).toNat)
    case atStart => exact ⟨0, 0, Nat.zero_le _, Nat.zero_le _, rfl, rfl, hide rfl, hide (Only.refl _ _)⟩
    case round =>
      obtain ⟨j, M, hj, hM, rfl, rfl, HM, HX⟩ := hrel
      have HPj := hide (HP1.out.more HX.out)
      have HOj := hide (o2 HO1.out HX.out)
      have c5 := HPj.out.c5
      have c1 := HPj.out.c1
      by_cases hlt : j < l.length
      · have hlk : (j : Int) < (l.length : Int) := by omega
        obtain ⟨o, hao, hc⟩ := (HS.out.more HOj.out).at_ (by omega)
        have ck := hc j hlt
        have HAT := hide (fun key (hk : keyT (bl l[j]) = some key) => entsL_at l j key hlt hk)
        have HSM := hide (fun key (hk : keyT (bl l[j]) = some key) => entsL_some hlt hk)
        have HNO := hide (fun (hk : keyT (bl l[j]) = none) => entsL_none hlt hk)
        have HVE := hide (verL_at hlt)
        have HST : Hid (∀ W, Calls Try.prog 14 #[.string l[j]] W fun e w' => e = .returned (.int .u8 (stT (bl l[j]))) ∧ Only (fun _ => False) W w') := fun W => ustate_any _ W
        have HIT := hide (item_tells l[j])
        have hsb := stT_bd (bl l[j])
        obtain ⟨x, hx⟩ : ∃ x, l[j] = x := ⟨_, rfl⟩
        rw [hx] at ck HAT HSM HNO HVE HST HIT hsb
        subst hao
        clear hc hx
        obtain ⟨ST, hST⟩ : ∃ s, stT (bl x) = s := ⟨_, rfl⟩
        rw [hST] at HST HIT hsb
        clear hST
        rcases HIT.out with ⟨tt, h3, hkt, hdt⟩ | ⟨key, h2, hkt, hdt⟩ | ⟨h3, h2, hkn⟩
        · subst h3
          obtain ⟨hm, hat⟩ := HAT.out _ hkt
          have HSM1 := hide (HSM.out _ hkt)
          obtain ⟨g, cg, hkg, _, hgl, q0, q1, q2⟩ := HEF.out wr HX.out _ hm
          rw [hat] at q0 q2
          rw [HNE.out] at hkg hm
          simp only [Value.slice.injEq] at hkg
          obtain ⟨rfl, _, rfl⟩ := hkg
          rw [← HM.out] at q0 q1 q2 hm
          simp only at q0 q2
          have HL1 : Hid (lookL k l (j : Int) tt.key = some tt) := by
            unfold Hid lookL
            rw [HK.out, HVE.out, hdt]
            simp only [if_true]
          have HL2 : Hid (∃ N : Bool, (lookL k l (j : Int) other).isSome = N ∧ (N = true → other = tt.key)) := ⟨_, rfl, fun hn => by
            unfold lookL at hn
            rw [HK.out, HVE.out, hdt] at hn
            by_cases hq : tt.key = other
            · exact hq.symm
            · simp only [if_neg hq] at hn
              cases hn⟩
          obtain ⟨NO, hNO, hNE2⟩ := HL2.out
          obtain ⟨T2, hT2⟩ : ∃ T, (lookL k l (j : Int) other).getD noT = T := ⟨_, rfl⟩
          have HK1 : Hid (∀ W, Only (fun _ => False) w W → Calls Try.prog 11 #[.agg #[.int .i64 a, .int .i64 k, .int .i64 v, .int .i64 r, .string h, .slice (some ⟨B, o, none⟩) l.length cp], .int .i64 (j : Int), .string tt.key] W fun e w' => e = .returned (.tuple #[.agg #[.int .i64 tt.xmin, .int .i64 tt.xmax, .bool tt.frozen, .string tt.key, .string tt.value], .bool true]) ∧ Only (fun _ => False) W w') := fun W ho => by
            have := HLK.out W (j : Int) tt.key ho
            rw [HL1.out] at this
            exact this
          have HK2 : Hid (∀ W, Only (fun _ => False) w W → Calls Try.prog 11 #[.agg #[.int .i64 a, .int .i64 k, .int .i64 v, .int .i64 r, .string h, .slice (some ⟨B, o, none⟩) l.length cp], .int .i64 (j : Int), .string other] W fun e w' => e = .returned (.tuple #[.agg #[.int .i64 T2.xmin, .int .i64 T2.xmax, .bool T2.frozen, .string T2.key, .string T2.value], .bool NO]) ∧ Only (fun _ => False) W w') := fun W ho => by
            have := HLK.out W (j : Int) other ho
            unfold outL at this
            rw [hNO, hT2] at this
            exact this
          have hmk : ¬ (nE : Int) ≤ (M : Int) := by omega
          have hmk2 : (M : Int) < (nE : Int) := by omega
          have HQ0 := hide q0
          have HGL := hide hgl
          have HNE2 := hide hNE2
          obtain ⟨KEY, hKEY⟩ : ∃ x, tt.key = x := ⟨_, rfl⟩
          rw [hKEY] at q0 HQ0 HK1 HNE2
          clear hKEY HL1 HL2 hNO hT2 hNE2 hat hkt hdt HAT HSM HNO HVE HIT hgl
          go_wp2_with fail
          refine (HST.out _).mono ?_
          rintro e w2 ⟨rfl, ho2⟩
          have HX2 := hide (o2 HX.out ho2)
          have HP2 := hide (HPj.out.more ho2)
          have HO2 := hide (o2 HOj.out ho2)
          have e0 := (ho2.cell (p := ⟨g, M * 3, none⟩) HGL.out (fun h => h)).trans q0
          have e1 := (ho2.cell (p := ⟨g, M * 3 + 1, none⟩) HGL.out (fun h => h)).trans q1
          have e2 := (ho2.cell (p := ⟨g, M * 3 + 2, none⟩) HGL.out (fun h => h)).trans q2
          have HG2 : Hid (g < w2.heap.size) := Nat.lt_of_lt_of_le HGL.out ho2.size
          clear ho2 q0 q1 q2 c5 c1 ck
          go_upto_region 10 with fail
          have HE0 := hide e0
          clear e0 e1 e2
          go_cut [9, 10] (fun p u wc => ∃ b, p = .pointer (some ⟨b, 0, none⟩) ∧ u = .bool true ∧ Hid (Only (fun _ => False) w2 wc))
          case first =>
            refine wp_region_noPanic ?_
            refine wp_region_held_drew (S := fun W => Only (fun _ => False) w2 W) (by kernel_rfl) (Only.drew _ _) (fun hHeld => ?_)
            refine wpAnyH_take (i := 0) (oi := { dst := some 61, op := Op.load 24 (Operand.tmp 2), type := 24, pos := "law.go:169", after := #[], guard := none }) (v := .agg #[.int .i64 a, .int .i64 k, .int .i64 v, .int .i64 r, .string h, .slice (some ⟨B, o, none⟩) l.length cp]) rfl (by kernel_rfl) (by kernel_rfl) (by kernel_rfl) (fun _ _ _ h => h) (yieldsIf_load_page (by rfl) _ rfl _ rfl (fun W hW => HP2.out.more hW)) (by assumption) ?_
            simp only [Act.put, List.setIfInBounds_toArray, List.set_cons_zero, List.set_cons_succ]
            refine wpAnyH_take (i := 1) (oi := { dst := some 62, op := Op.move (Operand.tmp 7), type := 3, pos := "law.go:169", after := #[], guard := none }) (v := .int .i64 (j : Int)) rfl (by kernel_rfl) (by kernel_rfl) (by kernel_rfl) (fun _ _ _ h => h) (Or.inl ⟨by rfl, fun w' hSw => by clear hSw; go_simp⟩) (by assumption) ?_
            simp only [Act.put, List.setIfInBounds_toArray, List.set_cons_zero, List.set_cons_succ]
            refine wpAnyH_take (i := 2) (oi := { dst := some 63, op := Op.move (Operand.tmp 5), type := 49, pos := "law.go:169", after := #[], guard := none }) (v := .slice (some ⟨g, 0, none⟩) nE kc) rfl (by kernel_rfl) (by kernel_rfl) (by kernel_rfl) (fun _ _ _ h => h) (Or.inl ⟨by rfl, fun w' hSw => by clear hSw; go_simp⟩) (by assumption) ?_
            simp only [Act.put, List.setIfInBounds_toArray, List.set_cons_zero, List.set_cons_succ]
            refine wpAnyH_take (i := 3) (oi := { dst := some 64, op := Op.move (Operand.tmp 6), type := 3, pos := "law.go:169", after := #[], guard := none }) (v := .int .i64 (M : Int)) rfl (by kernel_rfl) (by kernel_rfl) (by kernel_rfl) (fun _ _ _ h => h) (Or.inl ⟨by rfl, fun w' hSw => by clear hSw; go_simp⟩) (by assumption) ?_
            simp only [Act.put, List.setIfInBounds_toArray, List.set_cons_zero, List.set_cons_succ]
            refine wpAnyH_take (i := 4) (oi := { dst := some 65, op := Op.indexAddr 49 (Operand.tmp 63) (Operand.tmp 64), type := 0, pos := "law.go:169", after := #[{ on := 2, ground := Ground.data }, { on := 3, ground := Ground.data }], guard := none }) (v := .pointer (some ⟨g, M * 3, none⟩)) rfl (by kernel_rfl) (by kernel_rfl) (by kernel_rfl) (fun _ _ _ h => h) (Or.inl ⟨by rfl, fun w' hSw => by clear hSw; go_simp⟩) (by assumption) ?_
            simp only [Act.put, List.setIfInBounds_toArray, List.set_cons_zero, List.set_cons_succ]
            refine wpAnyH_take (i := 5) (oi := { dst := some 66, op := Op.fieldAddr 54 (Operand.tmp 65) 0, type := 0, pos := "law.go:169", after := #[{ on := 4, ground := Ground.data }], guard := none }) (v := .pointer (some ⟨g, M * 3, none⟩)) rfl (by kernel_rfl) (by kernel_rfl) (by kernel_rfl) (fun _ _ _ h => h) (Or.inl ⟨by rfl, fun w' hSw => by clear hSw; go_simp⟩) (by assumption) ?_
            simp only [Act.put, List.setIfInBounds_toArray, List.set_cons_zero, List.set_cons_succ]
            refine wpAnyH_take (i := 6) (oi := { dst := some 67, op := Op.load 9 (Operand.tmp 66), type := 9, pos := "law.go:169", after := #[{ on := 5, ground := Ground.data }], guard := none }) (v := .string KEY) rfl (by kernel_rfl) (by kernel_rfl) (by kernel_rfl) (fun _ _ _ h => h) (yieldsIf_load_cell (by rfl) 9 _ rfl _ rfl (fun W hW => (hW.cell (p := ⟨g, M * 3, none⟩) HG2.out (fun h => h)).trans HE0.out) (fun W hc => ld_string hc)) (by assumption) ?_
            simp only [Act.put, List.setIfInBounds_toArray, List.set_cons_zero, List.set_cons_succ]
            refine wpAnyH_ready (rs := [7, 11]) (by kernel_rfl) (by simp) ?_
            refine AllReadyH.cons (o := { dst := some 68, op := Op.call { callee := Callee.value (Operand.func 11), args := #[Operand.tmp 61, Operand.tmp 62, Operand.tmp 67], argTypes := #[24, 3, 9] }, type := 43, pos := "law.go:169", after := #[{ on := 0, ground := Ground.data }, { on := 1, ground := Ground.data }, { on := 6, ground := Ground.data }], guard := none }) rfl (fun K hK => ?_) (AllReadyH.cons (o := { dst := some 9, op := Op.alloc 26, type := 0, pos := "law.go:169", after := #[], guard := none }) rfl (fun K hK => ?_) (AllReadyH.nil))
            · go_simp
              refine (HK1.out _ (o2 HO2.out hHeld)).mono ?_
              rintro e x1 ⟨rfl, hx1⟩
              have HX1 := hide (o2 hHeld hx1)
              clear hx1
              refine hK.out _ _ (HX1.out) (fun hHeld => ?_)
              clear hK K
              try simp only [Act.put, List.setIfInBounds_toArray, List.set_cons_zero, List.set_cons_succ]
              refine wpAnyH_take (i := 8) (oi := { dst := some 60, op := Op.move (Operand.tmp 68), type := 43, pos := "law.go:169", after := #[{ on := 7, ground := Ground.data }], guard := none }) (v := .tuple #[.agg #[.int .i64 tt.xmin, .int .i64 tt.xmax, .bool tt.frozen, .string KEY, .string tt.value], .bool true]) rfl (by kernel_rfl) (by kernel_rfl) (by kernel_rfl) (fun _ _ _ h => h) (Or.inl ⟨by rfl, fun w' hSw => by clear hSw; go_simp⟩) (by assumption) ?_
              simp only [Act.put, List.setIfInBounds_toArray, List.set_cons_zero, List.set_cons_succ]
              refine wpAnyH_take (i := 9) (oi := { dst := some 69, op := Op.extract (Operand.tmp 60) 0, type := 26, pos := "law.go:169", after := #[{ on := 8, ground := Ground.data }], guard := none }) (v := .agg #[.int .i64 tt.xmin, .int .i64 tt.xmax, .bool tt.frozen, .string KEY, .string tt.value]) rfl (by kernel_rfl) (by kernel_rfl) (by kernel_rfl) (fun _ _ _ h => h) (Or.inl ⟨by rfl, fun w' hSw => by clear hSw; go_simp⟩) (by assumption) ?_
              simp only [Act.put, List.setIfInBounds_toArray, List.set_cons_zero, List.set_cons_succ]
              refine wpAnyH_take (i := 10) (oi := { dst := some 70, op := Op.extract (Operand.tmp 60) 1, type := 4, pos := "law.go:169", after := #[{ on := 8, ground := Ground.data }, { on := 12, ground := Ground.gcOnly Departure.lateStores }], guard := none }) (v := .bool true) rfl (by kernel_rfl) (by kernel_rfl) (by kernel_rfl) (fun _ _ _ h => h) (Or.inl ⟨by rfl, fun w' hSw => by clear hSw; go_simp⟩) (by assumption) ?_
              simp only [Act.put, List.setIfInBounds_toArray, List.set_cons_zero, List.set_cons_succ]
              refine wpAnyH_ready (rs := [11]) (by kernel_rfl) (by simp) ?_
              refine AllReadyH.cons (o := { dst := some 9, op := Op.alloc 26, type := 0, pos := "law.go:169", after := #[], guard := none }) rfl (fun K hK => ?_) (AllReadyH.nil)
              go_simp
              refine hK.out _ _ (o2 HX1.out (onlyA _ _)) (fun hHeld => ?_)
              clear hK K
              try simp only [Act.put, List.setIfInBounds_toArray, List.set_cons_zero, List.set_cons_succ]
              refine wpAnyH_ready (rs := [12]) (by kernel_rfl) (by simp) ?_
              refine AllReadyH.cons (o := { dst := none, op := Op.store 26 (Operand.tmp 9) (Operand.tmp 69), type := 0, pos := "law.go:169", after := #[{ on := 11, ground := Ground.data }, { on := 9, ground := Ground.data }, { on := 7, ground := Ground.chain }, { on := 0, ground := Ground.phase }, { on := 1, ground := Ground.phase }, { on := 2, ground := Ground.phase }, { on := 3, ground := Ground.phase }, { on := 4, ground := Ground.phase }, { on := 5, ground := Ground.phase }, { on := 6, ground := Ground.phase }, { on := 7, ground := Ground.phase }, { on := 8, ground := Ground.phase }, { on := 9, ground := Ground.phase }, { on := 10, ground := Ground.textOnly Departure.lateStores }, { on := 11, ground := Ground.phase }], guard := none }) rfl (fun K hK => ?_) (AllReadyH.nil)
              go_simp
              have HX9 := hide (o2 HX1.out (onlyA x1 (.cells #[.int .i64 tt.xmin, .int .i64 tt.xmax, .bool tt.frozen, .string KEY, .string tt.value] 26)))
              refine hK.out _ _ (HX9.out) (fun hHeld => ?_)
              clear hK K
              try simp only [Act.put, List.setIfInBounds_toArray, List.set_cons_zero, List.set_cons_succ]
              refine wpAnyH_take (i := 13) (oi := { dst := some 10, op := Op.assign (Operand.tmp 70), type := 4, pos := "law.go:169", after := #[{ on := 10, ground := Ground.data }, { on := 12, ground := Ground.chain }, { on := 0, ground := Ground.phase }, { on := 1, ground := Ground.phase }, { on := 2, ground := Ground.phase }, { on := 3, ground := Ground.phase }, { on := 4, ground := Ground.phase }, { on := 5, ground := Ground.phase }, { on := 6, ground := Ground.phase }, { on := 7, ground := Ground.phase }, { on := 8, ground := Ground.phase }, { on := 9, ground := Ground.phase }, { on := 10, ground := Ground.phase }, { on := 11, ground := Ground.phase }, { on := 12, ground := Ground.phase }], guard := none }) (v := .bool true) rfl (by kernel_rfl) (by kernel_rfl) (by kernel_rfl) (fun _ _ _ h => h) (Or.inl ⟨by rfl, fun w' hSw => by clear hSw; go_simp⟩) (by assumption) ?_
              simp only [Act.put, List.setIfInBounds_toArray, List.set_cons_zero, List.set_cons_succ]
              refine wpAnyH_done (by kernel_rfl) ?_ _
              refine NoPanic.normal ?_
              go_wp2_with fail
              go_meet
              exact ⟨_, rfl, rfl, HX9⟩
            · go_simp
              have HZA : Hid (Tb ((w2.alloc (.cells #[.int .i64 0, .int .i64 0, .bool false, .string ⟨#[]⟩, .string ⟨#[]⟩] 26)).drew) w2.heap.size noT) := (Tb.new w2 noT).more (Only.drew _ _)
              have HSA : Hid (Only (fun _ => False) w2 ((w2.alloc (.cells #[.int .i64 0, .int .i64 0, .bool false, .string ⟨#[]⟩, .string ⟨#[]⟩] 26)).drew)) := o2 (onlyA _ _) (Only.drew _ _)
              refine hK.out _ _ (HSA.out) (fun hHeld => ?_)
              clear hK K
              try simp only [Act.put, List.setIfInBounds_toArray, List.set_cons_zero, List.set_cons_succ]
              refine wpAnyH_ready (rs := [7]) (by kernel_rfl) (by simp) ?_
              refine AllReadyH.cons (o := { dst := some 68, op := Op.call { callee := Callee.value (Operand.func 11), args := #[Operand.tmp 61, Operand.tmp 62, Operand.tmp 67], argTypes := #[24, 3, 9] }, type := 43, pos := "law.go:169", after := #[{ on := 0, ground := Ground.data }, { on := 1, ground := Ground.data }, { on := 6, ground := Ground.data }], guard := none }) rfl (fun K hK => ?_) (AllReadyH.nil)
              go_simp
              refine (HK1.out _ (o2 HO2.out hHeld)).mono ?_
              rintro e x1 ⟨rfl, hx1⟩
              have HX1 := hide (o2 hHeld hx1)
              have HZB := hide (HZA.out.more hx1)
              obtain ⟨z0, z1, z2, z3, z4, y0, y1, y2, y3, y4, zl⟩ := HZB.out
              clear hx1
              refine hK.out _ _ (HX1.out) (fun hHeld => ?_)
              clear hK K
              try simp only [Act.put, List.setIfInBounds_toArray, List.set_cons_zero, List.set_cons_succ]
              refine wpAnyH_take (i := 8) (oi := { dst := some 60, op := Op.move (Operand.tmp 68), type := 43, pos := "law.go:169", after := #[{ on := 7, ground := Ground.data }], guard := none }) (v := .tuple #[.agg #[.int .i64 tt.xmin, .int .i64 tt.xmax, .bool tt.frozen, .string KEY, .string tt.value], .bool true]) rfl (by kernel_rfl) (by kernel_rfl) (by kernel_rfl) (fun _ _ _ h => h) (Or.inl ⟨by rfl, fun w' hSw => by clear hSw; go_simp⟩) (by assumption) ?_
              simp only [Act.put, List.setIfInBounds_toArray, List.set_cons_zero, List.set_cons_succ]
              refine wpAnyH_take (i := 9) (oi := { dst := some 69, op := Op.extract (Operand.tmp 60) 0, type := 26, pos := "law.go:169", after := #[{ on := 8, ground := Ground.data }], guard := none }) (v := .agg #[.int .i64 tt.xmin, .int .i64 tt.xmax, .bool tt.frozen, .string KEY, .string tt.value]) rfl (by kernel_rfl) (by kernel_rfl) (by kernel_rfl) (fun _ _ _ h => h) (Or.inl ⟨by rfl, fun w' hSw => by clear hSw; go_simp⟩) (by assumption) ?_
              simp only [Act.put, List.setIfInBounds_toArray, List.set_cons_zero, List.set_cons_succ]
              refine wpAnyH_take (i := 10) (oi := { dst := some 70, op := Op.extract (Operand.tmp 60) 1, type := 4, pos := "law.go:169", after := #[{ on := 8, ground := Ground.data }, { on := 12, ground := Ground.gcOnly Departure.lateStores }], guard := none }) (v := .bool true) rfl (by kernel_rfl) (by kernel_rfl) (by kernel_rfl) (fun _ _ _ h => h) (Or.inl ⟨by rfl, fun w' hSw => by clear hSw; go_simp⟩) (by assumption) ?_
              simp only [Act.put, List.setIfInBounds_toArray, List.set_cons_zero, List.set_cons_succ]
              refine wpAnyH_ready (rs := [12]) (by kernel_rfl) (by simp) ?_
              refine AllReadyH.cons (o := { dst := none, op := Op.store 26 (Operand.tmp 9) (Operand.tmp 69), type := 0, pos := "law.go:169", after := #[{ on := 11, ground := Ground.data }, { on := 9, ground := Ground.data }, { on := 7, ground := Ground.chain }, { on := 0, ground := Ground.phase }, { on := 1, ground := Ground.phase }, { on := 2, ground := Ground.phase }, { on := 3, ground := Ground.phase }, { on := 4, ground := Ground.phase }, { on := 5, ground := Ground.phase }, { on := 6, ground := Ground.phase }, { on := 7, ground := Ground.phase }, { on := 8, ground := Ground.phase }, { on := 9, ground := Ground.phase }, { on := 10, ground := Ground.textOnly Departure.lateStores }, { on := 11, ground := Ground.phase }], guard := none }) rfl (fun K hK => ?_) (AllReadyH.nil)
              go_simp
              have HX9 := hide (HZB.out.fiveK HX1.out (Nat.le_refl _) (.int .i64 tt.xmin) (.int .i64 tt.xmax) (.bool tt.frozen) (.string KEY) (.string tt.value))
              refine hK.out _ _ (HX9.out) (fun hHeld => ?_)
              clear hK K
              try simp only [Act.put, List.setIfInBounds_toArray, List.set_cons_zero, List.set_cons_succ]
              refine wpAnyH_take (i := 13) (oi := { dst := some 10, op := Op.assign (Operand.tmp 70), type := 4, pos := "law.go:169", after := #[{ on := 10, ground := Ground.data }, { on := 12, ground := Ground.chain }, { on := 0, ground := Ground.phase }, { on := 1, ground := Ground.phase }, { on := 2, ground := Ground.phase }, { on := 3, ground := Ground.phase }, { on := 4, ground := Ground.phase }, { on := 5, ground := Ground.phase }, { on := 6, ground := Ground.phase }, { on := 7, ground := Ground.phase }, { on := 8, ground := Ground.phase }, { on := 9, ground := Ground.phase }, { on := 10, ground := Ground.phase }, { on := 11, ground := Ground.phase }, { on := 12, ground := Ground.phase }], guard := none }) (v := .bool true) rfl (by kernel_rfl) (by kernel_rfl) (by kernel_rfl) (fun _ _ _ h => h) (Or.inl ⟨by rfl, fun w' hSw => by clear hSw; go_simp⟩) (by assumption) ?_
              simp only [Act.put, List.setIfInBounds_toArray, List.set_cons_zero, List.set_cons_succ]
              refine wpAnyH_done (by kernel_rfl) ?_ _
              refine NoPanic.normal ?_
              go_wp2_with fail
              go_meet
              exact ⟨_, rfl, rfl, HX9⟩
          case rest =>
            obtain ⟨b, rfl, rfl, HX3⟩ := hcut
            have HP3 := hide (HP2.out.more HX3.out)
            have HO3 := hide (o2 HO2.out HX3.out)
            obtain ⟨p0, p1, p2, p3, p4, p5, _⟩ := HP3.out
            obtain ⟨w3, hw3⟩ : ∃ x, x = x := ⟨wr, rfl⟩
            clear hw3 w3
            go_wp2_with fail
            refine (HK2.out _ HO3.out).mono ?_
            rintro e w4 ⟨rfl, ho4⟩
            have HN4 := hide (onlyA w4 (.cells #[.int .i64 T2.xmin, .int .i64 T2.xmax, .bool T2.frozen, .string T2.key, .string T2.value] 26))
            have HX4 := hide (o2 (o2 (o2 HX2.out HX3.out) ho4) HN4.out)
            have HE4 := ((HX3.out.cell (p := ⟨g, M * 3, none⟩) HG2.out (fun h => h)).trans HE0.out)
            have HE5 := (((o2 ho4 HN4.out).cell (p := ⟨g, M * 3, none⟩) (Nat.lt_of_lt_of_le HG2.out HX3.out.size) (fun h => h)).trans HE4)
            clear ho4 p0 p1 p2 p3 p4 p5 HE4
            go_upto_region 12 with fail
            obtain ⟨w5, hw5⟩ : ∃ y, w4.alloc (.cells #[.int .i64 T2.xmin, .int .i64 T2.xmax, .bool T2.frozen, .string T2.key, .string T2.value] 26) = y := ⟨_, rfl⟩
            rw [hw5] at HX4 HE5 ⊢
            clear hw5 HN4
            cases NO
            · clear HNE2
              go_wp2_with fail
              go_roundw
              case rel => exact ⟨j + 1, M + 1, by omega, by omega, by go_num, by go_num, by unfold Hid; rw [HSM1.out, List.length_append, ← HM.out]; rfl, HX4⟩
              case measure => simp [intOf]; omega
            · have hkk : (!other.toList == KEY.toList) = false := by rw [HNE2.out rfl]; simp
              clear HNE2
              go_wp2_with fail
              go_roundw
              case rel => exact ⟨j + 1, M + 1, by omega, by omega, by go_num, by go_num, by unfold Hid; rw [HSM1.out, List.length_append, ← HM.out]; rfl, HX4⟩
              case measure => simp [intOf]; omega
        · subst h2
          obtain ⟨hm, hat⟩ := HAT.out _ hkt
          have HSM1 := hide (HSM.out _ hkt)
          obtain ⟨g, cg, hkg, _, hgl, q0, q1, q2⟩ := HEF.out wr HX.out _ hm
          rw [hat] at q0 q2
          rw [HNE.out] at hkg hm
          simp only [Value.slice.injEq] at hkg
          obtain ⟨rfl, _, rfl⟩ := hkg
          rw [← HM.out] at q0 q1 q2 hm
          simp only at q0 q2
          have HL1 : Hid (lookL k l (j : Int) key = none) := by
            unfold Hid lookL
            rw [HK.out, HVE.out, hdt]

          have HL2 : Hid (∃ N : Bool, (lookL k l (j : Int) other).isSome = N ∧ (N = true → False)) := ⟨_, rfl, fun hn => by
            unfold lookL at hn
            rw [HK.out, HVE.out, hdt] at hn
            cases hn⟩
          obtain ⟨NO, hNO, hNE2⟩ := HL2.out
          obtain ⟨T2, hT2⟩ : ∃ T, (lookL k l (j : Int) other).getD noT = T := ⟨_, rfl⟩
          have HK1 : Hid (∀ W, Only (fun _ => False) w W → Calls Try.prog 11 #[.agg #[.int .i64 a, .int .i64 k, .int .i64 v, .int .i64 r, .string h, .slice (some ⟨B, o, none⟩) l.length cp], .int .i64 (j : Int), .string key] W fun e w' => e = .returned (.tuple #[.agg #[.int .i64 0, .int .i64 0, .bool false, .string ⟨#[]⟩, .string ⟨#[]⟩], .bool false]) ∧ Only (fun _ => False) W w') := fun W ho => by
            have := HLK.out W (j : Int) key ho
            rw [HL1.out] at this
            exact this
          have HK2 : Hid (∀ W, Only (fun _ => False) w W → Calls Try.prog 11 #[.agg #[.int .i64 a, .int .i64 k, .int .i64 v, .int .i64 r, .string h, .slice (some ⟨B, o, none⟩) l.length cp], .int .i64 (j : Int), .string other] W fun e w' => e = .returned (.tuple #[.agg #[.int .i64 T2.xmin, .int .i64 T2.xmax, .bool T2.frozen, .string T2.key, .string T2.value], .bool NO]) ∧ Only (fun _ => False) W w') := fun W ho => by
            have := HLK.out W (j : Int) other ho
            unfold outL at this
            rw [hNO, hT2] at this
            exact this
          have hmk : ¬ (nE : Int) ≤ (M : Int) := by omega
          have hmk2 : (M : Int) < (nE : Int) := by omega
          have HQ0 := hide q0
          have HGL := hide hgl
          have HNE2 := hide hNE2
          obtain ⟨KEY, hKEY⟩ : ∃ x, key = x := ⟨_, rfl⟩
          rw [hKEY] at q0 HQ0 HK1
          clear hKEY HL1 HL2 hNO hT2 hNE2 hat hkt hdt HAT HSM HNO HVE HIT hgl
          go_wp2_with fail
          refine (HST.out _).mono ?_
          rintro e w2 ⟨rfl, ho2⟩
          have HX2 := hide (o2 HX.out ho2)
          have HP2 := hide (HPj.out.more ho2)
          have HO2 := hide (o2 HOj.out ho2)
          have e0 := (ho2.cell (p := ⟨g, M * 3, none⟩) HGL.out (fun h => h)).trans q0
          have e1 := (ho2.cell (p := ⟨g, M * 3 + 1, none⟩) HGL.out (fun h => h)).trans q1
          have e2 := (ho2.cell (p := ⟨g, M * 3 + 2, none⟩) HGL.out (fun h => h)).trans q2
          have HG2 : Hid (g < w2.heap.size) := Nat.lt_of_lt_of_le HGL.out ho2.size
          clear ho2 q0 q1 q2 c5 c1 ck
          go_upto_region 10 with fail
          have HE0 := hide e0
          clear e0 e1 e2
          go_cut [9, 10] (fun p u wc => ∃ b, p = .pointer (some ⟨b, 0, none⟩) ∧ u = .bool false ∧ Hid (Only (fun _ => False) w2 wc))
          case first =>
            refine wp_region_noPanic ?_
            refine wp_region_held_drew (S := fun W => Only (fun _ => False) w2 W) (by kernel_rfl) (Only.drew _ _) (fun hHeld => ?_)
            refine wpAnyH_take (i := 0) (oi := { dst := some 61, op := Op.load 24 (Operand.tmp 2), type := 24, pos := "law.go:169", after := #[], guard := none }) (v := .agg #[.int .i64 a, .int .i64 k, .int .i64 v, .int .i64 r, .string h, .slice (some ⟨B, o, none⟩) l.length cp]) rfl (by kernel_rfl) (by kernel_rfl) (by kernel_rfl) (fun _ _ _ h => h) (yieldsIf_load_page (by rfl) _ rfl _ rfl (fun W hW => HP2.out.more hW)) (by assumption) ?_
            simp only [Act.put, List.setIfInBounds_toArray, List.set_cons_zero, List.set_cons_succ]
            refine wpAnyH_take (i := 1) (oi := { dst := some 62, op := Op.move (Operand.tmp 7), type := 3, pos := "law.go:169", after := #[], guard := none }) (v := .int .i64 (j : Int)) rfl (by kernel_rfl) (by kernel_rfl) (by kernel_rfl) (fun _ _ _ h => h) (Or.inl ⟨by rfl, fun w' hSw => by clear hSw; go_simp⟩) (by assumption) ?_
            simp only [Act.put, List.setIfInBounds_toArray, List.set_cons_zero, List.set_cons_succ]
            refine wpAnyH_take (i := 2) (oi := { dst := some 63, op := Op.move (Operand.tmp 5), type := 49, pos := "law.go:169", after := #[], guard := none }) (v := .slice (some ⟨g, 0, none⟩) nE kc) rfl (by kernel_rfl) (by kernel_rfl) (by kernel_rfl) (fun _ _ _ h => h) (Or.inl ⟨by rfl, fun w' hSw => by clear hSw; go_simp⟩) (by assumption) ?_
            simp only [Act.put, List.setIfInBounds_toArray, List.set_cons_zero, List.set_cons_succ]
            refine wpAnyH_take (i := 3) (oi := { dst := some 64, op := Op.move (Operand.tmp 6), type := 3, pos := "law.go:169", after := #[], guard := none }) (v := .int .i64 (M : Int)) rfl (by kernel_rfl) (by kernel_rfl) (by kernel_rfl) (fun _ _ _ h => h) (Or.inl ⟨by rfl, fun w' hSw => by clear hSw; go_simp⟩) (by assumption) ?_
            simp only [Act.put, List.setIfInBounds_toArray, List.set_cons_zero, List.set_cons_succ]
            refine wpAnyH_take (i := 4) (oi := { dst := some 65, op := Op.indexAddr 49 (Operand.tmp 63) (Operand.tmp 64), type := 0, pos := "law.go:169", after := #[{ on := 2, ground := Ground.data }, { on := 3, ground := Ground.data }], guard := none }) (v := .pointer (some ⟨g, M * 3, none⟩)) rfl (by kernel_rfl) (by kernel_rfl) (by kernel_rfl) (fun _ _ _ h => h) (Or.inl ⟨by rfl, fun w' hSw => by clear hSw; go_simp⟩) (by assumption) ?_
            simp only [Act.put, List.setIfInBounds_toArray, List.set_cons_zero, List.set_cons_succ]
            refine wpAnyH_take (i := 5) (oi := { dst := some 66, op := Op.fieldAddr 54 (Operand.tmp 65) 0, type := 0, pos := "law.go:169", after := #[{ on := 4, ground := Ground.data }], guard := none }) (v := .pointer (some ⟨g, M * 3, none⟩)) rfl (by kernel_rfl) (by kernel_rfl) (by kernel_rfl) (fun _ _ _ h => h) (Or.inl ⟨by rfl, fun w' hSw => by clear hSw; go_simp⟩) (by assumption) ?_
            simp only [Act.put, List.setIfInBounds_toArray, List.set_cons_zero, List.set_cons_succ]
            refine wpAnyH_take (i := 6) (oi := { dst := some 67, op := Op.load 9 (Operand.tmp 66), type := 9, pos := "law.go:169", after := #[{ on := 5, ground := Ground.data }], guard := none }) (v := .string KEY) rfl (by kernel_rfl) (by kernel_rfl) (by kernel_rfl) (fun _ _ _ h => h) (yieldsIf_load_cell (by rfl) 9 _ rfl _ rfl (fun W hW => (hW.cell (p := ⟨g, M * 3, none⟩) HG2.out (fun h => h)).trans HE0.out) (fun W hc => ld_string hc)) (by assumption) ?_
            simp only [Act.put, List.setIfInBounds_toArray, List.set_cons_zero, List.set_cons_succ]
            refine wpAnyH_ready (rs := [7, 11]) (by kernel_rfl) (by simp) ?_
            refine AllReadyH.cons (o := { dst := some 68, op := Op.call { callee := Callee.value (Operand.func 11), args := #[Operand.tmp 61, Operand.tmp 62, Operand.tmp 67], argTypes := #[24, 3, 9] }, type := 43, pos := "law.go:169", after := #[{ on := 0, ground := Ground.data }, { on := 1, ground := Ground.data }, { on := 6, ground := Ground.data }], guard := none }) rfl (fun K hK => ?_) (AllReadyH.cons (o := { dst := some 9, op := Op.alloc 26, type := 0, pos := "law.go:169", after := #[], guard := none }) rfl (fun K hK => ?_) (AllReadyH.nil))
            · go_simp
              refine (HK1.out _ (o2 HO2.out hHeld)).mono ?_
              rintro e x1 ⟨rfl, hx1⟩
              have HX1 := hide (o2 hHeld hx1)
              clear hx1
              refine hK.out _ _ (HX1.out) (fun hHeld => ?_)
              clear hK K
              try simp only [Act.put, List.setIfInBounds_toArray, List.set_cons_zero, List.set_cons_succ]
              refine wpAnyH_take (i := 8) (oi := { dst := some 60, op := Op.move (Operand.tmp 68), type := 43, pos := "law.go:169", after := #[{ on := 7, ground := Ground.data }], guard := none }) (v := .tuple #[.agg #[.int .i64 0, .int .i64 0, .bool false, .string ⟨#[]⟩, .string ⟨#[]⟩], .bool false]) rfl (by kernel_rfl) (by kernel_rfl) (by kernel_rfl) (fun _ _ _ h => h) (Or.inl ⟨by rfl, fun w' hSw => by clear hSw; go_simp⟩) (by assumption) ?_
              simp only [Act.put, List.setIfInBounds_toArray, List.set_cons_zero, List.set_cons_succ]
              refine wpAnyH_take (i := 9) (oi := { dst := some 69, op := Op.extract (Operand.tmp 60) 0, type := 26, pos := "law.go:169", after := #[{ on := 8, ground := Ground.data }], guard := none }) (v := .agg #[.int .i64 0, .int .i64 0, .bool false, .string ⟨#[]⟩, .string ⟨#[]⟩]) rfl (by kernel_rfl) (by kernel_rfl) (by kernel_rfl) (fun _ _ _ h => h) (Or.inl ⟨by rfl, fun w' hSw => by clear hSw; go_simp⟩) (by assumption) ?_
              simp only [Act.put, List.setIfInBounds_toArray, List.set_cons_zero, List.set_cons_succ]
              refine wpAnyH_take (i := 10) (oi := { dst := some 70, op := Op.extract (Operand.tmp 60) 1, type := 4, pos := "law.go:169", after := #[{ on := 8, ground := Ground.data }, { on := 12, ground := Ground.gcOnly Departure.lateStores }], guard := none }) (v := .bool false) rfl (by kernel_rfl) (by kernel_rfl) (by kernel_rfl) (fun _ _ _ h => h) (Or.inl ⟨by rfl, fun w' hSw => by clear hSw; go_simp⟩) (by assumption) ?_
              simp only [Act.put, List.setIfInBounds_toArray, List.set_cons_zero, List.set_cons_succ]
              refine wpAnyH_ready (rs := [11]) (by kernel_rfl) (by simp) ?_
              refine AllReadyH.cons (o := { dst := some 9, op := Op.alloc 26, type := 0, pos := "law.go:169", after := #[], guard := none }) rfl (fun K hK => ?_) (AllReadyH.nil)
              go_simp
              refine hK.out _ _ (o2 HX1.out (onlyA _ _)) (fun hHeld => ?_)
              clear hK K
              try simp only [Act.put, List.setIfInBounds_toArray, List.set_cons_zero, List.set_cons_succ]
              refine wpAnyH_ready (rs := [12]) (by kernel_rfl) (by simp) ?_
              refine AllReadyH.cons (o := { dst := none, op := Op.store 26 (Operand.tmp 9) (Operand.tmp 69), type := 0, pos := "law.go:169", after := #[{ on := 11, ground := Ground.data }, { on := 9, ground := Ground.data }, { on := 7, ground := Ground.chain }, { on := 0, ground := Ground.phase }, { on := 1, ground := Ground.phase }, { on := 2, ground := Ground.phase }, { on := 3, ground := Ground.phase }, { on := 4, ground := Ground.phase }, { on := 5, ground := Ground.phase }, { on := 6, ground := Ground.phase }, { on := 7, ground := Ground.phase }, { on := 8, ground := Ground.phase }, { on := 9, ground := Ground.phase }, { on := 10, ground := Ground.textOnly Departure.lateStores }, { on := 11, ground := Ground.phase }], guard := none }) rfl (fun K hK => ?_) (AllReadyH.nil)
              go_simp
              have HX9 := hide (o2 HX1.out (onlyA x1 (.cells #[.int .i64 0, .int .i64 0, .bool false, .string ⟨#[]⟩, .string ⟨#[]⟩] 26)))
              refine hK.out _ _ (HX9.out) (fun hHeld => ?_)
              clear hK K
              try simp only [Act.put, List.setIfInBounds_toArray, List.set_cons_zero, List.set_cons_succ]
              refine wpAnyH_take (i := 13) (oi := { dst := some 10, op := Op.assign (Operand.tmp 70), type := 4, pos := "law.go:169", after := #[{ on := 10, ground := Ground.data }, { on := 12, ground := Ground.chain }, { on := 0, ground := Ground.phase }, { on := 1, ground := Ground.phase }, { on := 2, ground := Ground.phase }, { on := 3, ground := Ground.phase }, { on := 4, ground := Ground.phase }, { on := 5, ground := Ground.phase }, { on := 6, ground := Ground.phase }, { on := 7, ground := Ground.phase }, { on := 8, ground := Ground.phase }, { on := 9, ground := Ground.phase }, { on := 10, ground := Ground.phase }, { on := 11, ground := Ground.phase }, { on := 12, ground := Ground.phase }], guard := none }) (v := .bool false) rfl (by kernel_rfl) (by kernel_rfl) (by kernel_rfl) (fun _ _ _ h => h) (Or.inl ⟨by rfl, fun w' hSw => by clear hSw; go_simp⟩) (by assumption) ?_
              simp only [Act.put, List.setIfInBounds_toArray, List.set_cons_zero, List.set_cons_succ]
              refine wpAnyH_done (by kernel_rfl) ?_ _
              refine NoPanic.normal ?_
              go_wp2_with fail
              go_meet
              exact ⟨_, rfl, rfl, HX9⟩
            · go_simp
              have HZA : Hid (Tb ((w2.alloc (.cells #[.int .i64 0, .int .i64 0, .bool false, .string ⟨#[]⟩, .string ⟨#[]⟩] 26)).drew) w2.heap.size noT) := (Tb.new w2 noT).more (Only.drew _ _)
              have HSA : Hid (Only (fun _ => False) w2 ((w2.alloc (.cells #[.int .i64 0, .int .i64 0, .bool false, .string ⟨#[]⟩, .string ⟨#[]⟩] 26)).drew)) := o2 (onlyA _ _) (Only.drew _ _)
              refine hK.out _ _ (HSA.out) (fun hHeld => ?_)
              clear hK K
              try simp only [Act.put, List.setIfInBounds_toArray, List.set_cons_zero, List.set_cons_succ]
              refine wpAnyH_ready (rs := [7]) (by kernel_rfl) (by simp) ?_
              refine AllReadyH.cons (o := { dst := some 68, op := Op.call { callee := Callee.value (Operand.func 11), args := #[Operand.tmp 61, Operand.tmp 62, Operand.tmp 67], argTypes := #[24, 3, 9] }, type := 43, pos := "law.go:169", after := #[{ on := 0, ground := Ground.data }, { on := 1, ground := Ground.data }, { on := 6, ground := Ground.data }], guard := none }) rfl (fun K hK => ?_) (AllReadyH.nil)
              go_simp
              refine (HK1.out _ (o2 HO2.out hHeld)).mono ?_
              rintro e x1 ⟨rfl, hx1⟩
              have HX1 := hide (o2 hHeld hx1)
              have HZB := hide (HZA.out.more hx1)
              obtain ⟨z0, z1, z2, z3, z4, y0, y1, y2, y3, y4, zl⟩ := HZB.out
              clear hx1
              refine hK.out _ _ (HX1.out) (fun hHeld => ?_)
              clear hK K
              try simp only [Act.put, List.setIfInBounds_toArray, List.set_cons_zero, List.set_cons_succ]
              refine wpAnyH_take (i := 8) (oi := { dst := some 60, op := Op.move (Operand.tmp 68), type := 43, pos := "law.go:169", after := #[{ on := 7, ground := Ground.data }], guard := none }) (v := .tuple #[.agg #[.int .i64 0, .int .i64 0, .bool false, .string ⟨#[]⟩, .string ⟨#[]⟩], .bool false]) rfl (by kernel_rfl) (by kernel_rfl) (by kernel_rfl) (fun _ _ _ h => h) (Or.inl ⟨by rfl, fun w' hSw => by clear hSw; go_simp⟩) (by assumption) ?_
              simp only [Act.put, List.setIfInBounds_toArray, List.set_cons_zero, List.set_cons_succ]
              refine wpAnyH_take (i := 9) (oi := { dst := some 69, op := Op.extract (Operand.tmp 60) 0, type := 26, pos := "law.go:169", after := #[{ on := 8, ground := Ground.data }], guard := none }) (v := .agg #[.int .i64 0, .int .i64 0, .bool false, .string ⟨#[]⟩, .string ⟨#[]⟩]) rfl (by kernel_rfl) (by kernel_rfl) (by kernel_rfl) (fun _ _ _ h => h) (Or.inl ⟨by rfl, fun w' hSw => by clear hSw; go_simp⟩) (by assumption) ?_
              simp only [Act.put, List.setIfInBounds_toArray, List.set_cons_zero, List.set_cons_succ]
              refine wpAnyH_take (i := 10) (oi := { dst := some 70, op := Op.extract (Operand.tmp 60) 1, type := 4, pos := "law.go:169", after := #[{ on := 8, ground := Ground.data }, { on := 12, ground := Ground.gcOnly Departure.lateStores }], guard := none }) (v := .bool false) rfl (by kernel_rfl) (by kernel_rfl) (by kernel_rfl) (fun _ _ _ h => h) (Or.inl ⟨by rfl, fun w' hSw => by clear hSw; go_simp⟩) (by assumption) ?_
              simp only [Act.put, List.setIfInBounds_toArray, List.set_cons_zero, List.set_cons_succ]
              refine wpAnyH_ready (rs := [12]) (by kernel_rfl) (by simp) ?_
              refine AllReadyH.cons (o := { dst := none, op := Op.store 26 (Operand.tmp 9) (Operand.tmp 69), type := 0, pos := "law.go:169", after := #[{ on := 11, ground := Ground.data }, { on := 9, ground := Ground.data }, { on := 7, ground := Ground.chain }, { on := 0, ground := Ground.phase }, { on := 1, ground := Ground.phase }, { on := 2, ground := Ground.phase }, { on := 3, ground := Ground.phase }, { on := 4, ground := Ground.phase }, { on := 5, ground := Ground.phase }, { on := 6, ground := Ground.phase }, { on := 7, ground := Ground.phase }, { on := 8, ground := Ground.phase }, { on := 9, ground := Ground.phase }, { on := 10, ground := Ground.textOnly Departure.lateStores }, { on := 11, ground := Ground.phase }], guard := none }) rfl (fun K hK => ?_) (AllReadyH.nil)
              go_simp
              have HX9 := hide (HZB.out.fiveK HX1.out (Nat.le_refl _) (.int .i64 0) (.int .i64 0) (.bool false) (.string ⟨#[]⟩) (.string ⟨#[]⟩))
              refine hK.out _ _ (HX9.out) (fun hHeld => ?_)
              clear hK K
              try simp only [Act.put, List.setIfInBounds_toArray, List.set_cons_zero, List.set_cons_succ]
              refine wpAnyH_take (i := 13) (oi := { dst := some 10, op := Op.assign (Operand.tmp 70), type := 4, pos := "law.go:169", after := #[{ on := 10, ground := Ground.data }, { on := 12, ground := Ground.chain }, { on := 0, ground := Ground.phase }, { on := 1, ground := Ground.phase }, { on := 2, ground := Ground.phase }, { on := 3, ground := Ground.phase }, { on := 4, ground := Ground.phase }, { on := 5, ground := Ground.phase }, { on := 6, ground := Ground.phase }, { on := 7, ground := Ground.phase }, { on := 8, ground := Ground.phase }, { on := 9, ground := Ground.phase }, { on := 10, ground := Ground.phase }, { on := 11, ground := Ground.phase }, { on := 12, ground := Ground.phase }], guard := none }) (v := .bool false) rfl (by kernel_rfl) (by kernel_rfl) (by kernel_rfl) (fun _ _ _ h => h) (Or.inl ⟨by rfl, fun w' hSw => by clear hSw; go_simp⟩) (by assumption) ?_
              simp only [Act.put, List.setIfInBounds_toArray, List.set_cons_zero, List.set_cons_succ]
              refine wpAnyH_done (by kernel_rfl) ?_ _
              refine NoPanic.normal ?_
              go_wp2_with fail
              go_meet
              exact ⟨_, rfl, rfl, HX9⟩
          case rest =>
            obtain ⟨b, rfl, rfl, HX3⟩ := hcut
            have HP3 := hide (HP2.out.more HX3.out)
            have HO3 := hide (o2 HO2.out HX3.out)
            obtain ⟨p0, p1, p2, p3, p4, p5, _⟩ := HP3.out
            obtain ⟨w3, hw3⟩ : ∃ x, x = x := ⟨wr, rfl⟩
            clear hw3 w3
            go_wp2_with fail
            refine (HK2.out _ HO3.out).mono ?_
            rintro e w4 ⟨rfl, ho4⟩
            have HN4 := hide (onlyA w4 (.cells #[.int .i64 T2.xmin, .int .i64 T2.xmax, .bool T2.frozen, .string T2.key, .string T2.value] 26))
            have HX4 := hide (o2 (o2 (o2 HX2.out HX3.out) ho4) HN4.out)
            have HE4 := ((HX3.out.cell (p := ⟨g, M * 3, none⟩) HG2.out (fun h => h)).trans HE0.out)
            have HE5 := (((o2 ho4 HN4.out).cell (p := ⟨g, M * 3, none⟩) (Nat.lt_of_lt_of_le HG2.out HX3.out.size) (fun h => h)).trans HE4)
            clear ho4 p0 p1 p2 p3 p4 p5 HE4
            go_upto_region 12 with fail
            obtain ⟨w5, hw5⟩ : ∃ y, w4.alloc (.cells #[.int .i64 T2.xmin, .int .i64 T2.xmax, .bool T2.frozen, .string T2.key, .string T2.value] 26) = y := ⟨_, rfl⟩
            rw [hw5] at HX4 HE5 ⊢
            clear hw5 HN4
            have e9 : NO = false := by
              cases NO
              · rfl
              · exact (HNE2.out rfl).elim
            subst e9
            clear HNE2
            go_wp2_with fail
            go_roundw
            case rel => exact ⟨j + 1, M + 1, by omega, by omega, by go_num, by go_num, by unfold Hid; rw [HSM1.out, List.length_append, ← HM.out]; rfl, HX4⟩
            case measure => simp [intOf]; omega
        · have HN := hide (HNO.out hkn)
          have h3' : (ST != 3) = true := by simpa using h3
          have h2' : (ST != 2) = true := by simpa using h2
          clear h3 h2 hkn HAT HSM HNO HVE HIT
          go_wp2_with fail
          refine (HST.out _).mono ?_
          rintro e w2 ⟨rfl, ho2⟩
          have HX2 := hide (o2 HX.out ho2)
          clear ho2
          go_wp2_with fail
          go_roundw
          case rel => exact ⟨j + 1, M, by omega, hM, by go_num, rfl, by unfold Hid; rw [HN.out]; exact HM.out, HX2⟩
          case measure => simp [intOf]; omega
      · have hlk : ¬ (j : Int) < (l.length : Int) := by omega
        have ej : j = l.length := by omega
        have em : M = nE := by rw [HM.out, ej, HNE.out]
        subst em
        clear ej
        go_wp2_with fail
        refine (HAW.out _).mono ?_
        rintro e wz ⟨rfl, hoz⟩
        have HOZ := hide (o2 HOj.out hoz)
        clear hoz
        go_wp2_with fail
        go_ret
        exact ⟨rfl, HOZ.out⟩
  · have hk' : (k == 2) = false := by simpa using hk
    rw [if_neg hk] at hes
    obtain ⟨ka, kc, hks⟩ := hes.form
    subst hks
    clear hk hes
    simp only [List.length_nil]
    go_upto_region 4 with fail
    go_loopw [6, 7] (fun m i wr => i = .int .i64 0 ∧ m = .int .i64 0 ∧ Hid (Only (fun _ => False) w1 wr)) (fun _ i _ => 0)
    case atStart => exact ⟨rfl, rfl, hide (Only.refl _ _)⟩
    case round =>
      obtain ⟨rfl, rfl, HX⟩ := hrel
      have HPj := hide (HP1.out.more HX.out)
      have HOj := hide (o2 HO1.out HX.out)
      have c5 := HPj.out.c5
      have c1 := HPj.out.c1
      by_cases h0 : (0 : Int) < (l.length : Int)
      · go_wp2_with fail
        refine (HAW.out _).mono ?_
        rintro e wz ⟨rfl, hoz⟩
        have HOZ := hide (o2 HOj.out hoz)
        clear hoz
        go_wp2_with fail
        go_ret
        exact ⟨rfl, HOZ.out⟩
      · go_wp2_with fail
        refine (HAW.out _).mono ?_
        rintro e wz ⟨rfl, hoz⟩
        have HOZ := hide (o2 HOj.out hoz)
        clear hoz
        go_wp2_with fail
        go_ret
        exact ⟨rfl, HOZ.out⟩
end Go.Proofs.Ytpbpamhlenogoaa
