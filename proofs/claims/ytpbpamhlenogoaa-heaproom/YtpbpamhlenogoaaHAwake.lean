/- The law's own example. -/
import Derived.Test.YtpbpamhlenogoaaHDoes
import Derived.Test.YtpbpamhlenogoaaHKeys
import Derived.Test.YtpbpamhlenogoaaHMark
namespace Go.Proofs.Ytpbpamhlenogoaa
open Go.RowKit

def hxT : Tu := ⟨3, 0, false, ⟨#[97]⟩, ⟨#[120]⟩⟩
theorem hxT_ok : hxT.ok = true := rfl
def hxS : ByteArray := str hxT.enc
theorem hxS_size : hxS.size = 9 := by unfold hxS; rw [str_size, enc_lenT hxT_ok]; rfl
theorem hx_put : putL [] 0 hxS = [hxS] := rfl
theorem hx_isz : isz [hxS] = 11 := by rw [isz_cons, isz_nil, hxS_size]
theorem hx_fit (s : ByteArray) (h : s.size ≤ 95) : fitL ⟨#[]⟩ [s] = true := by
  rw [fitL_iff, isz_cons, isz_nil]
  have : (⟨#[]⟩ : ByteArray).size = 0 := rfl
  simp only [List.length_cons, List.length_nil]
  omega
theorem hx_ins : insE 2 ⟨#[]⟩ [] hxT = 0 := by
  unfold insE
  rw [if_pos rfl, hxT_ok]
  exact szE_fit (hx_fit hxS (by rw [hxS_size]; omega))
theorem hx_insR : insR [] 7 hxT = ⟨1, 3, 7, 0, 0, 0, hxS⟩ := rfl
theorem hx_out : (Pg.out ⟨0, 2, 0, 0, ⟨#[]⟩, [hxS]⟩).2 = 0 := by
  rw [out_ok (by unfold Pg.inRange; simp) (fitL_iff.1 (hx_fit hxS (by rw [hxS_size]; omega)))]
theorem hx_dec : decT (bl hxS) = some hxT := dec_encT hxT_ok
theorem hx_look : lookL 2 [hxS] 0 ⟨#[97]⟩ = some hxT := by
  unfold lookL
  have := verL_at (l := [hxS]) (j := 0) (by simp)
  rw [show verL 2 [hxS] 0 = some hxT from this.trans hx_dec]
  rfl
theorem hx_look2 : lookL 2 [hxS] 0 ⟨#[98]⟩ = none := by
  unfold lookL
  have := verL_at (l := [hxS]) (j := 0) (by simp)
  rw [show verL 2 [hxS] 0 = some hxT from this.trans hx_dec]
  simp only
  rw [if_neg (by unfold hxT; simp only; exact one_ne (by decide))]
theorem hx_room : roomH 2 ⟨#[]⟩ [] = 490 := by
  have hf := hx_fit ⟨#[]⟩ (Nat.zero_le _)
  unfold roomH
  rw [if_pos ⟨rfl, hf⟩]
  rfl
theorem hx_ents : (entsL [hxS] 1).length = 1 := by
  rw [entsL_some (l := [hxS]) (n := 0) (k := hxT.key) (by simp) (by show keyT (bl hxS) = _; unfold keyT; rw [hx_dec])]
  rfl
/-- A page laid in a variable. -/
structure LaidP (w0 wc : World) (b : Nat) (p : Pg) (B : Nat) (ao : Option Addr) (cp : Nat) : Prop where
  pag : Pag wc b (.int .i64 p.lsn) (.int .i64 p.kind) (.int .i64 p.level) (.int .i64 p.right) (.string p.high) (.slice ao p.items.length cp)
  strs : Strs wc B ao p.items
  fit : Fit ao p.items.length cp
  only : Only (fun _ => False) w0 wc
theorem LaidP.more {w0 wc wd : World} {b : Nat} {p : Pg} {B : Nat} {ao : Option Addr} {cp : Nat} (H : LaidP w0 wc b p B ao cp) (ho : Only (fun _ => False) wc wd) : LaidP w0 wd b p B ao cp := ⟨H.pag.more ho, H.strs.more ho, H.fit, o2 H.only ho⟩
theorem LaidP.first {w0 w5 : World} {p : Pg} {B : Nat} {ao : Option Addr} {cp : Nat} (hS : Strs w5 B ao p.items) (hF : Fit ao p.items.length cp) (ho : Only (fun _ => False) w0 w5) :
    LaidP w0 (w5.alloc (.cells #[.int .i64 p.lsn, .int .i64 p.kind, .int .i64 p.level, .int .i64 p.right, .string p.high, .slice ao p.items.length cp] 24)) w5.heap.size p B ao cp :=
  ⟨Pag.new _ _ _ _ _ _ _, hS.more (onlyA _ _), hF, o2 ho (onlyA _ _)⟩
theorem LaidP.then {w0 w5 : World} {b : Nat} {p : Pg} {B : Nat} {ao : Option Addr} {cp : Nat} {u0 u1 u2 u3 u4 u5 : Value} (hp : Pag w5 b u0 u1 u2 u3 u4 u5) (hS : Strs w5 B ao p.items) (hF : Fit ao p.items.length cp) (ho : Only (fun _ => False) w0 w5) (hb : w0.heap.size ≤ b) (hB : 0 < p.items.length → b ≠ B) :
    LaidP w0 ((((((w5.setCell ⟨b, 0, none⟩ (.int .i64 p.lsn)).setCell ⟨b, 1, none⟩ (.int .i64 p.kind)).setCell ⟨b, 2, none⟩ (.int .i64 p.level)).setCell ⟨b, 3, none⟩ (.int .i64 p.right)).setCell ⟨b, 4, none⟩ (.string p.high)).setCell ⟨b, 5, none⟩ (.slice ao p.items.length cp)) b p B ao cp :=
  have h6 := Only.six w5 b (.int .i64 p.lsn) (.int .i64 p.kind) (.int .i64 p.level) (.int .i64 p.right) (.string p.high) (.slice ao p.items.length cp)
  ⟨hp.six _ _ _ _ _ _, hS.kept h6 (fun h0 e => hB h0 e.symm), hF, ho.trans h6 (fun i hi e => by omega)⟩
theorem yieldsIf_load_hr {ops : Array Oper} {S : World → Prop} {op : Oper} {a : Act} {r : Hr} (hw : Region.wanted op (yielded ops a.tmps) = true) (x : Operand) (ho : op.op = .load 34 x)
    {b : Nat} (hx : a.eval x = .pointer (some ⟨b, 0, none⟩)) (hS : ∀ w, S w → Hb w b r) : YieldsIf Try.prog ops S op (.agg r.cells) a :=
  .inl ⟨hw, fun w hw' => by
    unfold execOp
    simp only [ho, hx, Instr.loadAt, Instr.sureAddr, Sem.run_bind, Sem.run_pure, Result.andThen_ok, (hS w hw').load]⟩
set_option maxRecDepth 100000 in
set_option maxHeartbeats 3200000 in
theorem hawake_any (w : World) : Calls Try.prog 8 #[] w fun e w' => e = .returned (.bool true) ∧ Only (fun _ => False) w w' := by
  have HINS : Hid (∀ W, Calls Try.prog 7 #[.agg #[.int .i64 0, .int .i64 2, .int .i64 0, .int .i64 0, .string ⟨#[]⟩, .slice none 0 0], .int .i64 7, .agg #[.int .i64 3, .int .i64 0, .bool false, .string ⟨#[97]⟩, .string ⟨#[120]⟩]] W fun e w' => e = .returned (.tuple #[.agg (Hr.cells ⟨1, 3, 7, 0, 0, 0, hxS⟩), .int .i64 0]) ∧ Only (fun _ => False) W w') := fun W => by
    have := insert_any W 0 2 0 0 ⟨#[]⟩ 0 0 none [] 7 hxT (Strs.nil _ _ _) ⟨fun _ => rfl, Nat.le_refl _, Nat.zero_le _⟩ (Nat.zero_le _) (by decide) (by decide)
    rw [hx_ins, if_pos rfl, hx_insR] at this
    exact this
  have HDOES : Hid (∀ W, Calls Try.prog 10 #[.agg #[.int .i64 0, .int .i64 2, .int .i64 0, .int .i64 0, .string ⟨#[]⟩, .slice none 0 0], .agg (Hr.cells ⟨1, 3, 7, 0, 0, 0, hxS⟩)] W fun e w' => ∃ B ao cp, e = .returned (.tuple #[.agg #[.int .i64 0, .int .i64 2, .int .i64 0, .int .i64 0, .string ⟨#[]⟩, .slice ao 1 cp], .bool true]) ∧ Strs w' B ao [hxS] ∧ Fit ao 1 cp ∧ W.heap.size ≤ B ∧ Only (fun _ => False) W w') := fun W => by
    refine (does_eq W 0 2 0 0 ⟨#[]⟩ 0 0 none [] 0 3 7 hxS (Strs.nil _ _ _) ⟨fun _ => rfl, Nat.le_refl _, Nat.zero_le _⟩ (Nat.zero_le _) (by decide) (by rw [hxS_size]; omega) (by simp) rfl).mono ?_
    rintro e w' ⟨⟨B, ao, cp, rfl, hS, hF, hB⟩, ho⟩
    simp only [hx_put] at hS hF hB ⊢
    rw [hx_out]
    exact ⟨B, ao, cp, rfl, hS, hF, hB (by simp), ho⟩
  have HLK : Hid (∀ W B ao cp, Strs W B ao [hxS] → Calls Try.prog 11 #[.agg #[.int .i64 0, .int .i64 2, .int .i64 0, .int .i64 0, .string ⟨#[]⟩, .slice ao 1 cp], .int .i64 0, .string ⟨#[97]⟩] W fun e w' => e = .returned (.tuple #[.agg #[.int .i64 3, .int .i64 0, .bool false, .string ⟨#[97]⟩, .string ⟨#[120]⟩], .bool true]) ∧ Only (fun _ => False) W w') := fun W B ao cp hS => by
    have := look_any W 0 2 0 0 ⟨#[]⟩ B cp ao [hxS] 0 ⟨#[97]⟩ hS
    rw [hx_look] at this
    exact this
  have HLK2 : Hid (∀ W B ao cp, Strs W B ao [hxS] → Calls Try.prog 11 #[.agg #[.int .i64 0, .int .i64 2, .int .i64 0, .int .i64 0, .string ⟨#[]⟩, .slice ao 1 cp], .int .i64 0, .string ⟨#[98]⟩] W fun e w' => e = .returned (.tuple #[.agg #[.int .i64 0, .int .i64 0, .bool false, .string ⟨#[]⟩, .string ⟨#[]⟩], .bool false]) ∧ Only (fun _ => False) W w') := fun W B ao cp hS => by
    have := look_any W 0 2 0 0 ⟨#[]⟩ B cp ao [hxS] 0 ⟨#[98]⟩ hS
    rw [hx_look2] at this
    exact this
  have HMK : Hid (∀ W B ao cp, Strs W B ao [hxS] → Fit ao 1 cp → Calls Try.prog 19 #[.agg #[.int .i64 0, .int .i64 2, .int .i64 0, .int .i64 0, .string ⟨#[]⟩, .slice ao 1 cp], .int .i64 7, .int .i64 0, .int .i64 5] W fun e w' => e = .returned (.tuple #[.agg (Hr.cells ⟨2, 5, 7, 0, 0, 5, ⟨#[]⟩⟩), .int .i64 0]) ∧ Only (fun _ => False) W w') := fun W B ao cp hS hF =>
    mark_ok W 0 0 0 ⟨#[]⟩ B cp ao [hxS] 0 hxT 7 5 hS hF (Nat.zero_le _) (by simp) hx_dec (by decide) (by decide) (by decide) (hx_fit _ (by rw [str_size, enc_lenT rfl]; decide))
  have HRM : Hid (∀ W, Calls Try.prog 6 #[.agg #[.int .i64 0, .int .i64 2, .int .i64 0, .int .i64 0, .string ⟨#[]⟩, .slice none 0 0]] W fun e w' => e = .returned (.int .i64 490) ∧ Only (fun _ => False) W w') := fun W => by
    have := room_any W 0 2 0 0 ⟨#[]⟩ 0 0 none [] (Strs.nil _ _ _) ⟨fun _ => rfl, Nat.le_refl _, Nat.zero_le _⟩ (Nat.zero_le _)
    rw [hx_room] at this
    exact this
  have HKY : Hid (∀ W B ao cp, Strs W B ao [hxS] → Calls Try.prog 13 #[.agg #[.int .i64 0, .int .i64 2, .int .i64 0, .int .i64 0, .string ⟨#[]⟩, .slice ao 1 cp]] W fun e w' => (∃ a c, e = .returned (.slice a 1 c)) ∧ Only (fun _ => False) W w') := fun W B ao cp hS => by
    refine (keys_any W 0 2 0 0 ⟨#[]⟩ B cp ao [hxS] hS (by simp)).mono ?_
    rintro e w' ⟨ks, rfl, he, ho⟩
    obtain ⟨a, c, rfl⟩ := he.form
    rw [if_pos rfl]
    exact ⟨⟨a, c, by rw [show (entsL [hxS] [hxS].length).length = 1 from hx_ents]⟩, ho⟩
  go_enter Try.func8, Try.ntmps8
  go_wp2_with fail
  refine (blank_any _).mono ?_
  rintro e w1 ⟨rfl, ho1⟩
  go_wp2_with fail
  refine (HINS.out _).mono ?_
  rintro e w2 ⟨rfl, ho2⟩
  have HO2 := hide (o2 ho1 ho2)
  have HB2 := hide (Hb.new w2 Hr.none)
  have HA2 := hide (onlyA w2 (.cells Hr.none.cells 34))
  clear ho1 ho2
  go_upto_region 2 with (refine wpList_put_hr rfl (.tmp 1) (.tmp 15) rfl w2.heap.size rfl Hr.none ⟨1, 3, 7, 0, 0, 0, hxS⟩ rfl HB2.out ?_; intro W9 HW9; go_frame)
  have HR9 := hide HW9.out.at_
  have HO9 : Hid (Only (fun _ => False) w W9) := (o2 HO2.out HA2.out).trans HW9.out.only (fun i hi e => by have := HO2.out.size; omega)
  obtain ⟨rb, hrb⟩ : ∃ b, w2.heap.size = b := ⟨_, rfl⟩
  rw [hrb] at HR9 ⊢
  clear HW9 HB2 HA2 HO2 hrb
  go_cut [3, 4] (fun p u wc => ∃ b B ao cp, p = .pointer (some ⟨b, 0, none⟩) ∧ u = .bool true ∧ Hid (LaidP W9 wc b ⟨0, 2, 0, 0, ⟨#[]⟩, [hxS]⟩ B ao cp))
  case first =>
    refine wp_region_noPanic ?_
    refine wp_region_held_drew (S := fun W => Only (fun _ => False) W9 W) (by kernel_rfl) (Only.drew _ _) (fun hHeld => ?_)
    refine wpAnyH_take (i := 1) (oi := { dst := some 19, op := Op.load 34 (Operand.tmp 1), type := 34, pos := "law.go:46", after := #[], guard := none }) (v := .agg (Hr.cells ⟨1, 3, 7, 0, 0, 0, hxS⟩)) rfl (by kernel_rfl) (by kernel_rfl) (by kernel_rfl) (fun _ _ _ h => h) (yieldsIf_load_hr (by rfl) _ rfl rfl (fun W hW => HR9.out.more hW)) (by assumption) ?_
    simp only [Act.put, List.setIfInBounds_toArray, List.set_cons_zero, List.set_cons_succ]
    refine wpAnyH_ready (rs := [0, 6]) (by kernel_rfl) (by simp) ?_
    refine AllReadyH.cons (o := { dst := some 18, op := Op.call { callee := Callee.value (Operand.func 18), args := #[], argTypes := #[] }, type := 24, pos := "law.go:46", after := #[], guard := none }) rfl (fun K hK => ?_) (AllReadyH.cons (o := { dst := some 3, op := Op.alloc 24, type := 0, pos := "law.go:46", after := #[], guard := none }) rfl (fun K hK => ?_) (AllReadyH.nil))
    · go_simp
      refine (blank_any _).mono ?_
      rintro e x1 ⟨rfl, hx1⟩
      have HX1 := hide (o2 hHeld hx1)
      clear hx1
      refine hK.out _ _ (HX1.out) (fun hHeld => ?_)
      clear hK K
      try simp only [Act.put, List.setIfInBounds_toArray, List.set_cons_zero, List.set_cons_succ]
      refine wpAnyH_ready (rs := [2, 6]) (by kernel_rfl) (by simp) ?_
      refine AllReadyH.cons (o := { dst := some 20, op := Op.call { callee := Callee.value (Operand.func 10), args := #[Operand.tmp 18, Operand.tmp 19], argTypes := #[24, 34] }, type := 41, pos := "law.go:46", after := #[{ on := 0, ground := Ground.data }, { on := 1, ground := Ground.data }, { on := 0, ground := Ground.chain }], guard := none }) rfl (fun K hK => ?_) (AllReadyH.cons (o := { dst := some 3, op := Op.alloc 24, type := 0, pos := "law.go:46", after := #[], guard := none }) rfl (fun K hK => ?_) (AllReadyH.nil))
      · go_simp
        refine (HDOES.out _).mono ?_
        rintro e x2 ⟨B, ao, cp, rfl, hS2, hF2, hB2, hx2⟩
        have HX2 := hide (o2 hHeld hx2)
        have HL := hide (LaidP.first (w0 := W9) (p := ⟨0, 2, 0, 0, ⟨#[]⟩, [hxS]⟩) hS2 hF2 HX2.out)
        clear hS2 hF2 hx2 hB2
        refine hK.out _ _ (HX2.out) (fun hHeld => ?_)
        clear hK K
        try simp only [Act.put, List.setIfInBounds_toArray, List.set_cons_zero, List.set_cons_succ]
        refine wpAnyH_take (i := 3) (oi := { dst := some 17, op := Op.move (Operand.tmp 20), type := 41, pos := "law.go:46", after := #[{ on := 2, ground := Ground.data }], guard := none }) (v := .tuple #[.agg #[.int .i64 0, .int .i64 2, .int .i64 0, .int .i64 0, .string ⟨#[]⟩, .slice ao 1 cp], .bool true]) rfl (by kernel_rfl) (by kernel_rfl) (by kernel_rfl) (fun _ _ _ h => h) (Or.inl ⟨by rfl, fun w' hSw => by clear hSw; go_simp⟩) (by assumption) ?_
        simp only [Act.put, List.setIfInBounds_toArray, List.set_cons_zero, List.set_cons_succ]
        refine wpAnyH_take (i := 4) (oi := { dst := some 21, op := Op.extract (Operand.tmp 17) 0, type := 24, pos := "law.go:46", after := #[{ on := 3, ground := Ground.data }], guard := none }) (v := .agg #[.int .i64 0, .int .i64 2, .int .i64 0, .int .i64 0, .string ⟨#[]⟩, .slice ao 1 cp]) rfl (by kernel_rfl) (by kernel_rfl) (by kernel_rfl) (fun _ _ _ h => h) (Or.inl ⟨by rfl, fun w' hSw => by clear hSw; go_simp⟩) (by assumption) ?_
        simp only [Act.put, List.setIfInBounds_toArray, List.set_cons_zero, List.set_cons_succ]
        refine wpAnyH_take (i := 5) (oi := { dst := some 22, op := Op.extract (Operand.tmp 17) 1, type := 4, pos := "law.go:46", after := #[{ on := 3, ground := Ground.data }, { on := 7, ground := Ground.gcOnly Departure.lateStores }], guard := none }) (v := .bool true) rfl (by kernel_rfl) (by kernel_rfl) (by kernel_rfl) (fun _ _ _ h => h) (Or.inl ⟨by rfl, fun w' hSw => by clear hSw; go_simp⟩) (by assumption) ?_
        simp only [Act.put, List.setIfInBounds_toArray, List.set_cons_zero, List.set_cons_succ]
        refine wpAnyH_ready (rs := [6]) (by kernel_rfl) (by simp) ?_
        refine AllReadyH.cons (o := { dst := some 3, op := Op.alloc 24, type := 0, pos := "law.go:46", after := #[], guard := none }) rfl (fun K hK => ?_) (AllReadyH.nil)
        go_simp
        refine hK.out _ _ (o2 HX2.out (onlyA _ _)) (fun hHeld => ?_)
        clear hK K
        try simp only [Act.put, List.setIfInBounds_toArray, List.set_cons_zero, List.set_cons_succ]
        refine wpAnyH_ready (rs := [7]) (by kernel_rfl) (by simp) ?_
        refine AllReadyH.cons (o := { dst := none, op := Op.store 24 (Operand.tmp 3) (Operand.tmp 21), type := 0, pos := "law.go:46", after := #[{ on := 6, ground := Ground.data }, { on := 4, ground := Ground.data }, { on := 2, ground := Ground.chain }, { on := 0, ground := Ground.phase }, { on := 1, ground := Ground.phase }, { on := 2, ground := Ground.phase }, { on := 3, ground := Ground.phase }, { on := 4, ground := Ground.phase }, { on := 5, ground := Ground.textOnly Departure.lateStores }, { on := 6, ground := Ground.phase }], guard := none }) rfl (fun K hK => ?_) (AllReadyH.nil)
        go_simp
        refine hK.out _ _ (HL.out.only) (fun hHeld => ?_)
        clear hK K
        try simp only [Act.put, List.setIfInBounds_toArray, List.set_cons_zero, List.set_cons_succ]
        refine wpAnyH_take (i := 8) (oi := { dst := some 4, op := Op.assign (Operand.tmp 22), type := 4, pos := "law.go:46", after := #[{ on := 5, ground := Ground.data }, { on := 7, ground := Ground.chain }, { on := 0, ground := Ground.phase }, { on := 1, ground := Ground.phase }, { on := 2, ground := Ground.phase }, { on := 3, ground := Ground.phase }, { on := 4, ground := Ground.phase }, { on := 5, ground := Ground.phase }, { on := 6, ground := Ground.phase }, { on := 7, ground := Ground.phase }], guard := none }) (v := .bool true) rfl (by kernel_rfl) (by kernel_rfl) (by kernel_rfl) (fun _ _ _ h => h) (Or.inl ⟨by rfl, fun w' hSw => by clear hSw; go_simp⟩) (by assumption) ?_
        simp only [Act.put, List.setIfInBounds_toArray, List.set_cons_zero, List.set_cons_succ]
        refine wpAnyH_done (by kernel_rfl) ?_ _
        refine NoPanic.normal ?_
        go_wp2_with fail
        go_meet
        exact ⟨_, B, ao, cp, rfl, rfl, HL⟩
      · go_simp
        have HZA := hide (Pag.new x1 (.int .i64 0) (.int .i64 0) (.int .i64 0) (.int .i64 0) (.string ⟨#[]⟩) (.slice none 0 0))
        have HSA := hide (o2 HX1.out (onlyA x1 (.cells #[.int .i64 0, .int .i64 0, .int .i64 0, .int .i64 0, .string ⟨#[]⟩, .slice none 0 0] 24)))
        refine hK.out _ _ (HSA.out) (fun hHeld => ?_)
        clear hK K
        try simp only [Act.put, List.setIfInBounds_toArray, List.set_cons_zero, List.set_cons_succ]
        refine wpAnyH_ready (rs := [2]) (by kernel_rfl) (by simp) ?_
        refine AllReadyH.cons (o := { dst := some 20, op := Op.call { callee := Callee.value (Operand.func 10), args := #[Operand.tmp 18, Operand.tmp 19], argTypes := #[24, 34] }, type := 41, pos := "law.go:46", after := #[{ on := 0, ground := Ground.data }, { on := 1, ground := Ground.data }, { on := 0, ground := Ground.chain }], guard := none }) rfl (fun K hK => ?_) (AllReadyH.nil)
        go_simp
        refine (HDOES.out _).mono ?_
        rintro e x2 ⟨B, ao, cp, rfl, hS2, hF2, hB2, hx2⟩
        have HX2 := hide (o2 hHeld hx2)
        have HZB := hide (HZA.out.more hx2)
        obtain ⟨z0, z1, z2, z3, z4, z5, y0, y1, y2, y3, y4, y5, zl⟩ := HZB.out
        have hbn : W9.heap.size ≤ x1.heap.size := by first | exact Nat.le_refl _ | exact HX1.out.size
        have hlb := HZA.out.lt
        have HL := hide (LaidP.then (w0 := W9) (p := ⟨0, 2, 0, 0, ⟨#[]⟩, [hxS]⟩) HZB.out hS2 hF2 HX2.out hbn (fun _ => by omega))
        clear hS2 hF2 hx2 hB2 hbn hlb
        refine hK.out _ _ (HX2.out) (fun hHeld => ?_)
        clear hK K
        try simp only [Act.put, List.setIfInBounds_toArray, List.set_cons_zero, List.set_cons_succ]
        refine wpAnyH_take (i := 3) (oi := { dst := some 17, op := Op.move (Operand.tmp 20), type := 41, pos := "law.go:46", after := #[{ on := 2, ground := Ground.data }], guard := none }) (v := .tuple #[.agg #[.int .i64 0, .int .i64 2, .int .i64 0, .int .i64 0, .string ⟨#[]⟩, .slice ao 1 cp], .bool true]) rfl (by kernel_rfl) (by kernel_rfl) (by kernel_rfl) (fun _ _ _ h => h) (Or.inl ⟨by rfl, fun w' hSw => by clear hSw; go_simp⟩) (by assumption) ?_
        simp only [Act.put, List.setIfInBounds_toArray, List.set_cons_zero, List.set_cons_succ]
        refine wpAnyH_take (i := 4) (oi := { dst := some 21, op := Op.extract (Operand.tmp 17) 0, type := 24, pos := "law.go:46", after := #[{ on := 3, ground := Ground.data }], guard := none }) (v := .agg #[.int .i64 0, .int .i64 2, .int .i64 0, .int .i64 0, .string ⟨#[]⟩, .slice ao 1 cp]) rfl (by kernel_rfl) (by kernel_rfl) (by kernel_rfl) (fun _ _ _ h => h) (Or.inl ⟨by rfl, fun w' hSw => by clear hSw; go_simp⟩) (by assumption) ?_
        simp only [Act.put, List.setIfInBounds_toArray, List.set_cons_zero, List.set_cons_succ]
        refine wpAnyH_take (i := 5) (oi := { dst := some 22, op := Op.extract (Operand.tmp 17) 1, type := 4, pos := "law.go:46", after := #[{ on := 3, ground := Ground.data }, { on := 7, ground := Ground.gcOnly Departure.lateStores }], guard := none }) (v := .bool true) rfl (by kernel_rfl) (by kernel_rfl) (by kernel_rfl) (fun _ _ _ h => h) (Or.inl ⟨by rfl, fun w' hSw => by clear hSw; go_simp⟩) (by assumption) ?_
        simp only [Act.put, List.setIfInBounds_toArray, List.set_cons_zero, List.set_cons_succ]
        refine wpAnyH_ready (rs := [7]) (by kernel_rfl) (by simp) ?_
        refine AllReadyH.cons (o := { dst := none, op := Op.store 24 (Operand.tmp 3) (Operand.tmp 21), type := 0, pos := "law.go:46", after := #[{ on := 6, ground := Ground.data }, { on := 4, ground := Ground.data }, { on := 2, ground := Ground.chain }, { on := 0, ground := Ground.phase }, { on := 1, ground := Ground.phase }, { on := 2, ground := Ground.phase }, { on := 3, ground := Ground.phase }, { on := 4, ground := Ground.phase }, { on := 5, ground := Ground.textOnly Departure.lateStores }, { on := 6, ground := Ground.phase }], guard := none }) rfl (fun K hK => ?_) (AllReadyH.nil)
        go_simp
        refine hK.out _ _ (HL.out.only) (fun hHeld => ?_)
        clear hK K
        try simp only [Act.put, List.setIfInBounds_toArray, List.set_cons_zero, List.set_cons_succ]
        refine wpAnyH_take (i := 8) (oi := { dst := some 4, op := Op.assign (Operand.tmp 22), type := 4, pos := "law.go:46", after := #[{ on := 5, ground := Ground.data }, { on := 7, ground := Ground.chain }, { on := 0, ground := Ground.phase }, { on := 1, ground := Ground.phase }, { on := 2, ground := Ground.phase }, { on := 3, ground := Ground.phase }, { on := 4, ground := Ground.phase }, { on := 5, ground := Ground.phase }, { on := 6, ground := Ground.phase }, { on := 7, ground := Ground.phase }], guard := none }) (v := .bool true) rfl (by kernel_rfl) (by kernel_rfl) (by kernel_rfl) (fun _ _ _ h => h) (Or.inl ⟨by rfl, fun w' hSw => by clear hSw; go_simp⟩) (by assumption) ?_
        simp only [Act.put, List.setIfInBounds_toArray, List.set_cons_zero, List.set_cons_succ]
        refine wpAnyH_done (by kernel_rfl) ?_ _
        refine NoPanic.normal ?_
        go_wp2_with fail
        go_meet
        exact ⟨_, B, ao, cp, rfl, rfl, HL⟩
    · go_simp
      have HZA : Hid (Pag ((W9.alloc (.cells #[.int .i64 0, .int .i64 0, .int .i64 0, .int .i64 0, .string ⟨#[]⟩, .slice none 0 0] 24)).drew) W9.heap.size (.int .i64 0) (.int .i64 0) (.int .i64 0) (.int .i64 0) (.string ⟨#[]⟩) (.slice none 0 0)) := (Pag.new W9 _ _ _ _ _ _).more (Only.drew _ _)
      have HSA : Hid (Only (fun _ => False) W9 ((W9.alloc (.cells #[.int .i64 0, .int .i64 0, .int .i64 0, .int .i64 0, .string ⟨#[]⟩, .slice none 0 0] 24)).drew)) := o2 (onlyA _ _) (Only.drew _ _)
      refine hK.out _ _ (HSA.out) (fun hHeld => ?_)
      clear hK K
      try simp only [Act.put, List.setIfInBounds_toArray, List.set_cons_zero, List.set_cons_succ]
      refine wpAnyH_ready (rs := [0]) (by kernel_rfl) (by simp) ?_
      refine AllReadyH.cons (o := { dst := some 18, op := Op.call { callee := Callee.value (Operand.func 18), args := #[], argTypes := #[] }, type := 24, pos := "law.go:46", after := #[], guard := none }) rfl (fun K hK => ?_) (AllReadyH.nil)
      go_simp
      refine (blank_any _).mono ?_
      rintro e x1 ⟨rfl, hx1⟩
      have HX1 := hide (o2 hHeld hx1)
      have HZA := hide (HZA.out.more hx1)
      clear hx1
      refine hK.out _ _ (HX1.out) (fun hHeld => ?_)
      clear hK K
      try simp only [Act.put, List.setIfInBounds_toArray, List.set_cons_zero, List.set_cons_succ]
      refine wpAnyH_ready (rs := [2]) (by kernel_rfl) (by simp) ?_
      refine AllReadyH.cons (o := { dst := some 20, op := Op.call { callee := Callee.value (Operand.func 10), args := #[Operand.tmp 18, Operand.tmp 19], argTypes := #[24, 34] }, type := 41, pos := "law.go:46", after := #[{ on := 0, ground := Ground.data }, { on := 1, ground := Ground.data }, { on := 0, ground := Ground.chain }], guard := none }) rfl (fun K hK => ?_) (AllReadyH.nil)
      go_simp
      refine (HDOES.out _).mono ?_
      rintro e x2 ⟨B, ao, cp, rfl, hS2, hF2, hB2, hx2⟩
      have HX2 := hide (o2 hHeld hx2)
      have HZB := hide (HZA.out.more hx2)
      obtain ⟨z0, z1, z2, z3, z4, z5, y0, y1, y2, y3, y4, y5, zl⟩ := HZB.out
      have hbn : W9.heap.size ≤ W9.heap.size := by first | exact Nat.le_refl _ | exact HX1.out.size
      have hlb := HZA.out.lt
      have HL := hide (LaidP.then (w0 := W9) (p := ⟨0, 2, 0, 0, ⟨#[]⟩, [hxS]⟩) HZB.out hS2 hF2 HX2.out hbn (fun _ => by omega))
      clear hS2 hF2 hx2 hB2 hbn hlb
      refine hK.out _ _ (HX2.out) (fun hHeld => ?_)
      clear hK K
      try simp only [Act.put, List.setIfInBounds_toArray, List.set_cons_zero, List.set_cons_succ]
      refine wpAnyH_take (i := 3) (oi := { dst := some 17, op := Op.move (Operand.tmp 20), type := 41, pos := "law.go:46", after := #[{ on := 2, ground := Ground.data }], guard := none }) (v := .tuple #[.agg #[.int .i64 0, .int .i64 2, .int .i64 0, .int .i64 0, .string ⟨#[]⟩, .slice ao 1 cp], .bool true]) rfl (by kernel_rfl) (by kernel_rfl) (by kernel_rfl) (fun _ _ _ h => h) (Or.inl ⟨by rfl, fun w' hSw => by clear hSw; go_simp⟩) (by assumption) ?_
      simp only [Act.put, List.setIfInBounds_toArray, List.set_cons_zero, List.set_cons_succ]
      refine wpAnyH_take (i := 4) (oi := { dst := some 21, op := Op.extract (Operand.tmp 17) 0, type := 24, pos := "law.go:46", after := #[{ on := 3, ground := Ground.data }], guard := none }) (v := .agg #[.int .i64 0, .int .i64 2, .int .i64 0, .int .i64 0, .string ⟨#[]⟩, .slice ao 1 cp]) rfl (by kernel_rfl) (by kernel_rfl) (by kernel_rfl) (fun _ _ _ h => h) (Or.inl ⟨by rfl, fun w' hSw => by clear hSw; go_simp⟩) (by assumption) ?_
      simp only [Act.put, List.setIfInBounds_toArray, List.set_cons_zero, List.set_cons_succ]
      refine wpAnyH_take (i := 5) (oi := { dst := some 22, op := Op.extract (Operand.tmp 17) 1, type := 4, pos := "law.go:46", after := #[{ on := 3, ground := Ground.data }, { on := 7, ground := Ground.gcOnly Departure.lateStores }], guard := none }) (v := .bool true) rfl (by kernel_rfl) (by kernel_rfl) (by kernel_rfl) (fun _ _ _ h => h) (Or.inl ⟨by rfl, fun w' hSw => by clear hSw; go_simp⟩) (by assumption) ?_
      simp only [Act.put, List.setIfInBounds_toArray, List.set_cons_zero, List.set_cons_succ]
      refine wpAnyH_ready (rs := [7]) (by kernel_rfl) (by simp) ?_
      refine AllReadyH.cons (o := { dst := none, op := Op.store 24 (Operand.tmp 3) (Operand.tmp 21), type := 0, pos := "law.go:46", after := #[{ on := 6, ground := Ground.data }, { on := 4, ground := Ground.data }, { on := 2, ground := Ground.chain }, { on := 0, ground := Ground.phase }, { on := 1, ground := Ground.phase }, { on := 2, ground := Ground.phase }, { on := 3, ground := Ground.phase }, { on := 4, ground := Ground.phase }, { on := 5, ground := Ground.textOnly Departure.lateStores }, { on := 6, ground := Ground.phase }], guard := none }) rfl (fun K hK => ?_) (AllReadyH.nil)
      go_simp
      refine hK.out _ _ (HL.out.only) (fun hHeld => ?_)
      clear hK K
      try simp only [Act.put, List.setIfInBounds_toArray, List.set_cons_zero, List.set_cons_succ]
      refine wpAnyH_take (i := 8) (oi := { dst := some 4, op := Op.assign (Operand.tmp 22), type := 4, pos := "law.go:46", after := #[{ on := 5, ground := Ground.data }, { on := 7, ground := Ground.chain }, { on := 0, ground := Ground.phase }, { on := 1, ground := Ground.phase }, { on := 2, ground := Ground.phase }, { on := 3, ground := Ground.phase }, { on := 4, ground := Ground.phase }, { on := 5, ground := Ground.phase }, { on := 6, ground := Ground.phase }, { on := 7, ground := Ground.phase }], guard := none }) (v := .bool true) rfl (by kernel_rfl) (by kernel_rfl) (by kernel_rfl) (fun _ _ _ h => h) (Or.inl ⟨by rfl, fun w' hSw => by clear hSw; go_simp⟩) (by assumption) ?_
      simp only [Act.put, List.setIfInBounds_toArray, List.set_cons_zero, List.set_cons_succ]
      refine wpAnyH_done (by kernel_rfl) ?_ _
      refine NoPanic.normal ?_
      go_wp2_with fail
      go_meet
      exact ⟨_, B, ao, cp, rfl, rfl, HL⟩
  case rest =>
    obtain ⟨b, B, ao, cp, rfl, rfl, HL⟩ := hcut
    have HR := hide (HR9.out.more HL.out.only)
    have HO := hide (o2 HO9.out HL.out.only)
    clear HR9 HO9
    obtain ⟨p0, p1, p2, p3, p4, p5, _⟩ := HL.out.pag
    simp only [List.length_cons, List.length_nil, Nat.zero_add] at p0 p1 p2 p3 p4 p5
    go_wp2_with fail
    refine (HLK.out _ B ao cp HL.out.strs).mono ?_
    rintro e w3 ⟨rfl, ho3⟩
    have HT := hide (Tb.new w3 hxT)
    have HN := hide (onlyA w3 (.cells #[.int .i64 3, .int .i64 0, .bool false, .string ⟨#[97]⟩, .string ⟨#[120]⟩] 26))
    have HL := hide (HL.out.more (o2 ho3 HN.out))
    have HR := hide (HR.out.more (o2 ho3 HN.out))
    have HO := hide (o2 HO.out (o2 ho3 HN.out))
    clear ho3 p0 p1 p2 p3 p4 p5 HN
    unfold hxT at HT
    simp only at HT
    go_upto_region 4 with fail
    obtain ⟨tb, htb⟩ : ∃ b, w3.heap.size = b := ⟨_, rfl⟩
    obtain ⟨w4, hw4⟩ : ∃ y, w3.alloc (.cells #[.int .i64 3, .int .i64 0, .bool false, .string ⟨#[97]⟩, .string ⟨#[120]⟩] 26) = y := ⟨_, rfl⟩
    rw [hw4] at HL HR HO HT ⊢
    rw [htb] at HT ⊢
    clear hw4 htb
    obtain ⟨p0, p1, p2, p3, p4, p5, _⟩ := HL.out.pag
    simp only [List.length_cons, List.length_nil, Nat.zero_add] at p0 p1 p2 p3 p4 p5
    go_wp2_with fail
    refine (HLK2.out _ B ao cp HL.out.strs).mono ?_
    rintro e w5 ⟨rfl, ho5⟩
    have HN := hide (onlyA w5 (.cells #[.int .i64 0, .int .i64 0, .bool false, .string ⟨#[]⟩, .string ⟨#[]⟩] 26))
    have HL := hide (HL.out.more (o2 ho5 HN.out))
    have HR := hide (HR.out.more (o2 ho5 HN.out))
    have HO := hide (o2 HO.out (o2 ho5 HN.out))
    have HT := hide (HT.out.more (o2 ho5 HN.out))
    clear ho5 p0 p1 p2 p3 p4 p5 HN
    go_upto_region 5 with fail
    obtain ⟨w6, hw6⟩ : ∃ y, w5.alloc (.cells #[.int .i64 0, .int .i64 0, .bool false, .string ⟨#[]⟩, .string ⟨#[]⟩] 26) = y := ⟨_, rfl⟩
    rw [hw6] at HL HR HO HT ⊢
    clear hw6
    obtain ⟨p0, p1, p2, p3, p4, p5, _⟩ := HL.out.pag
    simp only [List.length_cons, List.length_nil, Nat.zero_add] at p0 p1 p2 p3 p4 p5
    go_wp2_with fail
    refine (HMK.out _ B ao cp HL.out.strs HL.out.fit).mono ?_
    rintro e w7 ⟨rfl, ho7⟩
    have HZ7 : Hid (rb < w7.heap.size ∧ b < w7.heap.size ∧ tb < w7.heap.size ∧ B < w7.heap.size ∧ w.heap.size ≤ w7.heap.size ∧ W9.heap.size ≤ w7.heap.size) := by
      have z1 := HR.out.lt
      have z2 := HL.out.pag.lt
      have z3 := HT.out.lt
      have z4 := HL.out.strs.lt (by simp)
      have z5 := HO.out.size
      have z6 := HL.out.only.size
      have z7 := ho7.size
      unfold Hid
      omega
    have HN := hide (onlyA w7 (.cells Hr.none.cells 34))
    have HB7 := hide (Hb.new w7 Hr.none)
    have HL := hide (HL.out.more (o2 ho7 HN.out))
    have HR := hide (HR.out.more (o2 ho7 HN.out))
    have HO := hide (o2 HO.out (o2 ho7 HN.out))
    have HT := hide (HT.out.more (o2 ho7 HN.out))
    clear ho7 p0 p1 p2 p3 p4 p5 HN
    go_upto_region 6 with (refine wpList_put_hr rfl (.tmp 9) (.tmp 36) rfl w7.heap.size rfl Hr.none ⟨2, 5, 7, 0, 0, 5, ⟨#[]⟩⟩ rfl HB7.out ?_; intro W8 HW8; go_frame)
    have hz := HZ7.out
    have HR8 := hide HW8.out.at_
    have HL := hide (LaidP.mk (w0 := W9) (HL.out.pag.kept HW8.out.only (by omega)) (HL.out.strs.kept HW8.out.only (fun _ => by omega)) HL.out.fit (HL.out.only.trans HW8.out.only (fun i hi e => by omega)))
    have HR := hide (HR.out.kept HW8.out.only (by omega))
    have HO : Hid (Only (fun _ => False) w W8) := HO.out.trans HW8.out.only (fun i hi e => by omega)
    have HT := hide (HT.out.kept HW8.out.only (by omega))
    obtain ⟨mb, hmb⟩ : ∃ b, w7.heap.size = b := ⟨_, rfl⟩
    rw [hmb] at HR8 ⊢
    clear HW8 HB7 hmb hz HZ7
    have c6 := HR.out.cell 6 _ rfl
    have c8 := HR8.out.cell 8 _ rfl
    have t4 := HT.out.c4
    simp only at c6 c8 t4
    go_wp2_with fail
    refine (blank_any _).mono ?_
    rintro e wa ⟨rfl, hoa⟩
    go_wp2_with fail
    refine (HRM.out _).mono ?_
    rintro e wb ⟨rfl, hob⟩
    have HL := hide (HL.out.more (o2 hoa hob))
    have HO := hide (o2 HO.out (o2 hoa hob))
    clear hoa hob c6 c8 t4
    obtain ⟨p0, p1, p2, p3, p4, p5, _⟩ := HL.out.pag
    simp only [List.length_cons, List.length_nil, Nat.zero_add] at p0 p1 p2 p3 p4 p5
    go_wp2_with fail
    refine (HKY.out _ B ao cp HL.out.strs).mono ?_
    rintro e wc ⟨⟨ka, kc, rfl⟩, hoc⟩
    have HO := hide (o2 HO.out hoc)
    clear hoc
    go_wp2_with fail
    go_ret
    exact ⟨rfl, HO.out⟩
end Go.Proofs.Ytpbpamhlenogoaa
