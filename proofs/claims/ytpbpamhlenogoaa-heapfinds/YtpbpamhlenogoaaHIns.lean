/- What Room, Insert, Mark and Blank do. -/
import Derived.Test.YtpbpamhlenogoaaHCalls
namespace Go.Proofs.Ytpbpamhlenogoaa
open Go.RowKit

theorem yieldsIf_load_page {ops : Array Oper} {S : World → Prop} {op : Oper} {a : Act} {v0 v1 v2 v3 v4 v5 : Value} (hw : Region.wanted op (yielded ops a.tmps) = true) (x : Operand) (ho : op.op = .load 24 x)
    (b : Nat) (hx : a.eval x = .pointer (some ⟨b, 0, none⟩)) (hS : ∀ w, S w → Pag w b v0 v1 v2 v3 v4 v5) : YieldsIf Try.prog ops S op (.agg #[v0, v1, v2, v3, v4, v5]) a :=
  .inl ⟨hw, fun w hw' => by
    unfold execOp
    simp only [ho, hx, Instr.loadAt, Instr.sureAddr, Sem.run_bind, Sem.run_pure, Result.andThen_ok, load_page (hS w hw')]⟩
theorem results_cell1 {fn : Func} {p : Tmp} {ty : TypeId} (h : fn.results = #[.cell p ty]) {tmps : Array Value} {w : World} {b : Nat} {v : Value} (hp : tmps.getD p undef = .pointer (some ⟨b, 0, none⟩)) (hP : (loadVar ty ⟨b, 0, none⟩).run Try.prog w = .ok v w) :
    (results fn tmps).run Try.prog w = .ok v w := by
  have e : (asAddr (tmps.getD p undef)).run Try.prog w = .ok ⟨b, 0, none⟩ w := by rw [hp]; rfl
  have key : (results fn tmps).run Try.prog w = ((asAddr (tmps.getD p undef)).run Try.prog w).andThen fun a w₁ => (loadVar ty a).run Try.prog w₁ := by
    simp only [results, h]
    simp [Sem.run_bind, Result.andThen]
  rw [key, e]
  simp only [Result.andThen, hP]
theorem blank_any (w : World) : Calls Try.prog 18 #[] w fun e w' => e = .returned (pv 0 2 0 0 ⟨#[]⟩ none 0 0) ∧ Only (fun _ => False) w w' := by
  have HP := hide (Pag.new w (.int .i64 0) (.int .i64 2) (.int .i64 0) (.int .i64 0) (.string ⟨#[]⟩) (.slice none 0 0))
  go_enter Try.func18, Try.ntmps18
  go_wp2_with fail
  refine bodyPost_ret (results_cell1 rfl rfl (load_page HP.out)) rfl ?_
  exact ⟨rfl, onlyA _ _⟩
set_option maxRecDepth 100000 in
set_option maxHeartbeats 1600000 in
theorem room_any (w : World) (a k v r : Int) (h : ByteArray) (B cp : Nat) (ao : Option Addr) (l : List ByteArray) (hS : Strs w B ao l) (hF : Fit ao l.length cp) (hh : h.size ≤ 140737488355328) :
    Calls Try.prog 6 #[pv a k v r h ao l.length cp] w fun e w' => e = .returned (.int .i64 ((roomH k h l : Nat) : Int)) ∧ Only (fun _ => False) w w' := by
  have HO := hide (onlyA w (.cells #[.int .i64 a, .int .i64 k, .int .i64 v, .int .i64 r, .string h, .slice ao l.length cp] 24))
  have HP := hide (Pag.new w (.int .i64 a) (.int .i64 k) (.int .i64 v) (.int .i64 r) (.string h) (.slice ao l.length cp))
  have HSL : Hid (∀ W, Only (fun _ => False) w W → Calls Try.prog 17 #[.agg #[.int .i64 a, .int .i64 k, .int .i64 v, .int .i64 r, .string h, .slice ao l.length cp]] W fun e w' => e = .returned (.int .i64 (slotL l)) ∧ Only (fun _ => False) W w') := fun W ho => uslot_any W a k v r h B cp ao l (hS.more ho)
  have HSW : Hid (∀ W, Only (fun _ => False) w W → Calls Try.prog 16 #[.agg #[.int .i64 a, .int .i64 k, .int .i64 v, .int .i64 r, .string h, .slice ao l.length cp], .int .i64 (slotL l : Int), .string ⟨#[]⟩] W fun e w' => e = .returned (.tuple #[.int .i64 (szV h (putL l (slotL l) ⟨#[]⟩)), .int .i64 (szE h (putL l (slotL l) ⟨#[]⟩))]) ∧ Only (fun _ => False) W w') := fun W ho => sizeWith_any W a k v r h B cp ao l (slotL l) ⟨#[]⟩ (hS.more ho) hF hh (Nat.zero_le _) (slotL_le l)
  clear hS hF
  by_cases hk : k = 2
  · have hk' : (k == 2) = true := by simpa using hk
    have HR : Hid (roomH k h l = if fitL h (putL l (slotL l) ⟨#[]⟩) = true then 512 - (20 + h.size + isz (putL l (slotL l) ⟨#[]⟩)) else 0) := by unfold Hid roomH; simp only [hk, true_and]
    obtain ⟨n, hn⟩ : ∃ n, slotL l = n := ⟨_, rfl⟩
    obtain ⟨L, hL⟩ : ∃ L, putL l n ⟨#[]⟩ = L := ⟨_, rfl⟩
    rw [hn] at HSL HSW HR
    rw [hL] at HSW HR
    obtain ⟨V, hV⟩ : ∃ V, szV h L = V := ⟨_, rfl⟩
    obtain ⟨E, hE⟩ : ∃ E, szE h L = E := ⟨_, rfl⟩
    rw [hV, hE] at HSW
    have HV := hide hV
    have HE := hide hE
    clear hn hL hk hV hE
    go_enter Try.func6, Try.ntmps6
    go_wp2_with fail
    refine (isHeap_any _ a k v r h ao l.length cp).mono ?_
    rintro e w1 ⟨rfl, ho1⟩
    rw [hk']
    have HO1 := hide (o2 HO.out ho1)
    have HP1 := hide (HP.out.more ho1)
    clear ho1 HP HO
    go_upto_region 3 with fail
    refine wp_region_noPanic ?_
    refine wp_region_held_drew (S := fun W => Only (fun _ => False) w1 W) (by kernel_rfl) (Only.drew _ _) (fun hHeld => ?_)
    refine wpAnyH_take (i := 0) (oi := { dst := some 9, op := Op.load 24 (Operand.tmp 1), type := 24, pos := "heap.go:20", after := #[], guard := none }) (v := .agg #[.int .i64 a, .int .i64 k, .int .i64 v, .int .i64 r, .string h, .slice ao l.length cp]) rfl (by kernel_rfl) (by kernel_rfl) (by kernel_rfl) (fun _ _ _ h => h) (yieldsIf_load_page (by rfl) _ rfl _ rfl (fun W hW => HP1.out.more hW)) (by assumption) ?_
    simp only [Act.put, List.setIfInBounds_toArray, List.set_cons_zero, List.set_cons_succ]
    refine wpAnyH_take (i := 1) (oi := { dst := some 10, op := Op.load 24 (Operand.tmp 1), type := 24, pos := "heap.go:20", after := #[], guard := none }) (v := .agg #[.int .i64 a, .int .i64 k, .int .i64 v, .int .i64 r, .string h, .slice ao l.length cp]) rfl (by kernel_rfl) (by kernel_rfl) (by kernel_rfl) (fun _ _ _ h => h) (yieldsIf_load_page (by rfl) _ rfl _ rfl (fun W hW => HP1.out.more hW)) (by assumption) ?_
    simp only [Act.put, List.setIfInBounds_toArray, List.set_cons_zero, List.set_cons_succ]
    refine wpAnyH_ready (rs := [2]) (by kernel_rfl) (by simp) ?_
    refine AllReadyH.cons (o := { dst := some 11, op := Op.call { callee := Callee.value (Operand.func 17), args := #[Operand.tmp 10], argTypes := #[24] }, type := 3, pos := "heap.go:20", after := #[{ on := 1, ground := Ground.data }], guard := none }) rfl (fun K hK => ?_) (AllReadyH.nil)
    go_simp
    refine (HSL.out _ (o2 HO1.out hHeld)).mono ?_
    rintro e x1 ⟨rfl, hx1⟩
    have HX1 := hide (o2 hHeld hx1)
    clear hx1
    refine hK.out _ _ (HX1.out) (fun hHeld => ?_)
    clear hK K
    try simp only [Act.put, List.setIfInBounds_toArray, List.set_cons_zero, List.set_cons_succ]
    refine wpAnyH_ready (rs := [3]) (by kernel_rfl) (by simp) ?_
    refine AllReadyH.cons (o := { dst := some 12, op := Op.call { callee := Callee.value (Operand.func 16), args := #[Operand.tmp 9, Operand.tmp 11, Operand.const (Value.string { data := #[] })], argTypes := #[24, 3, 9] }, type := 57, pos := "heap.go:20", after := #[{ on := 0, ground := Ground.data }, { on := 2, ground := Ground.data }, { on := 2, ground := Ground.chain }], guard := none }) rfl (fun K hK => ?_) (AllReadyH.nil)
    go_simp
    refine (HSW.out _ (o2 HO1.out hHeld)).mono ?_
    rintro e x2 ⟨rfl, hx2⟩
    have HX2 := hide (o2 hHeld hx2)
    clear hx2
    refine hK.out _ _ (HX2.out) (fun hHeld => ?_)
    clear hK K
    try simp only [Act.put, List.setIfInBounds_toArray, List.set_cons_zero, List.set_cons_succ]
    refine wpAnyH_take (i := 4) (oi := { dst := some 8, op := Op.move (Operand.tmp 12), type := 57, pos := "heap.go:20", after := #[{ on := 3, ground := Ground.data }], guard := none }) (v := .tuple #[.int .i64 V, .int .i64 E]) rfl (by kernel_rfl) (by kernel_rfl) (by kernel_rfl) (fun _ _ _ h => h) (Or.inl ⟨by rfl, fun w' hSw => by clear hSw; go_simp⟩) (by assumption) ?_
    simp only [Act.put, List.setIfInBounds_toArray, List.set_cons_zero, List.set_cons_succ]
    refine wpAnyH_take (i := 5) (oi := { dst := some 13, op := Op.extract (Operand.tmp 8) 0, type := 3, pos := "heap.go:20", after := #[{ on := 4, ground := Ground.data }], guard := none }) (v := .int .i64 V) rfl (by kernel_rfl) (by kernel_rfl) (by kernel_rfl) (fun _ _ _ h => h) (Or.inl ⟨by rfl, fun w' hSw => by clear hSw; go_simp⟩) (by assumption) ?_
    simp only [Act.put, List.setIfInBounds_toArray, List.set_cons_zero, List.set_cons_succ]
    refine wpAnyH_take (i := 6) (oi := { dst := some 14, op := Op.extract (Operand.tmp 8) 1, type := 35, pos := "heap.go:20", after := #[{ on := 4, ground := Ground.data }, { on := 7, ground := Ground.gcOnly Departure.lateStores }], guard := none }) (v := .int .i64 E) rfl (by kernel_rfl) (by kernel_rfl) (by kernel_rfl) (fun _ _ _ h => h) (Or.inl ⟨by rfl, fun w' hSw => by clear hSw; go_simp⟩) (by assumption) ?_
    simp only [Act.put, List.setIfInBounds_toArray, List.set_cons_zero, List.set_cons_succ]
    refine wpAnyH_take (i := 7) (oi := { dst := some 3, op := Op.assign (Operand.tmp 13), type := 3, pos := "heap.go:20", after := #[{ on := 5, ground := Ground.data }, { on := 3, ground := Ground.chain }, { on := 0, ground := Ground.phase }, { on := 1, ground := Ground.phase }, { on := 2, ground := Ground.phase }, { on := 3, ground := Ground.phase }, { on := 4, ground := Ground.phase }, { on := 5, ground := Ground.phase }, { on := 6, ground := Ground.textOnly Departure.lateStores }], guard := none }) (v := .int .i64 V) rfl (by kernel_rfl) (by kernel_rfl) (by kernel_rfl) (fun _ _ _ h => h) (Or.inl ⟨by rfl, fun w' hSw => by clear hSw; go_simp⟩) (by assumption) ?_
    simp only [Act.put, List.setIfInBounds_toArray, List.set_cons_zero, List.set_cons_succ]
    refine wpAnyH_take (i := 8) (oi := { dst := some 4, op := Op.assign (Operand.tmp 14), type := 35, pos := "heap.go:20", after := #[{ on := 6, ground := Ground.data }, { on := 7, ground := Ground.chain }, { on := 0, ground := Ground.phase }, { on := 1, ground := Ground.phase }, { on := 2, ground := Ground.phase }, { on := 3, ground := Ground.phase }, { on := 4, ground := Ground.phase }, { on := 5, ground := Ground.phase }, { on := 6, ground := Ground.phase }, { on := 7, ground := Ground.phase }], guard := none }) (v := .int .i64 E) rfl (by kernel_rfl) (by kernel_rfl) (by kernel_rfl) (fun _ _ _ h => h) (Or.inl ⟨by rfl, fun w' hSw => by clear hSw; go_simp⟩) (by assumption) ?_
    simp only [Act.put, List.setIfInBounds_toArray, List.set_cons_zero, List.set_cons_succ]
    refine wpAnyH_done (by kernel_rfl) ?_ _
    refine NoPanic.normal ?_
    rw [Exit.then]
    cases hf : fitL h L
    · have e1 : E = 121 := by rw [← HE.out]; exact szE_no hf
      subst e1
      have HR2 : Hid (roomH k h l = 0) := by unfold Hid; rw [HR.out, hf]; rfl
      clear hf
      go_wp2_with fail
      go_ret
      rw [HR2.out]
      exact ⟨rfl, o2 HO1.out HX2.out⟩
    · have e1 : E = 0 := by rw [← HE.out]; exact szE_fit hf
      subst e1
      have hfi := fitL_iff.1 hf
      have e2 : V = ((20 + h.size + isz L : Nat) : Int) := by rw [← HV.out]; unfold szV; rw [hf]; rfl
      have HR2 : Hid (((roomH k h l : Nat) : Int) = 512 - V) := by unfold Hid; rw [HR.out, hf, e2]; simp only [if_true]; omega
      have hv1 : 0 ≤ V := by omega
      have hv2 : V ≤ 512 := by omega
      clear hf hfi e2
      go_wp2_with fail
      go_ret
      exact ⟨ret_int HR2.out.symm, o2 HO1.out HX2.out⟩
  · have hk' : (k == 2) = false := by simpa using hk
    have HR : Hid (roomH k h l = 0) := by unfold Hid roomH; rw [if_neg (fun c => hk c.1)]
    clear hk
    go_enter Try.func6, Try.ntmps6
    go_wp2_with fail
    refine (isHeap_any _ a k v r h ao l.length cp).mono ?_
    rintro e w1 ⟨rfl, ho1⟩
    rw [hk']
    have HO1 := hide (o2 HO.out ho1)
    clear ho1
    go_wp2_with fail
    go_ret
    rw [HR.out]
    exact ⟨rfl, HO1.out⟩
/-- What Insert answers. -/
def insE (k : Int) (h : ByteArray) (l : List ByteArray) (t : Tu) : Int := if k = 2 then (if t.ok then szE h (putL l (slotL l) (str t.enc)) else 110) else 120
def insR (l : List ByteArray) (g : Int) (t : Tu) : Hr := ⟨1, t.xmin, g, slotL l, 0, 0, str t.enc⟩
/-- The variables of Insert: the page, the version, and what is answered. -/
structure Ist (w W : World) (a k v r : Int) (h : ByteArray) (ao : Option Addr) (n cp : Nat) (t : Tu) : Prop where
  pg : Pag W w.heap.size (.int .i64 a) (.int .i64 k) (.int .i64 v) (.int .i64 r) (.string h) (.slice ao n cp)
  tb : Tb W (w.heap.size + 1) t
  res : Hb W (w.heap.size + 1 + 1) Hr.none
  only : Only (fun _ => False) w W
theorem Ist.new (w : World) (a k v r : Int) (h : ByteArray) (ao : Option Addr) (n cp : Nat) (t : Tu) : Ist w (((w.alloc (.cells #[.int .i64 a, .int .i64 k, .int .i64 v, .int .i64 r, .string h, .slice ao n cp] 24)).alloc (.cells #[.int .i64 t.xmin, .int .i64 t.xmax, .bool t.frozen, .string t.key, .string t.value] 26)).alloc (.cells Hr.none.cells 34)) a k v r h ao n cp t := by
  refine ⟨((Pag.new w _ _ _ _ _ _).more (onlyA _ _)).more (onlyA _ _), ?_, ?_, o2 (o2 (onlyA _ _) (onlyA _ _)) (onlyA _ _)⟩
  · have := (Tb.new (w.alloc (.cells #[.int .i64 a, .int .i64 k, .int .i64 v, .int .i64 r, .string h, .slice ao n cp] 24)) t).more (onlyA _ (.cells Hr.none.cells 34))
    rw [World.size_alloc] at this
    exact this
  · have := Hb.new ((w.alloc (.cells #[.int .i64 a, .int .i64 k, .int .i64 v, .int .i64 r, .string h, .slice ao n cp] 24)).alloc (.cells #[.int .i64 t.xmin, .int .i64 t.xmax, .bool t.frozen, .string t.key, .string t.value] 26)) Hr.none
    rw [World.size_alloc, World.size_alloc] at this
    exact this
theorem Ist.more {w W W' : World} {a k v r : Int} {h : ByteArray} {ao : Option Addr} {n cp : Nat} {t : Tu} (H : Ist w W a k v r h ao n cp t) (ho : Only (fun _ => False) W W') : Ist w W' a k v r h ao n cp t := ⟨H.pg.more ho, H.tb.more ho, H.res.more ho, o2 H.only ho⟩
theorem Ist.sto {w W W' : World} {a k v r : Int} {h : ByteArray} {ao : Option Addr} {n cp : Nat} {t : Tu} {q : Hr} (H : Ist w W a k v r h ao n cp t) (hs : StoH W W' (w.heap.size + 1 + 1) q) : Only (fun _ => False) w W' :=
  H.only.trans hs.only (fun i hi e => by omega)
def outI (r : Hr) (c : Int) : Value := .tuple #[.agg r.cells, .int .i64 c]
set_option maxRecDepth 100000 in
set_option maxHeartbeats 1600000 in
theorem insert_any (w : World) (a k v r : Int) (h : ByteArray) (B cp : Nat) (ao : Option Addr) (l : List ByteArray) (g : Int) (t : Tu) (hS : Strs w B ao l) (hF : Fit ao l.length cp) (hh : h.size ≤ 140737488355328) (ht0 : -9223372036854775808 ≤ t.xmin ∧ t.xmin < 9223372036854775808) (ht1 : -9223372036854775808 ≤ t.xmax ∧ t.xmax < 9223372036854775808) :
    Calls Try.prog 7 #[pv a k v r h ao l.length cp, .int .i64 g, t.agg] w fun e w' => e = .returned (outI (if insE k h l t = 0 then insR l g t else Hr.none) (insE k h l t)) ∧ Only (fun _ => False) w w' := by
  have HI := hide (Ist.new w a k v r h ao l.length cp t)
  have HSL : Hid (∀ W, Only (fun _ => False) w W → Calls Try.prog 17 #[.agg #[.int .i64 a, .int .i64 k, .int .i64 v, .int .i64 r, .string h, .slice ao l.length cp]] W fun e w' => e = .returned (.int .i64 (slotL l)) ∧ Only (fun _ => False) W w') := fun W ho => uslot_any W a k v r h B cp ao l (hS.more ho)
  have HSW : Hid (t.ok = true → ∀ W, Only (fun _ => False) w W → Calls Try.prog 16 #[.agg #[.int .i64 a, .int .i64 k, .int .i64 v, .int .i64 r, .string h, .slice ao l.length cp], .int .i64 (slotL l : Int), .string (str t.enc)] W fun e w' => e = .returned (.tuple #[.int .i64 (szV h (putL l (slotL l) (str t.enc))), .int .i64 (szE h (putL l (slotL l) (str t.enc)))]) ∧ Only (fun _ => False) W w') := fun hok W ho => sizeWith_any W a k v r h B cp ao l (slotL l) (str t.enc) (hS.more ho) hF hh (by rw [str_size, enc_lenT hok]; have := Tu.ok_iff.1 hok; omega) (slotL_le l)
  have HEN : Hid (∀ W, Calls Try.prog 12 #[.agg #[.int .i64 t.xmin, .int .i64 t.xmax, .bool t.frozen, .string t.key, .string t.value]] W fun e w' => e = .returned (.tuple #[.string (str t.out), .int .i64 t.err]) ∧ Only (fun _ => False) W w') := fun W => uencode_any t W ht0 ht1
  clear hS hF
  unfold Tu.agg
  have c120 : Hid (¬ k = 2 → insE k h l t = 120) := fun hk => by unfold insE; rw [if_neg hk]
  have c110 : Hid (k = 2 → t.ok = false → insE k h l t = 110) := fun hk ho => by unfold insE; rw [if_pos hk, ho]; rfl
  have c0 : Hid (k = 2 → t.ok = true → insE k h l t = szE h (putL l (slotL l) (str t.enc))) := fun hk ho => by unfold insE; rw [if_pos hk, ho]; rfl
  obtain ⟨IE, hIE⟩ : ∃ x, insE k h l t = x := ⟨_, rfl⟩
  rw [hIE] at c120 c110 c0 ⊢
  clear hIE
  have HRR : Hid (insR l g t = ⟨1, t.xmin, g, slotL l, 0, 0, str t.enc⟩) := rfl
  obtain ⟨IR, hIR⟩ : ∃ x, insR l g t = x := ⟨_, rfl⟩
  rw [hIR] at HRR ⊢
  clear hIR
  obtain ⟨Y, hY⟩ : ∃ Y, (if IE = 0 then IR else Hr.none) = Y := ⟨_, rfl⟩
  rw [hY]
  have HY := hide hY
  clear hY
  by_cases hk : k = 2
  · have hk' : (k == 2) = true := by simpa using hk
    have HK := hide hk
    clear hk
    go_enter Try.func7, Try.ntmps7
    go_upto_region 1 with fail
    obtain ⟨W0, hW0⟩ : ∃ x, ((w.alloc (.cells #[.int .i64 a, .int .i64 k, .int .i64 v, .int .i64 r, .string h, .slice ao l.length cp] 24)).alloc (.cells #[.int .i64 t.xmin, .int .i64 t.xmax, .bool t.frozen, .string t.key, .string t.value] 26)).alloc (.cells Hr.none.cells 34) = x := ⟨_, rfl⟩
    rw [hW0] at HI ⊢
    clear hW0
    obtain ⟨p0, p1, p2, p3, p4, p5, _⟩ := HI.out.pg
    go_wp2_with fail
    refine (isHeap_any _ a k v r h ao l.length cp).mono ?_
    rintro e w1 ⟨rfl, ho1⟩
    rw [hk']
    have HI1 := hide (HI.out.more ho1)
    clear ho1 p0 p1 p2 p3 p4 p5
    obtain ⟨t0, t1, t2, t3, t4, _⟩ := HI1.out.tb
    go_wp2_with fail
    refine (HEN.out _).mono ?_
    rintro e w2 ⟨rfl, ho2⟩
    have HI2 := hide (HI1.out.more ho2)
    clear ho2 t0 t1 t2 t3 t4
    cases hok : t.ok
    · have e1 : t.err = 110 := by unfold Tu.err; rw [hok]; rfl
      have e2 := c110.out HK.out hok
      have HY2 : Hid (Y = Hr.none) := by unfold Hid; rw [← HY.out, e2]; rfl
      clear HY
      subst e2
      obtain ⟨TE, hTE⟩ : ∃ x, t.err = x := ⟨_, rfl⟩
      rw [e1]
      clear hk' c0 c120 c110 hTE e1 hok
      go_upto_region 5 with fail
      go_wp2_with (first | (refine wpList_build_hnone rfl rfl ?_; go_frame) | (refine wpList_put_hr rfl (.tmp 6) (.tmp 24) rfl (w.heap.size + 1 + 1) rfl Hr.none Hr.none rfl HI2.out.res ?_; intro W9 HW9; go_frame))
      refine bodyPost_ret (results_hr rfl rfl HW9.out.at_) rfl ?_
      rw [HY2.out]
      exact ⟨rfl, HI2.out.sto HW9.out⟩
    · have e1 : t.err = 0 := by unfold Tu.err; rw [hok]; rfl
      have e3 : t.out = t.enc := by unfold Tu.out; rw [hok]; rfl
      have e2 := c0.out HK.out hok
      have HSW := hide (HSW.out hok)
      rw [e1, e3]
      obtain ⟨V, hV⟩ : ∃ V, szV h (putL l (slotL l) (str t.enc)) = V := ⟨_, rfl⟩
      rw [hV, ← e2] at HSW
      have HFE : Hid (IE = 0 ∨ IE = 121) := by
        unfold Hid
        rw [e2]
        cases hf : fitL h (putL l (slotL l) (str t.enc))
        · exact .inr (szE_no hf)
        · exact .inl (szE_fit hf)
      clear hk' c0 c120 c110 e1 e3 e2 hV
      obtain ⟨N, hN⟩ : ∃ N, slotL l = N := ⟨_, rfl⟩
      rw [hN] at HSL HSW HRR
      obtain ⟨D, hD⟩ : ∃ D, str t.enc = D := ⟨_, rfl⟩
      rw [hD] at HSW HRR ⊢
      clear hN hD hok
      obtain ⟨p0, p1, p2, p3, p4, p5, _⟩ := HI2.out.pg
      go_wp2_with fail
      refine (HSL.out _ HI2.out.only).mono ?_
      rintro e w3 ⟨rfl, ho3⟩
      have HI3 := hide (HI2.out.more ho3)
      clear ho3 p0 p1 p2 p3 p4 p5
      obtain ⟨p0, p1, p2, p3, p4, p5, _⟩ := HI3.out.pg
      go_wp2_with fail
      refine (HSW.out _ HI3.out.only).mono ?_
      rintro e w4 ⟨rfl, ho4⟩
      have HI4 := hide (HI3.out.more ho4)
      clear ho4 p0 p1 p2 p3 p4 p5
      rcases HFE.out with e | e
      · have HY2 : Hid (Y = ⟨1, t.xmin, g, (N : Int), 0, 0, D⟩) := by unfold Hid; rw [← HY.out, if_pos e, HRR.out]
        subst e
        clear HY
        obtain ⟨t0, t1, t2, t3, t4, _⟩ := HI4.out.tb
        go_upto_region 10 with fail
        go_wp2_with (refine wpList_build_ins rfl (.tmp 40) (.tmp 41) (.tmp 42) (.tmp 43) rfl t.xmin g (N : Int) D rfl rfl rfl rfl ?_; go_frame; refine wpList_put_hr rfl (.tmp 6) (.tmp 44) rfl (w.heap.size + 1 + 1) rfl Hr.none ⟨1, t.xmin, g, (N : Int), 0, 0, D⟩ rfl HI4.out.res ?_; intro W9 HW9; go_frame)
        refine bodyPost_ret (results_hr rfl rfl HW9.out.at_) rfl ?_
        rw [HY2.out]
        exact ⟨rfl, HI4.out.sto HW9.out⟩
      · have HY2 : Hid (Y = Hr.none) := by unfold Hid; rw [← HY.out, e]; rfl
        subst e
        clear HY
        go_upto_region 9 with fail
        go_wp2_with (first | (refine wpList_build_hnone rfl rfl ?_; go_frame) | (refine wpList_put_hr rfl (.tmp 6) (.tmp 37) rfl (w.heap.size + 1 + 1) rfl Hr.none Hr.none rfl HI4.out.res ?_; intro W9 HW9; go_frame))
        refine bodyPost_ret (results_hr rfl rfl HW9.out.at_) rfl ?_
        rw [HY2.out]
        exact ⟨rfl, HI4.out.sto HW9.out⟩
  · have hk' : (k == 2) = false := by simpa using hk
    have e2 := c120.out hk
    have HY2 : Hid (Y = Hr.none) := by unfold Hid; rw [← HY.out, e2]; rfl
    clear HY
    subst e2
    clear hk c0 c120 c110
    go_enter Try.func7, Try.ntmps7
    go_upto_region 1 with fail
    obtain ⟨W0, hW0⟩ : ∃ x, ((w.alloc (.cells #[.int .i64 a, .int .i64 k, .int .i64 v, .int .i64 r, .string h, .slice ao l.length cp] 24)).alloc (.cells #[.int .i64 t.xmin, .int .i64 t.xmax, .bool t.frozen, .string t.key, .string t.value] 26)).alloc (.cells Hr.none.cells 34) = x := ⟨_, rfl⟩
    rw [hW0] at HI ⊢
    clear hW0
    obtain ⟨p0, p1, p2, p3, p4, p5, _⟩ := HI.out.pg
    go_wp2_with fail
    refine (isHeap_any _ a k v r h ao l.length cp).mono ?_
    rintro e w1 ⟨rfl, ho1⟩
    rw [hk']
    have HI1 := hide (HI.out.more ho1)
    clear ho1 p0 p1 p2 p3 p4 p5
    go_upto_region 2 with fail
    go_wp2_with (refine wpList_build_hnone rfl rfl ?_; go_frame; refine wpList_put_hr rfl (.tmp 6) (.tmp 16) rfl (w.heap.size + 1 + 1) rfl Hr.none Hr.none rfl HI1.out.res ?_; intro W9 HW9; go_frame)
    refine bodyPost_ret (results_hr rfl rfl HW9.out.at_) rfl ?_
    rw [HY2.out]
    exact ⟨rfl, HI1.out.sto HW9.out⟩
end Go.Proofs.Ytpbpamhlenogoaa
