/- Parts. -/
import Derived.Test.YtpnbhddmdfcjdaaGreatK37
import Derived.Test.YtpnbhddmdfcjdaaGreatK39
import Derived.Test.YtpnbhddmdfcjdaaGreatK27
import Derived.Test.YtpnbhddmdfcjdaaGreatK35
set_option maxRecDepth 100000
namespace Go.Proofs.YtpnbhddmdfcjdaaGreat
open Go.RowKit
/-- A leaf in memory, of any size. -/
structure Lq (w : World) (r : Int) (h : ByteArray) (hi : En) (B : Nat) (ao : Option Addr) (l : List ByteArray) (es : List En) : Prop where
  strs : Strs w B ao l
  head : hdO 3 0 r h = some hi
  high : HiIs h hi
  lf : LfIs hi l es
  few : l.length ≤ 8796093021952
theorem Lq.more {w w' : World} {r : Int} {h : ByteArray} {hi : En} {B : Nat} {ao : Option Addr} {l : List ByteArray} {es : List En} (x : Lq w r h hi B ao l es) (ho : Only (fun _ => False) w w') : Lq w' r h hi B ao l es := ⟨x.strs.more ho, x.head, x.high, x.lf, x.few⟩
theorem Lq.read {w : World} {r : Int} {h : ByteArray} {hi : En} {B : Nat} {ao : Option Addr} {l : List ByteArray} {es : List En} (x : Lq w r h hi B ao l es) (a : Int) (cp : Nat) : Calls Tryz.prog 168 #[.agg #[.int .i64 a, .int .i64 3, .int .i64 0, .int .i64 r, .string h, .slice ao l.length cp]] w fun e w' => LfR w w' e hi es := by
  have q := readLeaf_all w a r h hi B cp ao l x.strs x.head x.few
  rw [rdL_leaf x.lf] at q
  exact q
theorem Lq.len {w : World} {r : Int} {h : ByteArray} {hi : En} {B : Nat} {ao : Option Addr} {l : List ByteArray} {es : List En} (x : Lq w r h hi B ao l es) : es.length ≤ 8796093021952 := by
  have := x.lf.len
  have := x.few
  omega
/-- An inner node in memory, of any size. -/
structure Iq (w : World) (v r : Int) (h : ByteArray) (hi : En) (B : Nat) (ao : Option Addr) (l : List ByteArray) (ks : List (En × Int)) : Prop where
  strs : Strs w B ao l
  level : ¬ v = 0
  head : hdO 3 v r h = some hi
  high : HiIs h hi
  inn : InIs hi l ks
  few : l.length ≤ 8796093021952
theorem Iq.more {w w' : World} {v r : Int} {h : ByteArray} {hi : En} {B : Nat} {ao : Option Addr} {l : List ByteArray} {ks : List (En × Int)} (x : Iq w v r h hi B ao l ks) (ho : Only (fun _ => False) w w') : Iq w' v r h hi B ao l ks := ⟨x.strs.more ho, x.level, x.head, x.high, x.inn, x.few⟩
theorem Iq.read {w : World} {v r : Int} {h : ByteArray} {hi : En} {B : Nat} {ao : Option Addr} {l : List ByteArray} {ks : List (En × Int)} (x : Iq w v r h hi B ao l ks) (a : Int) (cp : Nat) : Calls Tryz.prog 174 #[.agg #[.int .i64 a, .int .i64 3, .int .i64 v, .int .i64 r, .string h, .slice ao l.length cp]] w fun e w' => InR w w' e hi ks := by
  have hp : 0 < l.length := by
    obtain ⟨c, t, e⟩ := x.inn.first
    rw [x.inn.items, e]
    simp
  have q := readInner_all w a v r h hi B cp ao l x.strs x.level x.head x.few hp
  rw [rdI_inner x.inn] at q
  exact q
theorem Iq.len {w : World} {v r : Int} {h : ByteArray} {hi : En} {B : Nat} {ao : Option Addr} {l : List ByteArray} {ks : List (En × Int)} (x : Iq w v r h hi B ao l ks) : ks.length ≤ 8796093021952 := by
  have := x.inn.len
  have := x.few
  omega
set_option maxRecDepth 100000 in
set_option maxHeartbeats 3200000 in
theorem insert_big (w : World) (a r : Int) (h : ByteArray) (hi e : En) (B cp : Nat) (ao : Option Addr) (l : List ByteArray) (es : List En) (hP : Lq w r h hi B ao l es) (hF : Fit ao l.length cp) :
    Calls Tryz.prog 121 #[.agg #[.int .i64 a, .int .i64 3, .int .i64 0, .int .i64 r, .string h, .slice ao l.length cp], e.agg] w fun x w' => InsQ w w' x a r h hi e l es := by
  have HX := hide (ins_new w (.int .i64 a) (.int .i64 3) (.int .i64 0) (.int .i64 r) (.string h) (.slice ao l.length cp) e)
  have HR := hide ((hP.more HX.out.2.2.2).read a cp)
  have HIE : Hid (∀ W, Calls Tryz.prog 167 #[.agg #[.string e.key, .int .i64 e.page, .int .i64 e.slot]] W fun x w' => x = .returned (.bool e.ok) ∧ Only (fun _ => False) W w') := fun W => isEntry_any e W
  have HBY : Hid (∀ W (A1 A2 : Option Addr) (n1 n2 C1 C2 : Nat), Calls Tryz.prog 169 #[.agg #[.slice A1 n1 C1, .slice A2 n2 C2, .string hi.key, .int .i64 hi.page, .int .i64 hi.slot], .agg #[.string e.key, .int .i64 e.page, .int .i64 e.slot]] W fun x w' => x = .returned (.bool (byd hi e)) ∧ Only (fun _ => False) W w') := fun W A1 A2 n1 n2 C1 C2 => isBeyond_any W A1 A2 n1 n2 C1 C2 hi e
  have HPL : Hid (∀ (W : World) (A1 A2 : Option Addr) (n1 n2 C1 C2 : Nat) (base : Nat), Ets W base (.slice A1 n1 C1) es → Calls Tryz.prog 170 #[.agg #[.slice A1 n1 C1, .slice A2 n2 C2, .string hi.key, .int .i64 hi.page, .int .i64 hi.slot], .agg #[.string e.key, .int .i64 e.page, .int .i64 e.slot]] W fun x w' => x = .returned (.tuple #[.int .i64 (plE es e : Int), .bool (decide (e ∈ es))]) ∧ Only (fun _ => False) W w') := fun W A1 A2 n1 n2 C1 C2 base hE => by
    obtain ⟨B1, hels, hln⟩ := hE.elsOf
    exact place_any W B1 n1 C1 A1 A2 n2 C2 hi es e hels hln (by have := hP.len; omega) hP.lf.rise
  have HLD : Hid (e.ok = true → ∀ W, Calls Tryz.prog 171 #[.agg #[.string e.key, .int .i64 e.page, .int .i64 e.slot], .slice none 0 0] W fun x w' => x = .returned (.string e.enc) ∧ Only (fun _ => False) W w') := fun he W => laid_one e W (En.few_ok he)
  have HPT : Hid (e.ok = true → ∀ W, Only (fun _ => False) w W → Calls Tryz.prog 115 #[.agg #[.int .i64 a, .int .i64 3, .int .i64 0, .int .i64 r, .string h, .slice ao l.length cp], .int .i64 (plE es e : Int), .string e.enc] W fun x w' => ∃ p k, Res W w' x p k ∧ (((255 < (insI l es e).length ∨ 512 < 20 + h.size + isz (insI l es e)) ∧ p = .none ∧ k = 3) ∨ (¬ (255 < (insI l es e).length ∨ 512 < 20 + h.size + isz (insI l es e)) ∧ p = ⟨a, 3, 0, r, h, insI l es e⟩ ∧ k = 0))) := fun he W ho =>
    (put_any W a 3 0 r h B cp ao l (plE es e) e.enc (hP.strs.more ho) hF (by have := hP.high.size; omega) (by have := enc_size he; omega) (by have := plE_le es e; have := hP.lf.len; omega) (by have := hP.few; omega)).mono (fun x w' hq => hq.any)
  clear hP hF
  obtain ⟨K, hK⟩ : ∃ K : Int, (plE es e : Int) = K := ⟨_, rfl⟩
  obtain ⟨O, hO⟩ : ∃ O, e.ok = O := ⟨_, rfl⟩
  obtain ⟨Y, hY⟩ : ∃ Y, byd hi e = Y := ⟨_, rfl⟩
  obtain ⟨D, hD⟩ : ∃ D, decide (e ∈ es) = D := ⟨_, rfl⟩
  obtain ⟨E, hE⟩ : ∃ E, e.enc = E := ⟨_, rfl⟩
  rw [hK, hD] at HPL
  rw [hO] at HIE HLD HPT
  rw [hY] at HBY
  rw [hE] at HLD
  rw [hK, hE] at HPT
  have HOY := hide (And.intro hO (And.intro hY hD))
  clear hK hO hY hD hE
  unfold En.agg
  go_enter Tryz.func121, Tryz.ntmps121
  go_upto_region 1 with fail
  obtain ⟨W0, hW0⟩ : ∃ x, ((w.alloc (.cells #[.int .i64 a, .int .i64 3, .int .i64 0, .int .i64 r, .string h, .slice ao l.length cp] 30)).alloc (.cells #[.string e.key, .int .i64 e.page, .int .i64 e.slot] 74)).alloc (.cells #[.int .i64 0, .int .i64 0, .int .i64 0, .int .i64 0, .string ⟨#[]⟩, .slice none 0 0] 30) = x := ⟨_, rfl⟩
  rw [hW0] at HX HR ⊢
  clear hW0
  obtain ⟨p0, p1, p2, p3, p4, p5, _⟩ := HX.out.1
  go_wp2_with fail
  refine HR.out.mono ?_
  rintro x w1 ⟨A, C, rfl, he, ho⟩
  unfold cvv
  have HP1 := hide (HX.out.1.more ho)
  have HV1 := hide (HX.out.2.1.more ho)
  have HQ1 := hide (HX.out.2.2.1.more ho)
  have HO1 := hide (o2 HX.out.2.2.2 ho)
  have HE1 := hide he
  clear he ho p0 p1 p2 p3 p4 p5 HR HX
  go_upto_region 2 with fail
  have HA := hide (onlyA w1 (.cells #[.slice A es.length C, .slice none 0 0, .string hi.key, .int .i64 hi.page, .int .i64 hi.slot] 200))
  have HC := hide (Cv.new w1 (.slice A es.length C) (.slice none 0 0) hi)
  obtain ⟨cb, hcb⟩ : ∃ b, w1.heap.size = b := ⟨_, rfl⟩
  rw [hcb] at HC ⊢
  clear hcb
  obtain ⟨w2, hw2⟩ : ∃ x, w1.alloc (.cells #[.slice A es.length C, .slice none 0 0, .string hi.key, .int .i64 hi.page, .int .i64 hi.slot] 200) = x := ⟨_, rfl⟩
  rw [hw2] at HA HC ⊢
  clear hw2
  have HP2 := hide (HP1.out.more HA.out)
  have HV2 := hide (HV1.out.more HA.out)
  have HQ2 := hide (HQ1.out.more HA.out)
  have HO2 := hide (o2 HO1.out HA.out)
  have HE2 := hide (HE1.out.more HA.out)
  clear HA HP1 HV1 HQ1 HO1 HE1
  obtain ⟨d0, d1, d2, _⟩ := HV2.out
  go_wp2_with fail
  refine (HIE.out _).mono ?_
  rintro x w3 ⟨rfl, ho⟩
  have HP3 := hide (HP2.out.more ho)
  have HV3 := hide (HV2.out.more ho)
  have HQ3 := hide (HQ2.out.more ho)
  have HC3 := hide (HC.out.more ho)
  have HO3 := hide (o2 HO2.out ho)
  have HE3 := hide (HE2.out.more ho)
  clear ho d0 d1 d2 HP2 HV2 HQ2 HC HO2 HE2
  cases O with
  | false =>
    clear HLD HPT HPL
    obtain ⟨q0, q1, q2, q3, q4, q5, g0, g1, g2, g3, g4, g5, ql⟩ := HQ3.out
    go_wp2_with fail
    refine bodyPost_ret (results_page rfl rfl (Pag.six HQ3.out _ _ _ _ _ _)) rfl ?_
    exact ⟨fun _ => resErr _ HO3.out (by omega), fun h1 => by rw [HOY.out.1] at h1; cases h1⟩
  | true =>
    have HLD0 := hide (HLD.out rfl)
    have HPT0 := hide (HPT.out rfl)
    clear HLD HPT
    obtain ⟨d0, d1, d2, _⟩ := HV3.out
    obtain ⟨q0, q1, q2, q3, q4, _⟩ := HC3.out
    go_wp2_with fail
    refine (HBY.out _ _ _ _ _ _ _).mono ?_
    rintro x w4 ⟨rfl, ho⟩
    have HP4 := hide (HP3.out.more ho)
    have HV4 := hide (HV3.out.more ho)
    have HQ4 := hide (HQ3.out.more ho)
    have HC4 := hide (HC3.out.more ho)
    have HO4 := hide (o2 HO3.out ho)
    have HE4 := hide (HE3.out.more ho)
    clear ho d0 d1 d2 q0 q1 q2 q3 q4 HP3 HV3 HQ3 HC3 HO3 HE3
    cases Y with
    | true =>
      clear HPL HLD0 HPT0
      obtain ⟨q0, q1, q2, q3, q4, q5, g0, g1, g2, g3, g4, g5, ql⟩ := HQ4.out
      go_wp2_with fail
      refine bodyPost_ret (results_page rfl rfl (Pag.six HQ4.out _ _ _ _ _ _)) rfl ?_
      exact ⟨fun _ => resErr _ HO4.out (by omega), fun _ h1 => by rw [HOY.out.2.1] at h1; cases h1⟩
    | false =>
      obtain ⟨d0, d1, d2, _⟩ := HV4.out
      obtain ⟨q0, q1, q2, q3, q4, _⟩ := HC4.out
      have HPL1 := hide (HPL.out w4 A none es.length 0 C 0 _ HE4.out)
      clear HPL
      go_wp2_with fail
      refine HPL1.out.mono ?_
      rintro x w5 ⟨rfl, ho⟩
      have HP5 := hide (HP4.out.more ho)
      have HV5 := hide (HV4.out.more ho)
      have HQ5 := hide (HQ4.out.more ho)
      have HO5 := hide (o2 HO4.out ho)
      clear ho d0 d1 d2 q0 q1 q2 q3 q4 HP4 HV4 HQ4 HC4 HO4 HE4 HPL1
      cases D with
      | true =>
        clear HLD0 HPT0
        obtain ⟨q0, q1, q2, q3, q4, q5, g0, g1, g2, g3, g4, g5, ql⟩ := HQ5.out
        go_wp2_with fail
        refine bodyPost_ret (results_page rfl rfl (Pag.six HQ5.out _ _ _ _ _ _)) rfl ?_
        exact ⟨fun _ => resErr _ HO5.out (by omega), fun _ _ h1 => absurd (of_decide_eq_true HOY.out.2.2) h1⟩
      | false =>
        go_upto_region 7 with fail
        -- {r7
        refine wp_region_noPanic ?_
        refine wp_region_held_drew (S := fun W => Only (fun k => k = w.heap.size + 1 + 1) w5 W) (by kernel_rfl) (Only.drew _ _) (fun hHeld => ?_)
        refine wpAnyH_take (i := 0) (oi := { dst := some 36, op := Op.load 30 (Operand.tmp 2), type := 30, pos := "node.go:128", after := #[], guard := none }) (v := .agg #[.int .i64 a, .int .i64 3, .int .i64 0, .int .i64 r, .string h, .slice ao l.length cp]) rfl (by kernel_rfl) (by kernel_rfl) (by kernel_rfl) (fun _ _ _ h => h) (yieldsIf_load_page (by rfl) _ rfl _ rfl (fun W hW => HP5.out.kept hW (by omega))) (by assumption) ?_
        simp only [Act.put, List.setIfInBounds_toArray, List.set_cons_zero, List.set_cons_succ]
        refine wpAnyH_take (i := 1) (oi := { dst := some 37, op := Op.move (Operand.tmp 8), type := 3, pos := "node.go:128", after := #[], guard := none }) (v := .int .i64 K) rfl (by kernel_rfl) (by kernel_rfl) (by kernel_rfl) (fun _ _ _ h => h) (Or.inl ⟨by rfl, fun w' hSw => by clear hSw; go_simp⟩) (by assumption) ?_
        simp only [Act.put, List.setIfInBounds_toArray, List.set_cons_zero, List.set_cons_succ]
        refine wpAnyH_take (i := 2) (oi := { dst := some 38, op := Op.load 74 (Operand.tmp 3), type := 74, pos := "node.go:128", after := #[], guard := none }) (v := .agg #[.string e.key, .int .i64 e.page, .int .i64 e.slot]) rfl (by kernel_rfl) (by kernel_rfl) (by kernel_rfl) (fun _ _ _ h => h) (yieldsIf_load_ev (by rfl) _ rfl rfl (fun W hW => HV5.out.kept hW (by omega))) (by assumption) ?_
        simp only [Act.put, List.setIfInBounds_toArray, List.set_cons_zero, List.set_cons_succ]
        refine wpAnyH_ready (rs := [3]) (by kernel_rfl) (by simp) ?_
        refine AllReadyH.cons (o := { dst := some 39, op := Op.call { callee := Callee.value (Operand.func 171), args := #[Operand.tmp 38, Operand.const (Value.slice none 0 0)], argTypes := #[74, 25] }, type := 9, pos := "node.go:128", after := #[{ on := 2, ground := Ground.data }], guard := none }) rfl (fun K hK => ?_) (AllReadyH.nil)
        go_simp
        refine (HLD0.out _).mono ?_
        rintro x x1 ⟨rfl, hx1⟩
        have HX1 := hide (o2 (Only.drew _ w5) hx1)
        clear hx1
        refine hK.out _ _ (HX1.out.mono (fun _ _ h => h.elim)) (fun hHeld => ?_)
        clear hK K
        try simp only [Act.put, List.setIfInBounds_toArray, List.set_cons_zero, List.set_cons_succ]
        refine wpAnyH_ready (rs := [4]) (by kernel_rfl) (by simp) ?_
        refine AllReadyH.cons (o := { dst := some 40, op := Op.call { callee := Callee.value (Operand.func 115), args := #[Operand.tmp 36, Operand.tmp 37, Operand.tmp 39], argTypes := #[30, 3, 9] }, type := 54, pos := "node.go:128", after := #[{ on := 0, ground := Ground.data }, { on := 1, ground := Ground.data }, { on := 3, ground := Ground.data }, { on := 3, ground := Ground.chain }], guard := none }) rfl (fun K hK => ?_) (AllReadyH.nil)
        go_simp
        refine (HPT0.out _ (o2 HO5.out HX1.out)).mono ?_
        rintro x x2 ⟨p, k, ⟨B5, ao5, cp5, rfl, hS5, hF5, ho5, hB5⟩, hpk⟩
        have HX2 := hide ho5
        have HS7 := hide (And.intro hS5 (And.intro hF5 hB5))
        have HPK := hide hpk
        have HQ7 := hide (HQ5.out.more (o2 HX1.out HX2.out))
        have HZ7 : Hid (w.heap.size + 1 + 1 < x1.heap.size) := (HQ5.out.more HX1.out).lt
        obtain ⟨q0, q1, q2, q3, q4, q5, g0, g1, g2, g3, g4, g5, ql⟩ := HQ7.out
        clear hS5 hF5 ho5 hB5 hpk
        refine hK.out _ _ ((o2 HX1.out HX2.out).mono (fun _ _ h => h.elim)) (fun hHeld => ?_)
        clear hK K
        try simp only [Act.put, List.setIfInBounds_toArray, List.set_cons_zero, List.set_cons_succ]
        refine wpAnyH_take (i := 5) (oi := { dst := some 41, op := Op.extract (Operand.tmp 40) 0, type := 30, pos := "node.go:128", after := #[{ on := 4, ground := Ground.data }], guard := none }) (v := .agg #[.int .i64 p.lsn, .int .i64 p.kind, .int .i64 p.level, .int .i64 p.right, .string p.high, .slice ao5 p.items.length cp5]) rfl (by kernel_rfl) (by kernel_rfl) (by kernel_rfl) (fun _ _ _ h => h) (Or.inl ⟨by rfl, fun w' hSw => by clear hSw; go_simp⟩) (by assumption) ?_
        simp only [Act.put, List.setIfInBounds_toArray, List.set_cons_zero, List.set_cons_succ]
        refine wpAnyH_take (i := 6) (oi := { dst := some 42, op := Op.extract (Operand.tmp 40) 1, type := 53, pos := "node.go:128", after := #[{ on := 4, ground := Ground.data }], guard := none }) (v := .int .i64 k) rfl (by kernel_rfl) (by kernel_rfl) (by kernel_rfl) (fun _ _ _ h => h) (Or.inl ⟨by rfl, fun w' hSw => by clear hSw; go_simp⟩) (by assumption) ?_
        simp only [Act.put, List.setIfInBounds_toArray, List.set_cons_zero, List.set_cons_succ]
        refine wpAnyH_ready (rs := [7]) (by kernel_rfl) (by simp) ?_
        refine AllReadyH.cons (o := { dst := none, op := Op.store 30 (Operand.tmp 4) (Operand.tmp 41), type := 0, pos := "node.go:128", after := #[{ on := 5, ground := Ground.data }, { on := 4, ground := Ground.chain }, { on := 0, ground := Ground.phase }, { on := 1, ground := Ground.phase }, { on := 2, ground := Ground.phase }, { on := 3, ground := Ground.phase }, { on := 4, ground := Ground.phase }, { on := 5, ground := Ground.phase }, { on := 6, ground := Ground.phase }], guard := none }) rfl (fun K hK => ?_) (AllReadyH.nil)
        go_simp
        refine hK.out _ _ (((o2 HX1.out HX2.out).mono (fun _ _ h => h.elim)).trans (Only.six x2 (w.heap.size + 1 + 1) _ _ _ _ _ _) (fun _ _ h => h)) (fun hHeld => ?_)
        clear hK K
        try simp only [Act.put, List.setIfInBounds_toArray, List.set_cons_zero, List.set_cons_succ]
        refine wpAnyH_take (i := 8) (oi := { dst := some 5, op := Op.assign (Operand.tmp 42), type := 53, pos := "node.go:128", after := #[{ on := 6, ground := Ground.data }, { on := 7, ground := Ground.chain }, { on := 0, ground := Ground.phase }, { on := 1, ground := Ground.phase }, { on := 2, ground := Ground.phase }, { on := 3, ground := Ground.phase }, { on := 4, ground := Ground.phase }, { on := 5, ground := Ground.phase }, { on := 6, ground := Ground.phase }, { on := 7, ground := Ground.phase }], guard := none }) (v := .int .i64 k) rfl (by kernel_rfl) (by kernel_rfl) (by kernel_rfl) (fun _ _ _ h => h) (Or.inl ⟨by rfl, fun w' hSw => by clear hSw; go_simp⟩) (by assumption) ?_
        simp only [Act.put, List.setIfInBounds_toArray, List.set_cons_zero, List.set_cons_succ]
        refine wpAnyH_done (by kernel_rfl) ?_ _
        refine NoPanic.normal ?_
        -- r7}
        go_wp2_with fail
        refine bodyPost_ret (results_page rfl rfl (Pag.six HQ7.out _ _ _ _ _ _)) rfl ?_
        have hres := resSix (k := k) HS7.out.1 HS7.out.2.1 HX2.out HS7.out.2.2 (o2 HO5.out HX1.out) (w.heap.size + 1 + 1) (by omega) HZ7.out (.int .i64 p.lsn) (.int .i64 p.kind) (.int .i64 p.level) (.int .i64 p.right) (.string p.high) (.slice ao5 p.items.length cp5)
        refine ⟨fun h1 => ?_, fun _ _ _ => ?_⟩
        · exfalso
          rcases h1 with h1 | h1 | h1
          · rw [HOY.out.1] at h1; cases h1
          · rw [HOY.out.2.1] at h1; cases h1
          · exact of_decide_eq_false HOY.out.2.2 h1
        · rcases HPK.out with ⟨hc, e1, e2⟩ | ⟨hc, e1, e2⟩
          · subst e1 e2
            exact Or3.yes hc hres
          · subst e1 e2
            exact Or3.no hc hres
set_option maxRecDepth 100000 in
set_option maxHeartbeats 3200000 in
theorem remove_big (w : World) (a r : Int) (h : ByteArray) (hi e : En) (B cp : Nat) (ao : Option Addr) (l : List ByteArray) (es : List En) (hP : Lq w r h hi B ao l es) (hF : Fit ao l.length cp) :
    Calls Tryz.prog 124 #[.agg #[.int .i64 a, .int .i64 3, .int .i64 0, .int .i64 r, .string h, .slice ao l.length cp], e.agg] w fun x w' => RemQ w w' x a r h e l es := by
  have HX := hide (ins_new w (.int .i64 a) (.int .i64 3) (.int .i64 0) (.int .i64 r) (.string h) (.slice ao l.length cp) e)
  have HR := hide ((hP.more HX.out.2.2.2).read a cp)
  have HIX : Hid (∀ (W : World) (A1 : Option Addr) (n1 C1 : Nat) (base : Nat), Ets W base (.slice A1 n1 C1) es → Calls Tryz.prog 176 #[.slice A1 n1 C1, .agg #[.string e.key, .int .i64 e.page, .int .i64 e.slot]] W fun x w' => x = .returned (.int .i64 (idxE es e)) ∧ Only (fun _ => False) W w') := fun W A1 n1 C1 base hE => by
    obtain ⟨B1, hels, hln⟩ := hE.elsOf
    exact indexE_any W B1 n1 C1 A1 es e hels hln (by have := hP.len; omega) hP.lf.rise
  have HPT : Hid (e ∈ es → ∀ W, Only (fun _ => False) w W → Calls Tryz.prog 177 #[.agg #[.int .i64 a, .int .i64 3, .int .i64 0, .int .i64 r, .string h, .slice ao l.length cp], .int .i64 (plE es e : Int)] W fun x w' => Res W w' x ⟨a, 3, 0, r, h, l.take (plE es e) ++ l.drop (plE es e + 1)⟩ 0) := fun he W ho => by
    have h1 := pl_mem hP.lf.rise he
    have h2 := hP.lf.len
    have hs := hP.strs.more ho
    obtain ⟨o, rfl, _⟩ := hs.at_ (by omega)
    exact out_some W a 3 0 r h B B o cp l (plE es e) hs hF (by omega)
  clear hP hF
  unfold En.agg
  go_enter Tryz.func124, Tryz.ntmps124
  go_upto_region 1 with fail
  obtain ⟨W0, hW0⟩ : ∃ x, ((w.alloc (.cells #[.int .i64 a, .int .i64 3, .int .i64 0, .int .i64 r, .string h, .slice ao l.length cp] 30)).alloc (.cells #[.string e.key, .int .i64 e.page, .int .i64 e.slot] 74)).alloc (.cells #[.int .i64 0, .int .i64 0, .int .i64 0, .int .i64 0, .string ⟨#[]⟩, .slice none 0 0] 30) = x := ⟨_, rfl⟩
  rw [hW0] at HX HR ⊢
  clear hW0
  obtain ⟨p0, p1, p2, p3, p4, p5, _⟩ := HX.out.1
  go_wp2_with fail
  refine HR.out.mono ?_
  rintro x w1 ⟨A, C, rfl, he, ho⟩
  unfold cvv
  have HP1 := hide (HX.out.1.more ho)
  have HV1 := hide (HX.out.2.1.more ho)
  have HQ1 := hide (HX.out.2.2.1.more ho)
  have HO1 := hide (o2 HX.out.2.2.2 ho)
  have HE1 := hide he
  clear he ho p0 p1 p2 p3 p4 p5 HR HX
  go_upto_region 2 with fail
  have HA := hide (onlyA w1 (.cells #[.slice A es.length C, .slice none 0 0, .string hi.key, .int .i64 hi.page, .int .i64 hi.slot] 200))
  have HC := hide (Cv.new w1 (.slice A es.length C) (.slice none 0 0) hi)
  obtain ⟨cb, hcb⟩ : ∃ b, w1.heap.size = b := ⟨_, rfl⟩
  rw [hcb] at HC ⊢
  clear hcb
  obtain ⟨w2, hw2⟩ : ∃ x, w1.alloc (.cells #[.slice A es.length C, .slice none 0 0, .string hi.key, .int .i64 hi.page, .int .i64 hi.slot] 200) = x := ⟨_, rfl⟩
  rw [hw2] at HA HC ⊢
  clear hw2
  have HP2 := hide (HP1.out.more HA.out)
  have HV2 := hide (HV1.out.more HA.out)
  have HQ2 := hide (HQ1.out.more HA.out)
  have HO2 := hide (o2 HO1.out HA.out)
  have HE2 := hide (HE1.out.more HA.out)
  clear HA HP1 HV1 HQ1 HO1 HE1
  obtain ⟨d0, d1, d2, _⟩ := HV2.out
  have c0 := HC.out.c0
  have HIX1 := hide (HIX.out w2 A es.length C _ HE2.out)
  obtain ⟨I, hI⟩ : ∃ I, idxE es e = I := ⟨_, rfl⟩
  rw [hI] at HIX1
  have HI := hide hI
  clear HIX hI
  go_wp2_with fail
  refine HIX1.out.mono ?_
  rintro x w3 ⟨rfl, ho⟩
  have HP3 := hide (HP2.out.more ho)
  have HQ3 := hide (HQ2.out.more ho)
  have HO3 := hide (o2 HO2.out ho)
  clear ho d0 d1 d2 c0 HP2 HV2 HQ2 HC HO2 HE2 HIX1
  by_cases hm : e ∈ es
  · have hI : I = (plE es e : Int) := by rw [← HI.out]; unfold idxE; rw [if_pos hm]
    have HPT0 := hide (HPT.out hm)
    rw [← hI] at HPT0
    have hI0 : ¬ I < 0 := by omega
    have HM := hide hm
    clear hI hm HPT HI
    obtain ⟨p0, p1, p2, p3, p4, p5, _⟩ := HP3.out
    go_wp2_with fail
    refine (HPT0.out _ HO3.out).mono ?_
    rintro x w4 ⟨B5, ao5, cp5, rfl, hS5, hF5, ho5, hB5⟩
    have HX2 := hide ho5
    have HS7 := hide (And.intro hS5 (And.intro hF5 hB5))
    have HQ7 := hide (HQ3.out.more ho5)
    have HZ7 : Hid (w.heap.size + 1 + 1 < w3.heap.size) := HQ3.out.lt
    clear hS5 hF5 ho5 hB5 p0 p1 p2 p3 p4 p5
    obtain ⟨nl, hnl⟩ : ∃ nl, l.take (plE es e) ++ l.drop (plE es e + 1) = nl := ⟨_, rfl⟩
    rw [hnl] at HS7 ⊢
    have HNL := hide hnl
    clear hnl
    simp only [] at HS7
    obtain ⟨q0, q1, q2, q3, q4, q5, g0, g1, g2, g3, g4, g5, ql⟩ := HQ7.out
    go_wp2_with fail
    refine bodyPost_ret (results_page rfl rfl (Pag.six HQ7.out _ _ _ _ _ _)) rfl ?_
    have hres := resSix (p := ⟨a, 3, 0, r, h, nl⟩) (k := 0) HS7.out.1 HS7.out.2.1 HX2.out HS7.out.2.2 HO3.out (w.heap.size + 1 + 1) (by omega) HZ7.out (.int .i64 a) (.int .i64 3) (.int .i64 0) (.int .i64 r) (.string h) (.slice ao5 nl.length cp5)
    exact ⟨fun h1 => absurd HM.out h1, fun _ => by rw [HNL.out]; exact hres⟩
  · have hI : I = -1 := by rw [← HI.out]; unfold idxE; rw [if_neg hm]
    have hI0 : I < 0 := by omega
    have HM := hide hm
    clear hI hm HPT HI
    obtain ⟨q0, q1, q2, q3, q4, q5, g0, g1, g2, g3, g4, g5, ql⟩ := HQ3.out
    go_wp2_with fail
    refine bodyPost_ret (results_page rfl rfl (Pag.six HQ3.out _ _ _ _ _ _)) rfl ?_
    exact ⟨fun _ => resErr _ HO3.out (by omega), fun h1 => absurd h1 HM.out⟩
set_option maxRecDepth 100000 in
set_option maxHeartbeats 3200000 in
theorem post_big (w : World) (a v r : Int) (h : ByteArray) (hi e : En) (c : Int) (B cp : Nat) (ao : Option Addr) (l : List ByteArray) (ks : List (En × Int)) (hP : Iq w v r h hi B ao l ks) (hF : Fit ao l.length cp) :
    Calls Tryz.prog 123 #[.agg #[.int .i64 a, .int .i64 3, .int .i64 v, .int .i64 r, .string h, .slice ao l.length cp], e.agg, .int .i64 c] w fun x w' => PosQ w w' x a v r h hi e c l ks := by
  have HX := hide (ins_new w (.int .i64 a) (.int .i64 3) (.int .i64 v) (.int .i64 r) (.string h) (.slice ao l.length cp) e)
  have HR := hide ((hP.more HX.out.2.2.2).read a cp)
  have HIE : Hid (∀ W, Calls Tryz.prog 167 #[.agg #[.string e.key, .int .i64 e.page, .int .i64 e.slot]] W fun x w' => x = .returned (.bool e.ok) ∧ Only (fun _ => False) W w') := fun W => isEntry_any e W
  have HBY : Hid (∀ W (A1 A2 : Option Addr) (n1 n2 C1 C2 : Nat), Calls Tryz.prog 175 #[.agg #[.slice A1 n1 C1, .slice A2 n2 C2, .string hi.key, .int .i64 hi.page, .int .i64 hi.slot], .agg #[.string e.key, .int .i64 e.page, .int .i64 e.slot]] W fun x w' => x = .returned (.bool (blw hi e)) ∧ Only (fun _ => False) W w') := fun W A1 A2 n1 n2 C1 C2 => isBelow_any W A1 A2 n1 n2 C1 C2 hi e
  have HPL : Hid (∀ (W : World) (A1 A2 : Option Addr) (n1 n2 C1 C2 : Nat) (base : Nat), Ets W base (.slice A1 n1 C1) (ks.map Prod.fst) → Calls Tryz.prog 170 #[.agg #[.slice A1 n1 C1, .slice A2 n2 C2, .string hi.key, .int .i64 hi.page, .int .i64 hi.slot], .agg #[.string e.key, .int .i64 e.page, .int .i64 e.slot]] W fun x w' => x = .returned (.tuple #[.int .i64 (plE (ks.map Prod.fst) e : Int), .bool (decide (e ∈ ks.map Prod.fst))]) ∧ Only (fun _ => False) W w') := fun W A1 A2 n1 n2 C1 C2 base hE => by
    obtain ⟨B1, hels, hln⟩ := hE.elsOf
    exact place_any W B1 n1 C1 A1 A2 n2 C2 hi (ks.map Prod.fst) e hels hln (by have := hP.len; rw [← hln, List.length_map]; omega) hP.inn.rise
  have HIC : Hid (∀ W, Calls Tryz.prog 173 #[.int .i64 c] W fun x w' => x = .returned (.bool (okC c)) ∧ w' = W) := fun W => isChild_any c W
  have HLD : Hid (e.ok = true → okC c = true → ∀ (W W' : World), Only (fun _ => False) (W.alloc (.cells #[.int .i64 c] 3)) W' → Calls Tryz.prog 171 #[.agg #[.string e.key, .int .i64 e.page, .int .i64 e.slot], .slice (some ⟨W.heap.size, 0, none⟩) 1 1] W' fun x w' => x = .returned (.string (e.encS c)) ∧ Only (fun _ => False) W' w') := fun he hc W W' ho => laid_two e W W' c (En.few_ok he) (by have := (okC_iff.1 hc).2; omega) ho
  have HPT : Hid (e.ok = true → ∀ W, Only (fun _ => False) w W → Calls Tryz.prog 115 #[.agg #[.int .i64 a, .int .i64 3, .int .i64 v, .int .i64 r, .string h, .slice ao l.length cp], .int .i64 (plE (ks.map Prod.fst) e : Int), .string (e.encS c)] W fun x w' => ∃ p k, Res W w' x p k ∧ (((255 < (posI l ks e c).length ∨ 512 < 20 + h.size + isz (posI l ks e c)) ∧ p = .none ∧ k = 3) ∨ (¬ (255 < (posI l ks e c).length ∨ 512 < 20 + h.size + isz (posI l ks e c)) ∧ p = ⟨a, 3, v, r, h, posI l ks e c⟩ ∧ k = 0))) := fun he W ho =>
    (put_any W a 3 v r h B cp ao l (plE (ks.map Prod.fst) e) (e.encS c) (hP.strs.more ho) hF (by have := hP.high.size; omega) (by have := encS_size c he; omega) (by have := plE_le (ks.map Prod.fst) e; have := hP.inn.len; rw [List.length_map] at *; omega) (by have := hP.few; omega)).mono (fun x w' hq => hq.any)
  clear hP hF
  obtain ⟨K, hK⟩ : ∃ K : Int, (plE (ks.map Prod.fst) e : Int) = K := ⟨_, rfl⟩
  obtain ⟨O, hO⟩ : ∃ O, e.ok = O := ⟨_, rfl⟩
  obtain ⟨Y, hY⟩ : ∃ Y, blw hi e = Y := ⟨_, rfl⟩
  obtain ⟨D, hD⟩ : ∃ D, decide (e ∈ ks.map Prod.fst) = D := ⟨_, rfl⟩
  obtain ⟨E, hE⟩ : ∃ E, e.encS c = E := ⟨_, rfl⟩
  obtain ⟨T, hT⟩ : ∃ T, okC c = T := ⟨_, rfl⟩
  rw [hK, hD] at HPL
  rw [hO] at HIE HLD HPT
  rw [hY] at HBY
  rw [hE, hT] at HLD
  rw [hT] at HIC
  rw [hK, hE] at HPT
  have HOY := hide (And.intro hO (And.intro hY (And.intro hD hT)))
  clear hK hO hY hD hE hT
  unfold En.agg
  go_enter Tryz.func123, Tryz.ntmps123
  go_upto_region 1 with fail
  obtain ⟨W0, hW0⟩ : ∃ x, ((w.alloc (.cells #[.int .i64 a, .int .i64 3, .int .i64 v, .int .i64 r, .string h, .slice ao l.length cp] 30)).alloc (.cells #[.string e.key, .int .i64 e.page, .int .i64 e.slot] 74)).alloc (.cells #[.int .i64 0, .int .i64 0, .int .i64 0, .int .i64 0, .string ⟨#[]⟩, .slice none 0 0] 30) = x := ⟨_, rfl⟩
  rw [hW0] at HX HR ⊢
  clear hW0
  obtain ⟨p0, p1, p2, p3, p4, p5, _⟩ := HX.out.1
  go_wp2_with fail
  refine HR.out.mono ?_
  rintro x w1 ⟨A, C, A2, C2, rfl, he, hk, ho⟩
  unfold cvv
  have HP1 := hide (HX.out.1.more ho)
  have HV1 := hide (HX.out.2.1.more ho)
  have HQ1 := hide (HX.out.2.2.1.more ho)
  have HO1 := hide (o2 HX.out.2.2.2 ho)
  have HE1 := hide he
  clear he hk ho p0 p1 p2 p3 p4 p5 HR HX
  go_upto_region 2 with fail
  have HA := hide (onlyA w1 (.cells #[.slice A ks.length C, .slice A2 ks.length C2, .string hi.key, .int .i64 hi.page, .int .i64 hi.slot] 200))
  have HC := hide (Cv.new w1 (.slice A ks.length C) (.slice A2 ks.length C2) hi)
  obtain ⟨cb, hcb⟩ : ∃ b, w1.heap.size = b := ⟨_, rfl⟩
  rw [hcb] at HC ⊢
  clear hcb
  obtain ⟨w2, hw2⟩ : ∃ x, w1.alloc (.cells #[.slice A ks.length C, .slice A2 ks.length C2, .string hi.key, .int .i64 hi.page, .int .i64 hi.slot] 200) = x := ⟨_, rfl⟩
  rw [hw2] at HA HC ⊢
  clear hw2
  have HP2 := hide (HP1.out.more HA.out)
  have HV2 := hide (HV1.out.more HA.out)
  have HQ2 := hide (HQ1.out.more HA.out)
  have HO2 := hide (o2 HO1.out HA.out)
  have HE2 := hide (HE1.out.more HA.out)
  clear HA HP1 HV1 HQ1 HO1 HE1
  obtain ⟨d0, d1, d2, _⟩ := HV2.out
  go_wp2_with fail
  refine (HIE.out _).mono ?_
  rintro x w3 ⟨rfl, ho⟩
  have HP3 := hide (HP2.out.more ho)
  have HV3 := hide (HV2.out.more ho)
  have HQ3 := hide (HQ2.out.more ho)
  have HC3 := hide (HC.out.more ho)
  have HO3 := hide (o2 HO2.out ho)
  have HE3 := hide (HE2.out.more ho)
  clear ho d0 d1 d2 HP2 HV2 HQ2 HC HO2 HE2
  cases O with
  | false =>
    clear HLD HPT HPL
    obtain ⟨q0, q1, q2, q3, q4, q5, g0, g1, g2, g3, g4, g5, ql⟩ := HQ3.out
    go_wp2_with fail
    refine bodyPost_ret (results_page rfl rfl (Pag.six HQ3.out _ _ _ _ _ _)) rfl ?_
    exact ⟨fun _ => resErr _ HO3.out (by omega), fun h1 => by rw [HOY.out.1] at h1; cases h1⟩
  | true =>
    have HLD0 := hide (HLD.out rfl)
    have HPT0 := hide (HPT.out rfl)
    clear HLD HPT
    obtain ⟨d0, d1, d2, _⟩ := HV3.out
    obtain ⟨q0, q1, q2, q3, q4, _⟩ := HC3.out
    go_wp2_with fail
    refine (HBY.out _ _ _ _ _ _ _).mono ?_
    rintro x w4 ⟨rfl, ho⟩
    have HP4 := hide (HP3.out.more ho)
    have HV4 := hide (HV3.out.more ho)
    have HQ4 := hide (HQ3.out.more ho)
    have HC4 := hide (HC3.out.more ho)
    have HO4 := hide (o2 HO3.out ho)
    have HE4 := hide (HE3.out.more ho)
    clear ho d0 d1 d2 q0 q1 q2 q3 q4 HP3 HV3 HQ3 HC3 HO3 HE3
    cases Y with
    | false =>
      clear HPL HLD0 HPT0
      obtain ⟨q0, q1, q2, q3, q4, q5, g0, g1, g2, g3, g4, g5, ql⟩ := HQ4.out
      go_wp2_with fail
      refine bodyPost_ret (results_page rfl rfl (Pag.six HQ4.out _ _ _ _ _ _)) rfl ?_
      exact ⟨fun _ => resErr _ HO4.out (by omega), fun _ h1 => by rw [HOY.out.2.1] at h1; cases h1⟩
    | true =>
      go_wp2_with fail
      refine (HIC.out _).mono ?_
      rintro x w4b ⟨rfl, h4⟩
      obtain rfl := h4.symm
      cases T with
      | false =>
        clear HPL HLD0 HPT0
        obtain ⟨q0, q1, q2, q3, q4, q5, g0, g1, g2, g3, g4, g5, ql⟩ := HQ4.out
        go_wp2_with fail
        refine bodyPost_ret (results_page rfl rfl (Pag.six HQ4.out _ _ _ _ _ _)) rfl ?_
        exact ⟨fun _ => resErr _ HO4.out (by omega), fun _ _ h1 => by rw [HOY.out.2.2.2] at h1; cases h1⟩
      | true =>
        have HLD1 := hide (HLD0.out rfl)
        clear HLD0
        obtain ⟨d0, d1, d2, _⟩ := HV4.out
        obtain ⟨q0, q1, q2, q3, q4, _⟩ := HC4.out
        have HPL1 := hide (HPL.out w4 A A2 ks.length ks.length C C2 _ HE4.out)
        clear HPL
        go_wp2_with fail
        refine HPL1.out.mono ?_
        rintro x w5 ⟨rfl, ho⟩
        have HP5 := hide (HP4.out.more ho)
        have HV5 := hide (HV4.out.more ho)
        have HQ5 := hide (HQ4.out.more ho)
        have HO5 := hide (o2 HO4.out ho)
        clear ho d0 d1 d2 q0 q1 q2 q3 q4 HP4 HV4 HQ4 HC4 HO4 HE4 HPL1
        cases D with
        | true =>
          clear HLD1 HPT0
          obtain ⟨q0, q1, q2, q3, q4, q5, g0, g1, g2, g3, g4, g5, ql⟩ := HQ5.out
          go_wp2_with fail
          refine bodyPost_ret (results_page rfl rfl (Pag.six HQ5.out _ _ _ _ _ _)) rfl ?_
          exact ⟨fun _ => resErr _ HO5.out (by omega), fun _ _ _ h1 => absurd (of_decide_eq_true HOY.out.2.2.1) h1⟩
        | false =>
          go_upto_region 7 with fail
          -- {r7
          refine wp_region_noPanic ?_
          refine wp_region_held_drew (S := fun W => Only (fun k => k = w.heap.size + 1 + 1) w5 W) (by kernel_rfl) (Only.drew _ _) (fun hHeld => ?_)
          refine wpAnyH_take (i := 0) (oi := { dst := some 44, op := Op.load 30 (Operand.tmp 3), type := 30, pos := "node.go:154", after := #[], guard := none }) (v := .agg #[.int .i64 a, .int .i64 3, .int .i64 v, .int .i64 r, .string h, .slice ao l.length cp]) rfl (by kernel_rfl) (by kernel_rfl) (by kernel_rfl) (fun _ _ _ h => h) (yieldsIf_load_page (by rfl) _ rfl _ rfl (fun W hW => HP5.out.kept hW (by omega))) (by assumption) ?_
          simp only [Act.put, List.setIfInBounds_toArray, List.set_cons_zero, List.set_cons_succ]
          refine wpAnyH_take (i := 1) (oi := { dst := some 45, op := Op.move (Operand.tmp 10), type := 3, pos := "node.go:154", after := #[], guard := none }) (v := .int .i64 K) rfl (by kernel_rfl) (by kernel_rfl) (by kernel_rfl) (fun _ _ _ h => h) (Or.inl ⟨by rfl, fun w' hSw => by clear hSw; go_simp⟩) (by assumption) ?_
          simp only [Act.put, List.setIfInBounds_toArray, List.set_cons_zero, List.set_cons_succ]
          refine wpAnyH_take (i := 2) (oi := { dst := some 46, op := Op.load 74 (Operand.tmp 4), type := 74, pos := "node.go:154", after := #[], guard := none }) (v := .agg #[.string e.key, .int .i64 e.page, .int .i64 e.slot]) rfl (by kernel_rfl) (by kernel_rfl) (by kernel_rfl) (fun _ _ _ h => h) (yieldsIf_load_ev (by rfl) _ rfl rfl (fun W hW => HV5.out.kept hW (by omega))) (by assumption) ?_
          simp only [Act.put, List.setIfInBounds_toArray, List.set_cons_zero, List.set_cons_succ]
          refine wpAnyH_take (i := 3) (oi := { dst := some 47, op := Op.move (Operand.tmp 2), type := 3, pos := "node.go:154", after := #[], guard := none }) (v := .int .i64 c) rfl (by kernel_rfl) (by kernel_rfl) (by kernel_rfl) (fun _ _ _ h => h) (Or.inl ⟨by rfl, fun w' hSw => by clear hSw; go_simp⟩) (by assumption) ?_
          simp only [Act.put, List.setIfInBounds_toArray, List.set_cons_zero, List.set_cons_succ]
          refine wpAnyH_ready (rs := [4]) (by kernel_rfl) (by simp) ?_
          refine AllReadyH.cons (o := { dst := some 48, op := Op.buildSlice 25 1 #[(0, Operand.tmp 47)], type := 25, pos := "node.go:154", after := #[{ on := 3, ground := Ground.data }], guard := none }) rfl (fun K hK => ?_) (AllReadyH.nil)
          go_simp
          refine hK.out _ _ ((o2 (onlyA _ _) (Only.drew _ _)).mono (fun _ _ h => h.elim)) (fun hHeld => ?_)
          clear hK K
          try simp only [Act.put, List.setIfInBounds_toArray, List.set_cons_zero, List.set_cons_succ]
          refine wpAnyH_ready (rs := [5]) (by kernel_rfl) (by simp) ?_
          refine AllReadyH.cons (o := { dst := some 49, op := Op.call { callee := Callee.value (Operand.func 171), args := #[Operand.tmp 46, Operand.tmp 48], argTypes := #[74, 25] }, type := 9, pos := "node.go:154", after := #[{ on := 2, ground := Ground.data }, { on := 4, ground := Ground.data }], guard := none }) rfl (fun K hK => ?_) (AllReadyH.nil)
          go_simp
          refine (HLD1.out w5 _ (Only.drew _ _)).mono ?_
          rintro x x1 ⟨rfl, hx1⟩
          have HX1 := hide (o2 (o2 (onlyA w5 _) (Only.drew _ _)) hx1)
          clear hx1
          refine hK.out _ _ (HX1.out.mono (fun _ _ h => h.elim)) (fun hHeld => ?_)
          clear hK K
          try simp only [Act.put, List.setIfInBounds_toArray, List.set_cons_zero, List.set_cons_succ]
          refine wpAnyH_ready (rs := [6]) (by kernel_rfl) (by simp) ?_
          refine AllReadyH.cons (o := { dst := some 50, op := Op.call { callee := Callee.value (Operand.func 115), args := #[Operand.tmp 44, Operand.tmp 45, Operand.tmp 49], argTypes := #[30, 3, 9] }, type := 54, pos := "node.go:154", after := #[{ on := 0, ground := Ground.data }, { on := 1, ground := Ground.data }, { on := 5, ground := Ground.data }, { on := 5, ground := Ground.chain }], guard := none }) rfl (fun K hK => ?_) (AllReadyH.nil)
          go_simp
          refine (HPT0.out _ (o2 HO5.out HX1.out)).mono ?_
          rintro x x2 ⟨p, k, ⟨B5, ao5, cp5, rfl, hS5, hF5, ho5, hB5⟩, hpk⟩
          have HX2 := hide ho5
          have HS7 := hide (And.intro hS5 (And.intro hF5 hB5))
          have HPK := hide hpk
          have HQ7 := hide (HQ5.out.more (o2 HX1.out HX2.out))
          have HZ7 : Hid (w.heap.size + 1 + 1 < x1.heap.size) := (HQ5.out.more HX1.out).lt
          obtain ⟨q0, q1, q2, q3, q4, q5, g0, g1, g2, g3, g4, g5, ql⟩ := HQ7.out
          clear hS5 hF5 ho5 hB5 hpk
          refine hK.out _ _ ((o2 HX1.out HX2.out).mono (fun _ _ h => h.elim)) (fun hHeld => ?_)
          clear hK K
          try simp only [Act.put, List.setIfInBounds_toArray, List.set_cons_zero, List.set_cons_succ]
          refine wpAnyH_take (i := 7) (oi := { dst := some 51, op := Op.extract (Operand.tmp 50) 0, type := 30, pos := "node.go:154", after := #[{ on := 6, ground := Ground.data }], guard := none }) (v := .agg #[.int .i64 p.lsn, .int .i64 p.kind, .int .i64 p.level, .int .i64 p.right, .string p.high, .slice ao5 p.items.length cp5]) rfl (by kernel_rfl) (by kernel_rfl) (by kernel_rfl) (fun _ _ _ h => h) (Or.inl ⟨by rfl, fun w' hSw => by clear hSw; go_simp⟩) (by assumption) ?_
          simp only [Act.put, List.setIfInBounds_toArray, List.set_cons_zero, List.set_cons_succ]
          refine wpAnyH_take (i := 8) (oi := { dst := some 52, op := Op.extract (Operand.tmp 50) 1, type := 53, pos := "node.go:154", after := #[{ on := 6, ground := Ground.data }], guard := none }) (v := .int .i64 k) rfl (by kernel_rfl) (by kernel_rfl) (by kernel_rfl) (fun _ _ _ h => h) (Or.inl ⟨by rfl, fun w' hSw => by clear hSw; go_simp⟩) (by assumption) ?_
          simp only [Act.put, List.setIfInBounds_toArray, List.set_cons_zero, List.set_cons_succ]
          refine wpAnyH_ready (rs := [9]) (by kernel_rfl) (by simp) ?_
          refine AllReadyH.cons (o := { dst := none, op := Op.store 30 (Operand.tmp 6) (Operand.tmp 51), type := 0, pos := "node.go:154", after := #[{ on := 7, ground := Ground.data }, { on := 6, ground := Ground.chain }, { on := 0, ground := Ground.phase }, { on := 1, ground := Ground.phase }, { on := 2, ground := Ground.phase }, { on := 3, ground := Ground.phase }, { on := 4, ground := Ground.phase }, { on := 5, ground := Ground.phase }, { on := 6, ground := Ground.phase }, { on := 7, ground := Ground.phase }, { on := 8, ground := Ground.phase }], guard := none }) rfl (fun K hK => ?_) (AllReadyH.nil)
          go_simp
          refine hK.out _ _ (((o2 HX1.out HX2.out).mono (fun _ _ h => h.elim)).trans (Only.six x2 (w.heap.size + 1 + 1) _ _ _ _ _ _) (fun _ _ h => h)) (fun hHeld => ?_)
          clear hK K
          try simp only [Act.put, List.setIfInBounds_toArray, List.set_cons_zero, List.set_cons_succ]
          refine wpAnyH_take (i := 10) (oi := { dst := some 7, op := Op.assign (Operand.tmp 52), type := 53, pos := "node.go:154", after := #[{ on := 8, ground := Ground.data }, { on := 9, ground := Ground.chain }, { on := 0, ground := Ground.phase }, { on := 1, ground := Ground.phase }, { on := 2, ground := Ground.phase }, { on := 3, ground := Ground.phase }, { on := 4, ground := Ground.phase }, { on := 5, ground := Ground.phase }, { on := 6, ground := Ground.phase }, { on := 7, ground := Ground.phase }, { on := 8, ground := Ground.phase }, { on := 9, ground := Ground.phase }], guard := none }) (v := .int .i64 k) rfl (by kernel_rfl) (by kernel_rfl) (by kernel_rfl) (fun _ _ _ h => h) (Or.inl ⟨by rfl, fun w' hSw => by clear hSw; go_simp⟩) (by assumption) ?_
          simp only [Act.put, List.setIfInBounds_toArray, List.set_cons_zero, List.set_cons_succ]
          refine wpAnyH_done (by kernel_rfl) ?_ _
          refine NoPanic.normal ?_
          -- r7}
          go_wp2_with fail
          refine bodyPost_ret (results_page rfl rfl (Pag.six HQ7.out _ _ _ _ _ _)) rfl ?_
          have hres := resSix (k := k) HS7.out.1 HS7.out.2.1 HX2.out HS7.out.2.2 (o2 HO5.out HX1.out) (w.heap.size + 1 + 1) (by omega) HZ7.out (.int .i64 p.lsn) (.int .i64 p.kind) (.int .i64 p.level) (.int .i64 p.right) (.string p.high) (.slice ao5 p.items.length cp5)
          refine ⟨fun h1 => ?_, fun _ _ _ _ => ?_⟩
          · exfalso
            rcases h1 with h1 | h1 | h1 | h1
            · rw [HOY.out.1] at h1; cases h1
            · rw [HOY.out.2.1] at h1; cases h1
            · rw [HOY.out.2.2.2] at h1; cases h1
            · exact of_decide_eq_false HOY.out.2.2.1 h1
          · rcases HPK.out with ⟨hc, e1, e2⟩ | ⟨hc, e1, e2⟩
            · subst e1 e2
              exact Or3.yes hc hres
            · subst e1 e2
              exact Or3.no hc hres
end Go.Proofs.YtpnbhddmdfcjdaaGreat
