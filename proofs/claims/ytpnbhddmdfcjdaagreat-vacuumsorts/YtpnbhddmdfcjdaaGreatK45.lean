/- Parts. -/
import Derived.Test.YtpnbhddmdfcjdaaGreatK26
set_option maxRecDepth 100000
namespace Go.Proofs.YtpnbhddmdfcjdaaGreat
open Go.RowKit
theorem dec_small (s : ByteArray) : I64 ((decT (bl s)).getD noT).xmin ∧ I64 ((decT (bl s)).getD noT).xmax := by
  cases hd : decT (bl s) with
  | none => exact ⟨⟨by decide, by decide⟩, ⟨by decide, by decide⟩⟩
  | some t =>
    have h := Tu.ok_iff.1 (enc_decT hd).1
    exact ⟨⟨by show _ ≤ t.xmin; omega, by show t.xmin < _; omega⟩, ⟨by show _ ≤ t.xmax; omega, by show t.xmax < _; omega⟩⟩
theorem GRow.form3 {α : Type} {E : Lyt α} {ty : TypeId} {w : World} {base : Nat} {v : Value} {L : List α} (h : GRow E ty w base v L) : ∃ ao n cp, v = .slice ao n cp := by
  obtain ⟨ao, cp, e⟩ := h.form
  exact ⟨ao, _, cp, e⟩
theorem WkAt.low_base {w : World} {base b : Nat} {v0 v1 v2 : Value} {K : Wk} (h : WkAt w base v0 v1 v2 K) (hb : b ≤ base) : WkAt w b v0 v1 v2 K := ⟨h.fr.base hb, h.of.base hb, h.gn.base hb, h.n01, h.n02, h.n12⟩
theorem Only.mono_low {W1 wr : World} {b : Nat} (h : Only (fun k => k = b ∨ W1.heap.size ≤ k) W1 wr) {w : World} (hw : Only (fun _ => False) w W1 ∧ w.heap.size ≤ b) : Only (fun _ => False) w wr :=
  hw.1.trans h (fun i hi e => by have := hw.1.size; omega)
theorem sort_new (w : World) (V : Vw) (q : Lo) (a kd lv r : Int) (hi : ByteArray) (cp n : Nat) (ao : Option Addr) :
    VB ((((w.alloc (.cells #[.int .i64 V.m, .int .i64 V.next, .slice q.aA V.act.length q.cA, .int .i64 V.own, .slice q.aR V.run.length q.cR, .int .i64 V.pg.lsn, .int .i64 V.pg.kind, .int .i64 V.pg.level, .int .i64 V.pg.right, .string V.pg.high, .slice q.aP V.pg.items.length q.cP] 32)).alloc (.cells #[.int .i64 a, .int .i64 kd, .int .i64 lv, .int .i64 r, .string hi, .slice ao n cp] 30)).alloc (.cells #[.slice none 0 0, .slice none 0 0, .slice none 0 0] 39)).alloc (.cells #[.slice none 0 0, .slice none 0 0, .slice none 0 0] 39)) w.heap.size (.int .i64 V.m) (.int .i64 V.next) (.slice q.aA V.act.length q.cA) (.int .i64 V.own) (.slice q.aR V.run.length q.cR) (.int .i64 V.pg.lsn) (.int .i64 V.pg.kind) (.int .i64 V.pg.level) (.int .i64 V.pg.right) (.string V.pg.high) (.slice q.aP V.pg.items.length q.cP) ∧ Pag ((((w.alloc (.cells #[.int .i64 V.m, .int .i64 V.next, .slice q.aA V.act.length q.cA, .int .i64 V.own, .slice q.aR V.run.length q.cR, .int .i64 V.pg.lsn, .int .i64 V.pg.kind, .int .i64 V.pg.level, .int .i64 V.pg.right, .string V.pg.high, .slice q.aP V.pg.items.length q.cP] 32)).alloc (.cells #[.int .i64 a, .int .i64 kd, .int .i64 lv, .int .i64 r, .string hi, .slice ao n cp] 30)).alloc (.cells #[.slice none 0 0, .slice none 0 0, .slice none 0 0] 39)).alloc (.cells #[.slice none 0 0, .slice none 0 0, .slice none 0 0] 39)) (w.heap.size + 1) (.int .i64 a) (.int .i64 kd) (.int .i64 lv) (.int .i64 r) (.string hi) (.slice ao n cp) ∧ WB ((((w.alloc (.cells #[.int .i64 V.m, .int .i64 V.next, .slice q.aA V.act.length q.cA, .int .i64 V.own, .slice q.aR V.run.length q.cR, .int .i64 V.pg.lsn, .int .i64 V.pg.kind, .int .i64 V.pg.level, .int .i64 V.pg.right, .string V.pg.high, .slice q.aP V.pg.items.length q.cP] 32)).alloc (.cells #[.int .i64 a, .int .i64 kd, .int .i64 lv, .int .i64 r, .string hi, .slice ao n cp] 30)).alloc (.cells #[.slice none 0 0, .slice none 0 0, .slice none 0 0] 39)).alloc (.cells #[.slice none 0 0, .slice none 0 0, .slice none 0 0] 39)) (w.heap.size + 1 + 1) (.slice none 0 0) (.slice none 0 0) (.slice none 0 0) ∧ WB ((((w.alloc (.cells #[.int .i64 V.m, .int .i64 V.next, .slice q.aA V.act.length q.cA, .int .i64 V.own, .slice q.aR V.run.length q.cR, .int .i64 V.pg.lsn, .int .i64 V.pg.kind, .int .i64 V.pg.level, .int .i64 V.pg.right, .string V.pg.high, .slice q.aP V.pg.items.length q.cP] 32)).alloc (.cells #[.int .i64 a, .int .i64 kd, .int .i64 lv, .int .i64 r, .string hi, .slice ao n cp] 30)).alloc (.cells #[.slice none 0 0, .slice none 0 0, .slice none 0 0] 39)).alloc (.cells #[.slice none 0 0, .slice none 0 0, .slice none 0 0] 39)) (w.heap.size + 1 + 1 + 1) (.slice none 0 0) (.slice none 0 0) (.slice none 0 0) ∧ Only (fun _ => False) w ((((w.alloc (.cells #[.int .i64 V.m, .int .i64 V.next, .slice q.aA V.act.length q.cA, .int .i64 V.own, .slice q.aR V.run.length q.cR, .int .i64 V.pg.lsn, .int .i64 V.pg.kind, .int .i64 V.pg.level, .int .i64 V.pg.right, .string V.pg.high, .slice q.aP V.pg.items.length q.cP] 32)).alloc (.cells #[.int .i64 a, .int .i64 kd, .int .i64 lv, .int .i64 r, .string hi, .slice ao n cp] 30)).alloc (.cells #[.slice none 0 0, .slice none 0 0, .slice none 0 0] 39)).alloc (.cells #[.slice none 0 0, .slice none 0 0, .slice none 0 0] 39)) ∧ ((((w.alloc (.cells #[.int .i64 V.m, .int .i64 V.next, .slice q.aA V.act.length q.cA, .int .i64 V.own, .slice q.aR V.run.length q.cR, .int .i64 V.pg.lsn, .int .i64 V.pg.kind, .int .i64 V.pg.level, .int .i64 V.pg.right, .string V.pg.high, .slice q.aP V.pg.items.length q.cP] 32)).alloc (.cells #[.int .i64 a, .int .i64 kd, .int .i64 lv, .int .i64 r, .string hi, .slice ao n cp] 30)).alloc (.cells #[.slice none 0 0, .slice none 0 0, .slice none 0 0] 39)).alloc (.cells #[.slice none 0 0, .slice none 0 0, .slice none 0 0] 39)).heap.size = w.heap.size + 4 := by
  obtain ⟨w1, hw1⟩ : ∃ x, w.alloc (.cells #[.int .i64 V.m, .int .i64 V.next, .slice q.aA V.act.length q.cA, .int .i64 V.own, .slice q.aR V.run.length q.cR, .int .i64 V.pg.lsn, .int .i64 V.pg.kind, .int .i64 V.pg.level, .int .i64 V.pg.right, .string V.pg.high, .slice q.aP V.pg.items.length q.cP] 32) = x := ⟨_, rfl⟩
  have hs1 : w1.heap.size = w.heap.size + 1 := by rw [← hw1]; simp
  have h1 := VB.new w (.int .i64 V.m) (.int .i64 V.next) (.slice q.aA V.act.length q.cA) (.int .i64 V.own) (.slice q.aR V.run.length q.cR) (.int .i64 V.pg.lsn) (.int .i64 V.pg.kind) (.int .i64 V.pg.level) (.int .i64 V.pg.right) (.string V.pg.high) (.slice q.aP V.pg.items.length q.cP)
  have ho1 : Only (fun _ => False) w w1 := by rw [← hw1]; exact onlyA _ _
  rw [hw1] at h1 ⊢
  obtain ⟨w2, hw2⟩ : ∃ x, w1.alloc (.cells #[.int .i64 a, .int .i64 kd, .int .i64 lv, .int .i64 r, .string hi, .slice ao n cp] 30) = x := ⟨_, rfl⟩
  have hs2 : w2.heap.size = w.heap.size + 1 + 1 := by rw [← hw2, ← hs1]; simp
  have h2 := Pag.new w1 (.int .i64 a) (.int .i64 kd) (.int .i64 lv) (.int .i64 r) (.string hi) (.slice ao n cp)
  have ho2 : Only (fun _ => False) w1 w2 := by rw [← hw2]; exact onlyA _ _
  rw [hs1] at h2
  rw [hw2] at h2 ⊢
  obtain ⟨w3, hw3⟩ : ∃ x, w2.alloc (.cells #[.slice none 0 0, .slice none 0 0, .slice none 0 0] 39) = x := ⟨_, rfl⟩
  have hs3 : w3.heap.size = w.heap.size + 1 + 1 + 1 := by rw [← hw3, ← hs2]; simp
  have h3 := WB.new w2 39 (.slice none 0 0) (.slice none 0 0) (.slice none 0 0)
  have ho3 : Only (fun _ => False) w2 w3 := by rw [← hw3]; exact onlyA _ _
  rw [hs2] at h3
  rw [hw3] at h3 ⊢
  have h4 := WB.new w3 39 (.slice none 0 0) (.slice none 0 0) (.slice none 0 0)
  rw [hs3] at h4
  exact ⟨h1.more (o2 ho2 (o2 ho3 (onlyA _ _))), h2.more (o2 ho3 (onlyA _ _)), h3.more (onlyA _ _), h4, o2 ho1 (o2 ho2 (o2 ho3 (onlyA _ _))), by simp; omega⟩
set_option maxRecDepth 100000 in
set_option maxHeartbeats 6400000 in
theorem vsort_any (w : World) (V : Vw) (q : Lo) (h pg a kd lv r : Int) (hi : ByteArray) (B cp : Nat) (ao : Option Addr) (l : List ByteArray) (hV : Sn w V q) (hl : Strs w B ao l) (hh : I64 h) (hb : l.length < 4398046511104) :
    Calls Tryz.prog 7 #[.agg #[.int .i64 V.m, .int .i64 V.next, .slice q.aA V.act.length q.cA, .int .i64 V.own, .slice q.aR V.run.length q.cR, .int .i64 V.pg.lsn, .int .i64 V.pg.kind, .int .i64 V.pg.level, .int .i64 V.pg.right, .string V.pg.high, .slice q.aP V.pg.items.length q.cP], .int .i64 h, .int .i64 pg, .agg #[.int .i64 a, .int .i64 kd, .int .i64 lv, .int .i64 r, .string hi, .slice ao l.length cp]] w fun e w' => ∃ v0 v1 v2, e = .returned (.agg #[v0, v1, v2]) ∧ WkAt w' w.heap.size v0 v1 v2 (if kd = 2 then wkN V h pg l l.length else ⟨[], [], []⟩) ∧ Only (fun _ => False) w w' := by
  have HN := hide (sort_new w V q a kd lv r hi cp l.length ao)
  have HSN := hide hV
  have HST := hide hl
  have HH := hide hh
  have HBD := hide hb
  clear hV hl hh hb
  go_enter Tryz.func7, Tryz.ntmps7
  go_upto_region 2 with fail
  obtain ⟨W1, hW1⟩ : ∃ x, (((w.alloc (.cells #[.int .i64 V.m, .int .i64 V.next, .slice q.aA V.act.length q.cA, .int .i64 V.own, .slice q.aR V.run.length q.cR, .int .i64 V.pg.lsn, .int .i64 V.pg.kind, .int .i64 V.pg.level, .int .i64 V.pg.right, .string V.pg.high, .slice q.aP V.pg.items.length q.cP] 32)).alloc (.cells #[.int .i64 a, .int .i64 kd, .int .i64 lv, .int .i64 r, .string hi, .slice ao l.length cp] 30)).alloc (.cells #[.slice none 0 0, .slice none 0 0, .slice none 0 0] 39)).alloc (.cells #[.slice none 0 0, .slice none 0 0, .slice none 0 0] 39) = x := ⟨_, rfl⟩
  rw [hW1] at HN ⊢
  clear hW1
  obtain ⟨b9, hb9⟩ : ∃ b, w.heap.size + 1 + 1 + 1 = b := ⟨_, rfl⟩
  rw [hb9] at HN ⊢
  obtain ⟨b8, hb8⟩ : ∃ b, w.heap.size + 1 + 1 = b := ⟨_, rfl⟩
  rw [hb8] at HN ⊢
  obtain ⟨b7, hb7⟩ : ∃ b, w.heap.size + 1 = b := ⟨_, rfl⟩
  rw [hb7] at HN ⊢
  have HBK : Hid (b7 = w.heap.size + 1 ∧ b8 = w.heap.size + 2 ∧ b9 = w.heap.size + 3) := ⟨by omega, by omega, by omega⟩
  clear hb7 hb8 hb9
  have HO1 := hide HN.out.2.2.2.2.1
  have HSZ := hide HN.out.2.2.2.2.2
  have HSNW := hide (HSN.out.more HO1.out)
  have HP1 := hide HN.out.2.1
  have HW8 := hide HN.out.2.2.1
  have HS0 : Hid (SoSt W1 W1 b9 (.slice none 0 0) (.slice none 0 0) (.slice none 0 0) (wkN V h pg l 0)) := ⟨HN.out.2.2.2.1, WkAt.nil _ _, Only.refl _ _, HN.out.2.2.2.1.lt⟩
  obtain ⟨p0, p1, p2, p3, p4, p5, _⟩ := HP1.out
  by_cases hk : kd = 2
  · subst hk
    have HVB := hide HN.out.1
    obtain ⟨b4, hb4⟩ : ∃ b, w.heap.size = b := ⟨_, rfl⟩
    rw [hb4] at HVB ⊢
    have HB4 : Hid (b4 < W1.heap.size ∧ b4 ≠ b9) := ⟨by have := HSZ.out; omega, by have := HBK.out; omega⟩
    have HB4W : Hid (b4 = w.heap.size) := hb4.symm
    clear hb4
    go_upto_region 4 with fail
    go_wp2_with fail
    clear p0 p1 p2 p3 p4 p5
    go_loopw [21] (fun y wr => ∃ (j : Nat) (v0 v1 v2 : Value), j ≤ l.length ∧ y = .int .i64 (j : Int) ∧ Hid (SoSt W1 wr b9 v0 v1 v2 (wkN V h pg l j))) (fun y _ => l.length - (intOf y).toNat)
    case atStart => exact ⟨0, _, _, _, by omega, rfl, HS0⟩
    case round =>
      obtain ⟨j, v0, v1, v2, hj, rfl, HS⟩ := hrel
      have HOW : Hid (Only (fun _ => False) w wr) := HO1.out.trans HS.out.only (fun i hi e => by have := HSZ.out; have := HBK.out; omega)
      by_cases hlt : j < l.length
      · have hin : (j : Int) < (l.length : Int) := by omega
        obtain ⟨o, rfl, hc⟩ := (HST.out.more HOW.out).at_ (by omega)
        have ck : wr.cell? ⟨B, o + j, none⟩ = some (.string l[j]) := hc j hlt
        have HK := hide (wkN_step (V := V) (h := h) (pg := pg) hlt)
        have HLEN := hide (wkN_len V h pg l j)
        have HBJ : Hid (j < 4398046511104) := by have := HBD.out; unfold Hid; omega
        have hjb := HBJ.out
        obtain ⟨K, hK⟩ : ∃ K, wkN V h pg l j = K := ⟨_, rfl⟩
        obtain ⟨s, hs⟩ : ∃ s, l[j] = s := ⟨_, rfl⟩
        rw [hs] at ck HK
        have HLT := hide hlt
        rw [hK] at HK HLEN HS
        clear hc hK hs
        have HVR := hide (HVB.out.kept HS.out.only (fun e => by have := HB4.out; omega))
        have HVER := hide (fun W => version_any s W)
        have HDE := hide (fun W => isDead_any s W)
        obtain ⟨t, ht⟩ : ∃ t, (decT (bl s)).getD noT = t := ⟨_, rfl⟩
        have HAG : Hid (t.agg = .agg #[.int .i64 t.xmin, .int .i64 t.xmax, .bool t.frozen, .string t.key, .string t.value]) := rfl
        rw [ht, HAG.out] at HVER
        have HTI : Hid (I64 t.xmin ∧ I64 t.xmax) := by unfold Hid; rw [← ht]; exact dec_small s
        cases hd : decT (bl s) with
        | none =>
          rw [hd] at HVER
          have HVER2 : Hid (∀ W, Calls Tryz.prog 22 #[.string s] W fun e w' => e = .returned (.tuple #[.agg #[.int .i64 t.xmin, .int .i64 t.xmax, .bool t.frozen, .string t.key, .string t.value], .bool false]) ∧ Only (fun _ => False) W w') := HVER.out
          clear HVER ht
          go_upto_region 7 with fail
          clear ck
          go_wp2_with fail
          refine (HVER2.out _).mono ?_
          rintro e w2 ⟨rfl, ho2⟩
          have HT2 : Hid (Tb (w2.alloc (.cells #[.int .i64 t.xmin, .int .i64 t.xmax, .bool t.frozen, .string t.key, .string t.value] 62)) w2.heap.size t) := Tb.new w2 t
          have HO2 := hide (o2 ho2 (onlyA w2 (.cells #[.int .i64 t.xmin, .int .i64 t.xmax, .bool t.frozen, .string t.key, .string t.value] 62)))
          have HV2 := hide (HVR.out.more HO2.out)
          have HS2 := hide (HS.out.more HO2.out)
          have HB2 : Hid (wr.heap.size ≤ w2.heap.size) := ho2.size
          go_upto_region 8 with fail
          obtain ⟨b12, hb12⟩ : ∃ b, w2.heap.size = b := ⟨_, rfl⟩
          rw [hb12] at HT2 HB2 ⊢
          clear hb12 ho2
          obtain ⟨W2, hW2⟩ : ∃ x, w2.alloc (.cells #[.int .i64 t.xmin, .int .i64 t.xmax, .bool t.frozen, .string t.key, .string t.value] 62) = x := ⟨_, rfl⟩
          rw [hW2] at HT2 HO2 HV2 HS2 ⊢
          clear hW2
          cases hD : (stT (bl s) == 2) with
          | true =>
            have HGN := hide (gnS_dead (V := V) (h := h) hD)
            rw [hD] at HDE
            go_wp2_with fail
            refine (HDE.out _).mono ?_
            rintro e w3 ⟨rfl, ho3⟩
            have HS3 := hide (HS2.out.more ho3)
            clear ho3 hd hD
            have HEN := hide (fun W => entry_any s pg (j : Int) W)
            obtain ⟨kb, hkb⟩ : ∃ k, keyB s = k := ⟨_, rfl⟩
            have HKB := hide hkb
            rw [hkb] at HEN
            clear hkb
            have c2 := HS3.out.wb.c2
            have c2a := (HS3.out.more (Only.drew (fun _ => False) w3)).wb.c2
            go_upto_region 10 with fail
            refine wp_region_noPanic ?_
            refine wp_region_held_drew (S := fun _ => True) (by kernel_rfl) (trivial) (fun hHeld => ?_)
            refine wpAnyH_take (i := 0) (oi := { dst := some 41, op := Op.fieldAddr 39 (Operand.tmp 9) 2, type := 0, pos := "vacuum.go:22", after := #[], guard := none }) (v := .pointer (some ⟨b9, 2, none⟩)) rfl (by kernel_rfl) (by kernel_rfl) (by kernel_rfl) (fun _ _ _ h => h) (Or.inl ⟨by rfl, fun w' hSw => by clear hSw; go_simp⟩) (by assumption) ?_
            simp only [Act.put, List.setIfInBounds_toArray, List.set_cons_zero, List.set_cons_succ]
            refine wpAnyH_take (i := 2) (oi := { dst := some 43, op := Op.move (Operand.tmp 11), type := 9, pos := "vacuum.go:22", after := #[], guard := none }) (v := .string s) rfl (by kernel_rfl) (by kernel_rfl) (by kernel_rfl) (fun _ _ _ h => h) (Or.inl ⟨by rfl, fun w' hSw => by clear hSw; go_simp⟩) (by assumption) ?_
            simp only [Act.put, List.setIfInBounds_toArray, List.set_cons_zero, List.set_cons_succ]
            refine wpAnyH_take (i := 3) (oi := { dst := some 44, op := Op.move (Operand.tmp 2), type := 3, pos := "vacuum.go:22", after := #[], guard := none }) (v := .int .i64 pg) rfl (by kernel_rfl) (by kernel_rfl) (by kernel_rfl) (fun _ _ _ h => h) (Or.inl ⟨by rfl, fun w' hSw => by clear hSw; go_simp⟩) (by assumption) ?_
            simp only [Act.put, List.setIfInBounds_toArray, List.set_cons_zero, List.set_cons_succ]
            refine wpAnyH_take (i := 4) (oi := { dst := some 45, op := Op.move (Operand.tmp 10), type := 3, pos := "vacuum.go:22", after := #[], guard := none }) (v := .int .i64 (j : Int)) rfl (by kernel_rfl) (by kernel_rfl) (by kernel_rfl) (fun _ _ _ h => h) (Or.inl ⟨by rfl, fun w' hSw => by clear hSw; go_simp⟩) (by assumption) ?_
            simp only [Act.put, List.setIfInBounds_toArray, List.set_cons_zero, List.set_cons_succ]
            refine wpAnyH_ready (rs := [1, 5]) (by kernel_rfl) (by simp) ?_
            refine AllReadyH.cons (o := { dst := some 42, op := Op.load 37 (Operand.tmp 41), type := 37, pos := "vacuum.go:22", after := #[{ on := 0, ground := Ground.data }], guard := none }) rfl (fun K hK => ?_) (AllReadyH.cons (o := { dst := some 46, op := Op.call { callee := Callee.value (Operand.func 25), args := #[Operand.tmp 43, Operand.tmp 44, Operand.tmp 45], argTypes := #[9, 3, 3] }, type := 74, pos := "vacuum.go:22", after := #[{ on := 2, ground := Ground.data }, { on := 3, ground := Ground.data }, { on := 4, ground := Ground.data }], guard := none }) rfl (fun K hK => ?_) (AllReadyH.nil))
            · go_simp
              refine hK.out _ _ (trivial) (fun hHeld => ?_)
              clear hK K
              try simp only [Act.put, List.setIfInBounds_toArray, List.set_cons_zero, List.set_cons_succ]
              refine wpAnyH_ready (rs := [5]) (by kernel_rfl) (by simp) ?_
              refine AllReadyH.cons (o := { dst := some 46, op := Op.call { callee := Callee.value (Operand.func 25), args := #[Operand.tmp 43, Operand.tmp 44, Operand.tmp 45], argTypes := #[9, 3, 3] }, type := 74, pos := "vacuum.go:22", after := #[{ on := 2, ground := Ground.data }, { on := 3, ground := Ground.data }, { on := 4, ground := Ground.data }], guard := none }) rfl (fun K hK => ?_) (AllReadyH.nil)
              go_simp
              refine (HEN.out _).mono ?_
              rintro e w4 ⟨rfl, ho4⟩
              have HS4 := hide (HS3.out.more (o2 (Only.drew (fun _ => False) w3) ho4))
              have c2b := HS4.out.wb.c2
              have c2c := (HS4.out.more (onlyA w4 (.cells #[.string kb, .int .i64 pg, .int .i64 (j : Int)] 74))).wb.c2
              obtain ⟨v2n, w5, hr5, hg5, ho5, hob5⟩ := erw_one HS4.out.at_.gn ⟨kb, pg, (j : Int)⟩ (by have := HLEN.out.2.2; have := HBD.out; omega) (by have := HS4.out.only.size; omega) 37 1
              obtain ⟨a5, n5, c5, rfl⟩ := hg5.form3
              have HR5 := hide hr5
              have HS5 := hide (HS4.out.gn hg5 ho5 hob5)
              have HC5 := hide (HS4.out.wb.kept ho5 (fun e => by have := (HS4.out.at_.gn.low b9 e.symm).1; have := HS4.out.lt; omega))
              have x2 := HC5.out.c2
              have fx2 := HC5.out.f2
              clear ho4 hr5 hg5 ho5 hob5
              refine hK.out _ _ (trivial) (fun hHeld => ?_)
              clear hK K
              try simp only [Act.put, List.setIfInBounds_toArray, List.set_cons_zero, List.set_cons_succ]
              refine wpAnyH_ready (rs := [6]) (by kernel_rfl) (by simp) ?_
              refine AllReadyH.cons (o := { dst := some 47, op := Op.buildSlice 37 1 #[(0, Operand.tmp 46)], type := 37, pos := "vacuum.go:22", after := #[{ on := 5, ground := Ground.data }], guard := none }) rfl (fun K hK => ?_) (AllReadyH.nil)
              go_simp
              refine hK.out _ _ (trivial) (fun hHeld => ?_)
              clear hK K
              try simp only [Act.put, List.setIfInBounds_toArray, List.set_cons_zero, List.set_cons_succ]
              refine wpAnyH_ready (rs := [7]) (by kernel_rfl) (by simp) ?_
              refine AllReadyH.cons (o := { dst := some 48, op := Op.call { callee := Callee.builtin Builtin.append, args := #[Operand.tmp 42, Operand.tmp 47], argTypes := #[37, 37] }, type := 37, pos := "vacuum.go:22", after := #[{ on := 1, ground := Ground.data }, { on := 6, ground := Ground.data }, { on := 5, ground := Ground.chain }], guard := none }) rfl (fun K hK => ?_) (AllReadyH.nil)
              rw [if_pos (by rfl)]
              refine Lib.wp_append_run _ _ _ _ _ rfl _ _ rfl rfl _ _ HR5.out ?_
              refine hK.out _ _ (trivial) (fun hHeld => ?_)
              clear hK K
              try simp only [Act.put, List.setIfInBounds_toArray, List.set_cons_zero, List.set_cons_succ]
              refine wpAnyH_take (i := 8) (oi := { dst := some 49, op := Op.fieldAddr 39 (Operand.tmp 9) 2, type := 0, pos := "vacuum.go:22", after := #[{ on := 0, ground := Ground.phase }, { on := 1, ground := Ground.phase }, { on := 2, ground := Ground.phase }, { on := 3, ground := Ground.phase }, { on := 4, ground := Ground.phase }, { on := 5, ground := Ground.phase }, { on := 6, ground := Ground.phase }, { on := 7, ground := Ground.phase }], guard := none }) (v := .pointer (some ⟨b9, 2, none⟩)) rfl (by kernel_rfl) (by kernel_rfl) (by kernel_rfl) (fun _ _ _ h => h) (Or.inl ⟨by rfl, fun w' hSw => by clear hSw; go_simp⟩) (by assumption) ?_
              simp only [Act.put, List.setIfInBounds_toArray, List.set_cons_zero, List.set_cons_succ]
              refine wpAnyH_ready (rs := [9]) (by kernel_rfl) (by simp) ?_
              refine AllReadyH.cons (o := { dst := none, op := Op.store 37 (Operand.tmp 49) (Operand.tmp 48), type := 0, pos := "vacuum.go:22", after := #[{ on := 8, ground := Ground.data }, { on := 7, ground := Ground.data }, { on := 7, ground := Ground.chain }, { on := 0, ground := Ground.phase }, { on := 1, ground := Ground.phase }, { on := 2, ground := Ground.phase }, { on := 3, ground := Ground.phase }, { on := 4, ground := Ground.phase }, { on := 5, ground := Ground.phase }, { on := 6, ground := Ground.phase }, { on := 7, ground := Ground.phase }], guard := none }) rfl (fun K hK => ?_) (AllReadyH.nil)
              go_simp
              refine hK.out _ _ (trivial) (fun hHeld => ?_)
              clear hK K
              try simp only [Act.put, List.setIfInBounds_toArray, List.set_cons_zero, List.set_cons_succ]
              refine wpAnyH_done (by kernel_rfl) ?_ _
              refine NoPanic.normal ?_
              clear x2 fx2 c2a c2 c2b c2c HC5 HR5
              go_wp2_with fail
              go_roundw
              case rel => exact ⟨j + 1, _, _, _, HLT.out, by go_num, by rw [HK.out, Wk.step_gn HGN.out, HKB.out]; exact HS5.out⟩
              case measure => have := HLT.out; simp [intOf]; omega
            · go_simp
              refine (HEN.out _).mono ?_
              rintro e w4 ⟨rfl, ho4⟩
              have HS4 := hide (HS3.out.more (o2 (Only.drew (fun _ => False) w3) ho4))
              have c2b := HS4.out.wb.c2
              have c2c := (HS4.out.more (onlyA w4 (.cells #[.string kb, .int .i64 pg, .int .i64 (j : Int)] 74))).wb.c2
              obtain ⟨v2n, w5, hr5, hg5, ho5, hob5⟩ := erw_one HS4.out.at_.gn ⟨kb, pg, (j : Int)⟩ (by have := HLEN.out.2.2; have := HBD.out; omega) (by have := HS4.out.only.size; omega) 37 1
              obtain ⟨a5, n5, c5, rfl⟩ := hg5.form3
              have HR5 := hide hr5
              have HS5 := hide (HS4.out.gn hg5 ho5 hob5)
              have HC5 := hide (HS4.out.wb.kept ho5 (fun e => by have := (HS4.out.at_.gn.low b9 e.symm).1; have := HS4.out.lt; omega))
              have x2 := HC5.out.c2
              have fx2 := HC5.out.f2
              clear ho4 hr5 hg5 ho5 hob5
              refine hK.out _ _ (trivial) (fun hHeld => ?_)
              clear hK K
              try simp only [Act.put, List.setIfInBounds_toArray, List.set_cons_zero, List.set_cons_succ]
              refine wpAnyH_ready (rs := [1, 6]) (by kernel_rfl) (by simp) ?_
              refine AllReadyH.cons (o := { dst := some 42, op := Op.load 37 (Operand.tmp 41), type := 37, pos := "vacuum.go:22", after := #[{ on := 0, ground := Ground.data }], guard := none }) rfl (fun K hK => ?_) (AllReadyH.cons (o := { dst := some 47, op := Op.buildSlice 37 1 #[(0, Operand.tmp 46)], type := 37, pos := "vacuum.go:22", after := #[{ on := 5, ground := Ground.data }], guard := none }) rfl (fun K hK => ?_) (AllReadyH.nil))
              · go_simp
                refine hK.out _ _ (trivial) (fun hHeld => ?_)
                clear hK K
                try simp only [Act.put, List.setIfInBounds_toArray, List.set_cons_zero, List.set_cons_succ]
                refine wpAnyH_ready (rs := [6]) (by kernel_rfl) (by simp) ?_
                refine AllReadyH.cons (o := { dst := some 47, op := Op.buildSlice 37 1 #[(0, Operand.tmp 46)], type := 37, pos := "vacuum.go:22", after := #[{ on := 5, ground := Ground.data }], guard := none }) rfl (fun K hK => ?_) (AllReadyH.nil)
                go_simp
                refine hK.out _ _ (trivial) (fun hHeld => ?_)
                clear hK K
                try simp only [Act.put, List.setIfInBounds_toArray, List.set_cons_zero, List.set_cons_succ]
                refine wpAnyH_ready (rs := [7]) (by kernel_rfl) (by simp) ?_
                refine AllReadyH.cons (o := { dst := some 48, op := Op.call { callee := Callee.builtin Builtin.append, args := #[Operand.tmp 42, Operand.tmp 47], argTypes := #[37, 37] }, type := 37, pos := "vacuum.go:22", after := #[{ on := 1, ground := Ground.data }, { on := 6, ground := Ground.data }, { on := 5, ground := Ground.chain }], guard := none }) rfl (fun K hK => ?_) (AllReadyH.nil)
                rw [if_pos (by rfl)]
                refine Lib.wp_append_run _ _ _ _ _ rfl _ _ rfl rfl _ _ HR5.out ?_
                refine hK.out _ _ (trivial) (fun hHeld => ?_)
                clear hK K
                try simp only [Act.put, List.setIfInBounds_toArray, List.set_cons_zero, List.set_cons_succ]
                refine wpAnyH_take (i := 8) (oi := { dst := some 49, op := Op.fieldAddr 39 (Operand.tmp 9) 2, type := 0, pos := "vacuum.go:22", after := #[{ on := 0, ground := Ground.phase }, { on := 1, ground := Ground.phase }, { on := 2, ground := Ground.phase }, { on := 3, ground := Ground.phase }, { on := 4, ground := Ground.phase }, { on := 5, ground := Ground.phase }, { on := 6, ground := Ground.phase }, { on := 7, ground := Ground.phase }], guard := none }) (v := .pointer (some ⟨b9, 2, none⟩)) rfl (by kernel_rfl) (by kernel_rfl) (by kernel_rfl) (fun _ _ _ h => h) (Or.inl ⟨by rfl, fun w' hSw => by clear hSw; go_simp⟩) (by assumption) ?_
                simp only [Act.put, List.setIfInBounds_toArray, List.set_cons_zero, List.set_cons_succ]
                refine wpAnyH_ready (rs := [9]) (by kernel_rfl) (by simp) ?_
                refine AllReadyH.cons (o := { dst := none, op := Op.store 37 (Operand.tmp 49) (Operand.tmp 48), type := 0, pos := "vacuum.go:22", after := #[{ on := 8, ground := Ground.data }, { on := 7, ground := Ground.data }, { on := 7, ground := Ground.chain }, { on := 0, ground := Ground.phase }, { on := 1, ground := Ground.phase }, { on := 2, ground := Ground.phase }, { on := 3, ground := Ground.phase }, { on := 4, ground := Ground.phase }, { on := 5, ground := Ground.phase }, { on := 6, ground := Ground.phase }, { on := 7, ground := Ground.phase }], guard := none }) rfl (fun K hK => ?_) (AllReadyH.nil)
                go_simp
                refine hK.out _ _ (trivial) (fun hHeld => ?_)
                clear hK K
                try simp only [Act.put, List.setIfInBounds_toArray, List.set_cons_zero, List.set_cons_succ]
                refine wpAnyH_done (by kernel_rfl) ?_ _
                refine NoPanic.normal ?_
                clear x2 fx2 c2a c2 c2b c2c HC5 HR5
                go_wp2_with fail
                go_roundw
                case rel => exact ⟨j + 1, _, _, _, HLT.out, by go_num, by rw [HK.out, Wk.step_gn HGN.out, HKB.out]; exact HS5.out⟩
                case measure => have := HLT.out; simp [intOf]; omega
              · go_simp
                refine hK.out _ _ (trivial) (fun hHeld => ?_)
                clear hK K
                try simp only [Act.put, List.setIfInBounds_toArray, List.set_cons_zero, List.set_cons_succ]
                refine wpAnyH_ready (rs := [1]) (by kernel_rfl) (by simp) ?_
                refine AllReadyH.cons (o := { dst := some 42, op := Op.load 37 (Operand.tmp 41), type := 37, pos := "vacuum.go:22", after := #[{ on := 0, ground := Ground.data }], guard := none }) rfl (fun K hK => ?_) (AllReadyH.nil)
                go_simp
                refine hK.out _ _ (trivial) (fun hHeld => ?_)
                clear hK K
                try simp only [Act.put, List.setIfInBounds_toArray, List.set_cons_zero, List.set_cons_succ]
                refine wpAnyH_ready (rs := [7]) (by kernel_rfl) (by simp) ?_
                refine AllReadyH.cons (o := { dst := some 48, op := Op.call { callee := Callee.builtin Builtin.append, args := #[Operand.tmp 42, Operand.tmp 47], argTypes := #[37, 37] }, type := 37, pos := "vacuum.go:22", after := #[{ on := 1, ground := Ground.data }, { on := 6, ground := Ground.data }, { on := 5, ground := Ground.chain }], guard := none }) rfl (fun K hK => ?_) (AllReadyH.nil)
                rw [if_pos (by rfl)]
                refine Lib.wp_append_run _ _ _ _ _ rfl _ _ rfl rfl _ _ HR5.out ?_
                refine hK.out _ _ (trivial) (fun hHeld => ?_)
                clear hK K
                try simp only [Act.put, List.setIfInBounds_toArray, List.set_cons_zero, List.set_cons_succ]
                refine wpAnyH_take (i := 8) (oi := { dst := some 49, op := Op.fieldAddr 39 (Operand.tmp 9) 2, type := 0, pos := "vacuum.go:22", after := #[{ on := 0, ground := Ground.phase }, { on := 1, ground := Ground.phase }, { on := 2, ground := Ground.phase }, { on := 3, ground := Ground.phase }, { on := 4, ground := Ground.phase }, { on := 5, ground := Ground.phase }, { on := 6, ground := Ground.phase }, { on := 7, ground := Ground.phase }], guard := none }) (v := .pointer (some ⟨b9, 2, none⟩)) rfl (by kernel_rfl) (by kernel_rfl) (by kernel_rfl) (fun _ _ _ h => h) (Or.inl ⟨by rfl, fun w' hSw => by clear hSw; go_simp⟩) (by assumption) ?_
                simp only [Act.put, List.setIfInBounds_toArray, List.set_cons_zero, List.set_cons_succ]
                refine wpAnyH_ready (rs := [9]) (by kernel_rfl) (by simp) ?_
                refine AllReadyH.cons (o := { dst := none, op := Op.store 37 (Operand.tmp 49) (Operand.tmp 48), type := 0, pos := "vacuum.go:22", after := #[{ on := 8, ground := Ground.data }, { on := 7, ground := Ground.data }, { on := 7, ground := Ground.chain }, { on := 0, ground := Ground.phase }, { on := 1, ground := Ground.phase }, { on := 2, ground := Ground.phase }, { on := 3, ground := Ground.phase }, { on := 4, ground := Ground.phase }, { on := 5, ground := Ground.phase }, { on := 6, ground := Ground.phase }, { on := 7, ground := Ground.phase }], guard := none }) rfl (fun K hK => ?_) (AllReadyH.nil)
                go_simp
                refine hK.out _ _ (trivial) (fun hHeld => ?_)
                clear hK K
                try simp only [Act.put, List.setIfInBounds_toArray, List.set_cons_zero, List.set_cons_succ]
                refine wpAnyH_done (by kernel_rfl) ?_ _
                refine NoPanic.normal ?_
                clear x2 fx2 c2a c2 c2b c2c HC5 HR5
                go_wp2_with fail
                go_roundw
                case rel => exact ⟨j + 1, _, _, _, HLT.out, by go_num, by rw [HK.out, Wk.step_gn HGN.out, HKB.out]; exact HS5.out⟩
                case measure => have := HLT.out; simp [intOf]; omega
          | false =>
            have HK2 := hide (Wk.step_no (V := V) (h := h) (pg := pg) (K := K) (i := j) hd hD)
            rw [hD] at HDE
            go_wp2_with fail
            refine (HDE.out _).mono ?_
            rintro e w3 ⟨rfl, ho3⟩
            have HS3 := hide (HS2.out.more ho3)
            clear ho3 hd hD
            go_wp2_with fail
            go_roundw
            case rel => exact ⟨j + 1, _, _, _, HLT.out, by go_num, by rw [HK.out, HK2.out]; exact HS3.out⟩
            case measure => have := HLT.out; simp [intOf]; omega
        | some t' =>
          rw [hd] at HVER
          have e1 : t' = t := by rw [hd] at ht; exact ht
          subst e1
          have HD := hide hd
          have HND := hide (stT_lv hd)
          have HVER2 : Hid (∀ W, Calls Tryz.prog 22 #[.string s] W fun e w' => e = .returned (.tuple #[.agg #[.int .i64 t'.xmin, .int .i64 t'.xmax, .bool t'.frozen, .string t'.key, .string t'.value], .bool true]) ∧ Only (fun _ => False) W w') := HVER.out
          clear HVER ht
          rw [HND.out] at HDE
          go_upto_region 7 with fail
          clear ck
          go_wp2_with fail
          refine (HVER2.out _).mono ?_
          rintro e w2 ⟨rfl, ho2⟩
          have HT2 : Hid (Tb (w2.alloc (.cells #[.int .i64 t'.xmin, .int .i64 t'.xmax, .bool t'.frozen, .string t'.key, .string t'.value] 62)) w2.heap.size t') := Tb.new w2 t'
          have HO2 := hide (o2 ho2 (onlyA w2 (.cells #[.int .i64 t'.xmin, .int .i64 t'.xmax, .bool t'.frozen, .string t'.key, .string t'.value] 62)))
          have HV2 := hide (HVR.out.more HO2.out)
          have HS2 := hide (HS.out.more HO2.out)
          have HB2 : Hid (wr.heap.size ≤ w2.heap.size) := ho2.size
          go_upto_region 8 with fail
          obtain ⟨b12, hb12⟩ : ∃ b, w2.heap.size = b := ⟨_, rfl⟩
          rw [hb12] at HT2 HB2 ⊢
          clear hb12 ho2
          obtain ⟨W2, hW2⟩ : ∃ x, w2.alloc (.cells #[.int .i64 t'.xmin, .int .i64 t'.xmax, .bool t'.frozen, .string t'.key, .string t'.value] 62) = x := ⟨_, rfl⟩
          rw [hW2] at HT2 HO2 HV2 HS2 ⊢
          clear hW2
          have HGO := hide (fun W (hs : Sn W V q) => gone_any W V q t'.tp h hs HTI.out HH.out)
          unfold Tu.tp at HGO
          simp only [] at HGO
          go_wp2_with fail
          refine (HDE.out _).mono ?_
          rintro e w3a ⟨rfl, ho3⟩
          have HS3a := hide (HS2.out.more ho3)
          have HT3a := hide (HT2.out.more ho3)
          have HV3a := hide (HV2.out.more ho3)
          have HO3a := hide (o2 HO2.out ho3)
          clear ho3 hd
          obtain ⟨vc0, vc1, vc2, vc3, vc4, vc5, vc6, vc7, vc8, vc9, vc10, _, _, _, _, _, _, _, _, _, _, _, _⟩ := HV3a.out
          obtain ⟨tc0, tc1, tc2, tc3, tc4, _, _, _, _, _, _⟩ := HT3a.out
          cases hg : vgone V t'.tp h with
          | true =>
            have hg2 : vgone V { xmin := t'.xmin, xmax := t'.xmax, fz := t'.frozen, key := t'.key, val := t'.value } h = true := hg
            rw [hg2] at HGO
            have HGN := hide (gnS_lv HD.out hg)
            go_wp2_with fail
            refine (HGO.out _ (HSN.out.more (o2 HOW.out HO3a.out))).mono ?_
            rintro e w3 ⟨rfl, ho3⟩
            have HS3 := hide (HS3a.out.more ho3)
            clear ho3 hg hg2 vc0 vc1 vc2 vc3 vc4 vc5 vc6 vc7 vc8 vc9 vc10 tc0 tc1 tc2 tc3 tc4 HS3a HT3a HV3a HO3a HGO HS2 HT2 HV2 HO2
            have HEN := hide (fun W => entry_any s pg (j : Int) W)
            obtain ⟨kb, hkb⟩ : ∃ k, keyB s = k := ⟨_, rfl⟩
            have HKB := hide hkb
            rw [hkb] at HEN
            clear hkb
            have c2 := HS3.out.wb.c2
            have c2a := (HS3.out.more (Only.drew (fun _ => False) w3)).wb.c2
            go_upto_region 10 with fail
            refine wp_region_noPanic ?_
            refine wp_region_held_drew (S := fun _ => True) (by kernel_rfl) (trivial) (fun hHeld => ?_)
            refine wpAnyH_take (i := 0) (oi := { dst := some 41, op := Op.fieldAddr 39 (Operand.tmp 9) 2, type := 0, pos := "vacuum.go:22", after := #[], guard := none }) (v := .pointer (some ⟨b9, 2, none⟩)) rfl (by kernel_rfl) (by kernel_rfl) (by kernel_rfl) (fun _ _ _ h => h) (Or.inl ⟨by rfl, fun w' hSw => by clear hSw; go_simp⟩) (by assumption) ?_
            simp only [Act.put, List.setIfInBounds_toArray, List.set_cons_zero, List.set_cons_succ]
            refine wpAnyH_take (i := 2) (oi := { dst := some 43, op := Op.move (Operand.tmp 11), type := 9, pos := "vacuum.go:22", after := #[], guard := none }) (v := .string s) rfl (by kernel_rfl) (by kernel_rfl) (by kernel_rfl) (fun _ _ _ h => h) (Or.inl ⟨by rfl, fun w' hSw => by clear hSw; go_simp⟩) (by assumption) ?_
            simp only [Act.put, List.setIfInBounds_toArray, List.set_cons_zero, List.set_cons_succ]
            refine wpAnyH_take (i := 3) (oi := { dst := some 44, op := Op.move (Operand.tmp 2), type := 3, pos := "vacuum.go:22", after := #[], guard := none }) (v := .int .i64 pg) rfl (by kernel_rfl) (by kernel_rfl) (by kernel_rfl) (fun _ _ _ h => h) (Or.inl ⟨by rfl, fun w' hSw => by clear hSw; go_simp⟩) (by assumption) ?_
            simp only [Act.put, List.setIfInBounds_toArray, List.set_cons_zero, List.set_cons_succ]
            refine wpAnyH_take (i := 4) (oi := { dst := some 45, op := Op.move (Operand.tmp 10), type := 3, pos := "vacuum.go:22", after := #[], guard := none }) (v := .int .i64 (j : Int)) rfl (by kernel_rfl) (by kernel_rfl) (by kernel_rfl) (fun _ _ _ h => h) (Or.inl ⟨by rfl, fun w' hSw => by clear hSw; go_simp⟩) (by assumption) ?_
            simp only [Act.put, List.setIfInBounds_toArray, List.set_cons_zero, List.set_cons_succ]
            refine wpAnyH_ready (rs := [1, 5]) (by kernel_rfl) (by simp) ?_
            refine AllReadyH.cons (o := { dst := some 42, op := Op.load 37 (Operand.tmp 41), type := 37, pos := "vacuum.go:22", after := #[{ on := 0, ground := Ground.data }], guard := none }) rfl (fun K hK => ?_) (AllReadyH.cons (o := { dst := some 46, op := Op.call { callee := Callee.value (Operand.func 25), args := #[Operand.tmp 43, Operand.tmp 44, Operand.tmp 45], argTypes := #[9, 3, 3] }, type := 74, pos := "vacuum.go:22", after := #[{ on := 2, ground := Ground.data }, { on := 3, ground := Ground.data }, { on := 4, ground := Ground.data }], guard := none }) rfl (fun K hK => ?_) (AllReadyH.nil))
            · go_simp
              refine hK.out _ _ (trivial) (fun hHeld => ?_)
              clear hK K
              try simp only [Act.put, List.setIfInBounds_toArray, List.set_cons_zero, List.set_cons_succ]
              refine wpAnyH_ready (rs := [5]) (by kernel_rfl) (by simp) ?_
              refine AllReadyH.cons (o := { dst := some 46, op := Op.call { callee := Callee.value (Operand.func 25), args := #[Operand.tmp 43, Operand.tmp 44, Operand.tmp 45], argTypes := #[9, 3, 3] }, type := 74, pos := "vacuum.go:22", after := #[{ on := 2, ground := Ground.data }, { on := 3, ground := Ground.data }, { on := 4, ground := Ground.data }], guard := none }) rfl (fun K hK => ?_) (AllReadyH.nil)
              go_simp
              refine (HEN.out _).mono ?_
              rintro e w4 ⟨rfl, ho4⟩
              have HS4 := hide (HS3.out.more (o2 (Only.drew (fun _ => False) w3) ho4))
              have c2b := HS4.out.wb.c2
              have c2c := (HS4.out.more (onlyA w4 (.cells #[.string kb, .int .i64 pg, .int .i64 (j : Int)] 74))).wb.c2
              obtain ⟨v2n, w5, hr5, hg5, ho5, hob5⟩ := erw_one HS4.out.at_.gn ⟨kb, pg, (j : Int)⟩ (by have := HLEN.out.2.2; have := HBD.out; omega) (by have := HS4.out.only.size; omega) 37 1
              obtain ⟨a5, n5, c5, rfl⟩ := hg5.form3
              have HR5 := hide hr5
              have HS5 := hide (HS4.out.gn hg5 ho5 hob5)
              have HC5 := hide (HS4.out.wb.kept ho5 (fun e => by have := (HS4.out.at_.gn.low b9 e.symm).1; have := HS4.out.lt; omega))
              have x2 := HC5.out.c2
              have fx2 := HC5.out.f2
              clear ho4 hr5 hg5 ho5 hob5
              refine hK.out _ _ (trivial) (fun hHeld => ?_)
              clear hK K
              try simp only [Act.put, List.setIfInBounds_toArray, List.set_cons_zero, List.set_cons_succ]
              refine wpAnyH_ready (rs := [6]) (by kernel_rfl) (by simp) ?_
              refine AllReadyH.cons (o := { dst := some 47, op := Op.buildSlice 37 1 #[(0, Operand.tmp 46)], type := 37, pos := "vacuum.go:22", after := #[{ on := 5, ground := Ground.data }], guard := none }) rfl (fun K hK => ?_) (AllReadyH.nil)
              go_simp
              refine hK.out _ _ (trivial) (fun hHeld => ?_)
              clear hK K
              try simp only [Act.put, List.setIfInBounds_toArray, List.set_cons_zero, List.set_cons_succ]
              refine wpAnyH_ready (rs := [7]) (by kernel_rfl) (by simp) ?_
              refine AllReadyH.cons (o := { dst := some 48, op := Op.call { callee := Callee.builtin Builtin.append, args := #[Operand.tmp 42, Operand.tmp 47], argTypes := #[37, 37] }, type := 37, pos := "vacuum.go:22", after := #[{ on := 1, ground := Ground.data }, { on := 6, ground := Ground.data }, { on := 5, ground := Ground.chain }], guard := none }) rfl (fun K hK => ?_) (AllReadyH.nil)
              rw [if_pos (by rfl)]
              refine Lib.wp_append_run _ _ _ _ _ rfl _ _ rfl rfl _ _ HR5.out ?_
              refine hK.out _ _ (trivial) (fun hHeld => ?_)
              clear hK K
              try simp only [Act.put, List.setIfInBounds_toArray, List.set_cons_zero, List.set_cons_succ]
              refine wpAnyH_take (i := 8) (oi := { dst := some 49, op := Op.fieldAddr 39 (Operand.tmp 9) 2, type := 0, pos := "vacuum.go:22", after := #[{ on := 0, ground := Ground.phase }, { on := 1, ground := Ground.phase }, { on := 2, ground := Ground.phase }, { on := 3, ground := Ground.phase }, { on := 4, ground := Ground.phase }, { on := 5, ground := Ground.phase }, { on := 6, ground := Ground.phase }, { on := 7, ground := Ground.phase }], guard := none }) (v := .pointer (some ⟨b9, 2, none⟩)) rfl (by kernel_rfl) (by kernel_rfl) (by kernel_rfl) (fun _ _ _ h => h) (Or.inl ⟨by rfl, fun w' hSw => by clear hSw; go_simp⟩) (by assumption) ?_
              simp only [Act.put, List.setIfInBounds_toArray, List.set_cons_zero, List.set_cons_succ]
              refine wpAnyH_ready (rs := [9]) (by kernel_rfl) (by simp) ?_
              refine AllReadyH.cons (o := { dst := none, op := Op.store 37 (Operand.tmp 49) (Operand.tmp 48), type := 0, pos := "vacuum.go:22", after := #[{ on := 8, ground := Ground.data }, { on := 7, ground := Ground.data }, { on := 7, ground := Ground.chain }, { on := 0, ground := Ground.phase }, { on := 1, ground := Ground.phase }, { on := 2, ground := Ground.phase }, { on := 3, ground := Ground.phase }, { on := 4, ground := Ground.phase }, { on := 5, ground := Ground.phase }, { on := 6, ground := Ground.phase }, { on := 7, ground := Ground.phase }], guard := none }) rfl (fun K hK => ?_) (AllReadyH.nil)
              go_simp
              refine hK.out _ _ (trivial) (fun hHeld => ?_)
              clear hK K
              try simp only [Act.put, List.setIfInBounds_toArray, List.set_cons_zero, List.set_cons_succ]
              refine wpAnyH_done (by kernel_rfl) ?_ _
              refine NoPanic.normal ?_
              clear x2 fx2 c2a c2 c2b c2c HC5 HR5
              go_wp2_with fail
              go_roundw
              case rel => exact ⟨j + 1, _, _, _, HLT.out, by go_num, by rw [HK.out, Wk.step_gn HGN.out, HKB.out]; exact HS5.out⟩
              case measure => have := HLT.out; simp [intOf]; omega
            · go_simp
              refine (HEN.out _).mono ?_
              rintro e w4 ⟨rfl, ho4⟩
              have HS4 := hide (HS3.out.more (o2 (Only.drew (fun _ => False) w3) ho4))
              have c2b := HS4.out.wb.c2
              have c2c := (HS4.out.more (onlyA w4 (.cells #[.string kb, .int .i64 pg, .int .i64 (j : Int)] 74))).wb.c2
              obtain ⟨v2n, w5, hr5, hg5, ho5, hob5⟩ := erw_one HS4.out.at_.gn ⟨kb, pg, (j : Int)⟩ (by have := HLEN.out.2.2; have := HBD.out; omega) (by have := HS4.out.only.size; omega) 37 1
              obtain ⟨a5, n5, c5, rfl⟩ := hg5.form3
              have HR5 := hide hr5
              have HS5 := hide (HS4.out.gn hg5 ho5 hob5)
              have HC5 := hide (HS4.out.wb.kept ho5 (fun e => by have := (HS4.out.at_.gn.low b9 e.symm).1; have := HS4.out.lt; omega))
              have x2 := HC5.out.c2
              have fx2 := HC5.out.f2
              clear ho4 hr5 hg5 ho5 hob5
              refine hK.out _ _ (trivial) (fun hHeld => ?_)
              clear hK K
              try simp only [Act.put, List.setIfInBounds_toArray, List.set_cons_zero, List.set_cons_succ]
              refine wpAnyH_ready (rs := [1, 6]) (by kernel_rfl) (by simp) ?_
              refine AllReadyH.cons (o := { dst := some 42, op := Op.load 37 (Operand.tmp 41), type := 37, pos := "vacuum.go:22", after := #[{ on := 0, ground := Ground.data }], guard := none }) rfl (fun K hK => ?_) (AllReadyH.cons (o := { dst := some 47, op := Op.buildSlice 37 1 #[(0, Operand.tmp 46)], type := 37, pos := "vacuum.go:22", after := #[{ on := 5, ground := Ground.data }], guard := none }) rfl (fun K hK => ?_) (AllReadyH.nil))
              · go_simp
                refine hK.out _ _ (trivial) (fun hHeld => ?_)
                clear hK K
                try simp only [Act.put, List.setIfInBounds_toArray, List.set_cons_zero, List.set_cons_succ]
                refine wpAnyH_ready (rs := [6]) (by kernel_rfl) (by simp) ?_
                refine AllReadyH.cons (o := { dst := some 47, op := Op.buildSlice 37 1 #[(0, Operand.tmp 46)], type := 37, pos := "vacuum.go:22", after := #[{ on := 5, ground := Ground.data }], guard := none }) rfl (fun K hK => ?_) (AllReadyH.nil)
                go_simp
                refine hK.out _ _ (trivial) (fun hHeld => ?_)
                clear hK K
                try simp only [Act.put, List.setIfInBounds_toArray, List.set_cons_zero, List.set_cons_succ]
                refine wpAnyH_ready (rs := [7]) (by kernel_rfl) (by simp) ?_
                refine AllReadyH.cons (o := { dst := some 48, op := Op.call { callee := Callee.builtin Builtin.append, args := #[Operand.tmp 42, Operand.tmp 47], argTypes := #[37, 37] }, type := 37, pos := "vacuum.go:22", after := #[{ on := 1, ground := Ground.data }, { on := 6, ground := Ground.data }, { on := 5, ground := Ground.chain }], guard := none }) rfl (fun K hK => ?_) (AllReadyH.nil)
                rw [if_pos (by rfl)]
                refine Lib.wp_append_run _ _ _ _ _ rfl _ _ rfl rfl _ _ HR5.out ?_
                refine hK.out _ _ (trivial) (fun hHeld => ?_)
                clear hK K
                try simp only [Act.put, List.setIfInBounds_toArray, List.set_cons_zero, List.set_cons_succ]
                refine wpAnyH_take (i := 8) (oi := { dst := some 49, op := Op.fieldAddr 39 (Operand.tmp 9) 2, type := 0, pos := "vacuum.go:22", after := #[{ on := 0, ground := Ground.phase }, { on := 1, ground := Ground.phase }, { on := 2, ground := Ground.phase }, { on := 3, ground := Ground.phase }, { on := 4, ground := Ground.phase }, { on := 5, ground := Ground.phase }, { on := 6, ground := Ground.phase }, { on := 7, ground := Ground.phase }], guard := none }) (v := .pointer (some ⟨b9, 2, none⟩)) rfl (by kernel_rfl) (by kernel_rfl) (by kernel_rfl) (fun _ _ _ h => h) (Or.inl ⟨by rfl, fun w' hSw => by clear hSw; go_simp⟩) (by assumption) ?_
                simp only [Act.put, List.setIfInBounds_toArray, List.set_cons_zero, List.set_cons_succ]
                refine wpAnyH_ready (rs := [9]) (by kernel_rfl) (by simp) ?_
                refine AllReadyH.cons (o := { dst := none, op := Op.store 37 (Operand.tmp 49) (Operand.tmp 48), type := 0, pos := "vacuum.go:22", after := #[{ on := 8, ground := Ground.data }, { on := 7, ground := Ground.data }, { on := 7, ground := Ground.chain }, { on := 0, ground := Ground.phase }, { on := 1, ground := Ground.phase }, { on := 2, ground := Ground.phase }, { on := 3, ground := Ground.phase }, { on := 4, ground := Ground.phase }, { on := 5, ground := Ground.phase }, { on := 6, ground := Ground.phase }, { on := 7, ground := Ground.phase }], guard := none }) rfl (fun K hK => ?_) (AllReadyH.nil)
                go_simp
                refine hK.out _ _ (trivial) (fun hHeld => ?_)
                clear hK K
                try simp only [Act.put, List.setIfInBounds_toArray, List.set_cons_zero, List.set_cons_succ]
                refine wpAnyH_done (by kernel_rfl) ?_ _
                refine NoPanic.normal ?_
                clear x2 fx2 c2a c2 c2b c2c HC5 HR5
                go_wp2_with fail
                go_roundw
                case rel => exact ⟨j + 1, _, _, _, HLT.out, by go_num, by rw [HK.out, Wk.step_gn HGN.out, HKB.out]; exact HS5.out⟩
                case measure => have := HLT.out; simp [intOf]; omega
              · go_simp
                refine hK.out _ _ (trivial) (fun hHeld => ?_)
                clear hK K
                try simp only [Act.put, List.setIfInBounds_toArray, List.set_cons_zero, List.set_cons_succ]
                refine wpAnyH_ready (rs := [1]) (by kernel_rfl) (by simp) ?_
                refine AllReadyH.cons (o := { dst := some 42, op := Op.load 37 (Operand.tmp 41), type := 37, pos := "vacuum.go:22", after := #[{ on := 0, ground := Ground.data }], guard := none }) rfl (fun K hK => ?_) (AllReadyH.nil)
                go_simp
                refine hK.out _ _ (trivial) (fun hHeld => ?_)
                clear hK K
                try simp only [Act.put, List.setIfInBounds_toArray, List.set_cons_zero, List.set_cons_succ]
                refine wpAnyH_ready (rs := [7]) (by kernel_rfl) (by simp) ?_
                refine AllReadyH.cons (o := { dst := some 48, op := Op.call { callee := Callee.builtin Builtin.append, args := #[Operand.tmp 42, Operand.tmp 47], argTypes := #[37, 37] }, type := 37, pos := "vacuum.go:22", after := #[{ on := 1, ground := Ground.data }, { on := 6, ground := Ground.data }, { on := 5, ground := Ground.chain }], guard := none }) rfl (fun K hK => ?_) (AllReadyH.nil)
                rw [if_pos (by rfl)]
                refine Lib.wp_append_run _ _ _ _ _ rfl _ _ rfl rfl _ _ HR5.out ?_
                refine hK.out _ _ (trivial) (fun hHeld => ?_)
                clear hK K
                try simp only [Act.put, List.setIfInBounds_toArray, List.set_cons_zero, List.set_cons_succ]
                refine wpAnyH_take (i := 8) (oi := { dst := some 49, op := Op.fieldAddr 39 (Operand.tmp 9) 2, type := 0, pos := "vacuum.go:22", after := #[{ on := 0, ground := Ground.phase }, { on := 1, ground := Ground.phase }, { on := 2, ground := Ground.phase }, { on := 3, ground := Ground.phase }, { on := 4, ground := Ground.phase }, { on := 5, ground := Ground.phase }, { on := 6, ground := Ground.phase }, { on := 7, ground := Ground.phase }], guard := none }) (v := .pointer (some ⟨b9, 2, none⟩)) rfl (by kernel_rfl) (by kernel_rfl) (by kernel_rfl) (fun _ _ _ h => h) (Or.inl ⟨by rfl, fun w' hSw => by clear hSw; go_simp⟩) (by assumption) ?_
                simp only [Act.put, List.setIfInBounds_toArray, List.set_cons_zero, List.set_cons_succ]
                refine wpAnyH_ready (rs := [9]) (by kernel_rfl) (by simp) ?_
                refine AllReadyH.cons (o := { dst := none, op := Op.store 37 (Operand.tmp 49) (Operand.tmp 48), type := 0, pos := "vacuum.go:22", after := #[{ on := 8, ground := Ground.data }, { on := 7, ground := Ground.data }, { on := 7, ground := Ground.chain }, { on := 0, ground := Ground.phase }, { on := 1, ground := Ground.phase }, { on := 2, ground := Ground.phase }, { on := 3, ground := Ground.phase }, { on := 4, ground := Ground.phase }, { on := 5, ground := Ground.phase }, { on := 6, ground := Ground.phase }, { on := 7, ground := Ground.phase }], guard := none }) rfl (fun K hK => ?_) (AllReadyH.nil)
                go_simp
                refine hK.out _ _ (trivial) (fun hHeld => ?_)
                clear hK K
                try simp only [Act.put, List.setIfInBounds_toArray, List.set_cons_zero, List.set_cons_succ]
                refine wpAnyH_done (by kernel_rfl) ?_ _
                refine NoPanic.normal ?_
                clear x2 fx2 c2a c2 c2b c2c HC5 HR5
                go_wp2_with fail
                go_roundw
                case rel => exact ⟨j + 1, _, _, _, HLT.out, by go_num, by rw [HK.out, Wk.step_gn HGN.out, HKB.out]; exact HS5.out⟩
                case measure => have := HLT.out; simp [intOf]; omega
          | false =>
            have hg2 : vgone V { xmin := t'.xmin, xmax := t'.xmax, fz := t'.frozen, key := t'.key, val := t'.value } h = false := hg
            rw [hg2] at HGO
            have HGN := hide hg
            go_wp2_with fail
            refine (HGO.out _ (HSN.out.more (o2 HOW.out HO3a.out))).mono ?_
            rintro e w3 ⟨rfl, ho3⟩
            have HSw3' := hide (HS3a.out.more ho3)
            have HTw3' := hide (HT3a.out.more ho3)
            have HVw3 := hide (HV3a.out.more ho3)
            have HSNw3 := hide (HSN.out.more (o2 (o2 HOW.out HO3a.out) ho3))
            clear ho3 hg hg2 vc0 vc1 vc2 vc3 vc4 vc5 vc6 vc7 vc8 vc9 vc10 tc0 tc1 tc2 tc3 tc4 HS3a HT3a HV3a HO3a HGO HS2 HT2 HV2 HO2
            obtain ⟨ao0, cp0, rfl⟩ := HSw3'.out.at_.fr.form
            obtain ⟨ao1, cp1, rfl⟩ := HSw3'.out.at_.of.form
            have HWI0 : Hid (∀ (b : Bool) (W : World) (u2 : Value) (K2 : Wk), SoSt W1 W b9 (.slice ao0 K.fr.length cp0) (.slice ao1 K.of.length cp1) u2 K2 → K2.fr = K.fr → Calls Tryz.prog 26 #[.slice ao0 K.fr.length cp0, .int .i64 (j : Int), .bool b] W fun e w' => ∃ v', e = .returned v' ∧ IRw w' W1.heap.size v' (if b = true then K.fr ++ [(j : Int)] else K.fr) ∧ Only (fun k => some k = (Value.slice ao0 K.fr.length cp0).ownBlock) W w' ∧ (v'.ownBlock = (Value.slice ao0 K.fr.length cp0).ownBlock ∨ ∃ k, v'.ownBlock = some k ∧ W.heap.size ≤ k)) := fun b W u2 K2 hs hK2 =>
              with_any W W1.heap.size ao0 cp0 K.fr (j : Int) b (hK2 ▸ hs.at_.fr) (by have := HLEN.out.1; have := HBJ.out; omega) hs.only.size
            have HWI1 : Hid (∀ (b : Bool) (W : World) (u0 u2 : Value) (K2 : Wk), SoSt W1 W b9 u0 (.slice ao1 K.of.length cp1) u2 K2 → K2.of = K.of → Calls Tryz.prog 26 #[.slice ao1 K.of.length cp1, .int .i64 (j : Int), .bool b] W fun e w' => ∃ v', e = .returned v' ∧ IRw w' W1.heap.size v' (if b = true then K.of ++ [(j : Int)] else K.of) ∧ Only (fun k => some k = (Value.slice ao1 K.of.length cp1).ownBlock) W w' ∧ (v'.ownBlock = (Value.slice ao1 K.of.length cp1).ownBlock ∨ ∃ k, v'.ownBlock = some k ∧ W.heap.size ≤ k)) := fun b W u0 u2 K2 hs hK2 =>
              with_any W W1.heap.size ao1 cp1 K.of (j : Int) b (hK2 ▸ hs.at_.of) (by have := HLEN.out.2.1; have := HBJ.out; omega) hs.only.size
            have HOL := hide (fun W (hs : Sn W V q) => old_any W V q t'.tp h hs HTI.out HH.out)
            have HOF := hide (fun W (hs : Sn W V q) => off_any W V q t'.tp hs HTI.out)
            have HSTEP := hide (Wk.step_lv (pg := pg) (K := K) (i := j) HD.out HND.out HGN.out)
            obtain ⟨bo, hbo⟩ : ∃ b, vold V t'.tp h = b := ⟨_, rfl⟩
            obtain ⟨bf, hbf⟩ : ∃ b, voff V t'.tp = b := ⟨_, rfl⟩
            rw [hbo, hbf] at HSTEP
            rw [hbo] at HOL
            rw [hbf] at HOF
            clear hbo hbf
            unfold Tu.tp at HOL HOF
            simp only [] at HOL HOF
            have HT0N : Hid (∀ _e : some b12 = (Value.slice ao0 K.fr.length cp0).ownBlock, False) := fun e => by have := (HS.out.at_.fr.low b12 e.symm).2; have := HB2.out; omega
            have HT1N : Hid (∀ _e : some b12 = (Value.slice ao1 K.of.length cp1).ownBlock, False) := fun e => by have := (HS.out.at_.of.low b12 e.symm).2; have := HB2.out; omega
            have HB12 : Hid (b12 ≠ b9) := by have := HB2.out; have := HS.out.wb.lt; unfold Hid; omega
            have HWI0 := hide (HWI0.out bo)
            have HWI1 := hide (HWI1.out bf)
            clear HS
            obtain ⟨n0, hn0⟩ : ∃ n, K.fr.length = n := ⟨_, rfl⟩
            obtain ⟨n1, hn1⟩ : ∃ n, K.of.length = n := ⟨_, rfl⟩
            rw [hn0, hn1] at HWI0 HSw3'
            rw [hn1] at HWI1 HT1N
            rw [hn0] at HT0N
            clear hn0 hn1
            have HSw3 := HSw3'
            have HTw3 := HTw3'
            clear HSw3' HTw3'
            have d0a := HSw3.out.wb.c0
            have d0b := (HSw3.out.more (Only.drew (fun _ => False) w3)).wb.c0
            go_upto_region 12 with fail
            refine wp_region_noPanic ?_
            refine wp_region_held_drew (S := fun W => VB W b4 (.int .i64 V.m) (.int .i64 V.next) (.slice q.aA V.act.length q.cA) (.int .i64 V.own) (.slice q.aR V.run.length q.cR) (.int .i64 V.pg.lsn) (.int .i64 V.pg.kind) (.int .i64 V.pg.level) (.int .i64 V.pg.right) (.string V.pg.high) (.slice q.aP V.pg.items.length q.cP) ∧ Tb W b12 t') (by kernel_rfl) (⟨HVw3.out.more (Only.drew (fun _ => False) _), HTw3.out.more (Only.drew (fun _ => False) _)⟩) (fun hHeld => ?_)
            refine wpAnyH_take (i := 0) (oi := { dst := some 52, op := Op.fieldAddr 39 (Operand.tmp 9) 0, type := 0, pos := "vacuum.go:24", after := #[], guard := none }) (v := .pointer (some ⟨b9, 0, none⟩)) rfl (by kernel_rfl) (by kernel_rfl) (by kernel_rfl) (fun _ _ _ h => h) (Or.inl ⟨by rfl, fun w' hSw => by clear hSw; go_simp⟩) (by assumption) ?_
            simp only [Act.put, List.setIfInBounds_toArray, List.set_cons_zero, List.set_cons_succ]
            refine wpAnyH_take (i := 2) (oi := { dst := some 54, op := Op.move (Operand.tmp 10), type := 3, pos := "vacuum.go:24", after := #[], guard := none }) (v := .int .i64 (j : Int)) rfl (by kernel_rfl) (by kernel_rfl) (by kernel_rfl) (fun _ _ _ h => h) (Or.inl ⟨by rfl, fun w' hSw => by clear hSw; go_simp⟩) (by assumption) ?_
            simp only [Act.put, List.setIfInBounds_toArray, List.set_cons_zero, List.set_cons_succ]
            refine wpAnyH_take (i := 3) (oi := { dst := some 55, op := Op.load 32 (Operand.tmp 4), type := 32, pos := "vacuum.go:24", after := #[], guard := none }) (v := .agg #[.int .i64 V.m, .int .i64 V.next, .slice q.aA V.act.length q.cA, .int .i64 V.own, .slice q.aR V.run.length q.cR, .int .i64 V.pg.lsn, .int .i64 V.pg.kind, .int .i64 V.pg.level, .int .i64 V.pg.right, .string V.pg.high, .slice q.aP V.pg.items.length q.cP]) rfl (by kernel_rfl) (by kernel_rfl) (by kernel_rfl) (fun _ _ _ h => h) (yieldsIf_load_viewI (by rfl) _ rfl rfl (fun W hW => hW.1)) (by assumption) ?_
            simp only [Act.put, List.setIfInBounds_toArray, List.set_cons_zero, List.set_cons_succ]
            refine wpAnyH_take (i := 4) (oi := { dst := some 56, op := Op.load 62 (Operand.tmp 12), type := 62, pos := "vacuum.go:24", after := #[], guard := none }) (v := .agg #[.int .i64 t'.xmin, .int .i64 t'.xmax, .bool t'.frozen, .string t'.key, .string t'.value]) rfl (by kernel_rfl) (by kernel_rfl) (by kernel_rfl) (fun _ _ _ h => h) (yieldsIf_load_tub (by rfl) _ rfl rfl (fun W hW => hW.2)) (by assumption) ?_
            simp only [Act.put, List.setIfInBounds_toArray, List.set_cons_zero, List.set_cons_succ]
            refine wpAnyH_take (i := 5) (oi := { dst := some 57, op := Op.move (Operand.tmp 1), type := 3, pos := "vacuum.go:24", after := #[], guard := none }) (v := .int .i64 h) rfl (by kernel_rfl) (by kernel_rfl) (by kernel_rfl) (fun _ _ _ h => h) (Or.inl ⟨by rfl, fun w' hSw => by clear hSw; go_simp⟩) (by assumption) ?_
            simp only [Act.put, List.setIfInBounds_toArray, List.set_cons_zero, List.set_cons_succ]
            refine wpAnyH_ready (rs := [1, 6]) (by kernel_rfl) (by simp) ?_
            refine AllReadyH.cons (o := { dst := some 53, op := Op.load 25 (Operand.tmp 52), type := 25, pos := "vacuum.go:24", after := #[{ on := 0, ground := Ground.data }], guard := none }) rfl (fun K hK => ?_) (AllReadyH.cons (o := { dst := some 58, op := Op.call { callee := Callee.value (Operand.func 27), args := #[Operand.tmp 55, Operand.tmp 56, Operand.tmp 57], argTypes := #[32, 62, 3] }, type := 4, pos := "vacuum.go:24", after := #[{ on := 3, ground := Ground.data }, { on := 4, ground := Ground.data }, { on := 5, ground := Ground.data }], guard := none }) rfl (fun K hK => ?_) (AllReadyH.nil))
            · go_simp
              refine hK.out _ _ (hHeld) (fun hHeld => ?_)
              clear hK K
              try simp only [Act.put, List.setIfInBounds_toArray, List.set_cons_zero, List.set_cons_succ]
              refine wpAnyH_ready (rs := [6]) (by kernel_rfl) (by simp) ?_
              refine AllReadyH.cons (o := { dst := some 58, op := Op.call { callee := Callee.value (Operand.func 27), args := #[Operand.tmp 55, Operand.tmp 56, Operand.tmp 57], argTypes := #[32, 62, 3] }, type := 4, pos := "vacuum.go:24", after := #[{ on := 3, ground := Ground.data }, { on := 4, ground := Ground.data }, { on := 5, ground := Ground.data }], guard := none }) rfl (fun K hK => ?_) (AllReadyH.nil)
              go_simp
              refine (HOL.out _ (HSNw3.out.more (Only.drew (fun _ => False) w3))).mono ?_
              rintro e w4 ⟨rfl, hx⟩
              have HOw4 := hide (o2 (Only.drew (fun _ => False) w3) hx)
              have HSw4 := hide (HSw3.out.more HOw4.out)
              have HVw4 := hide (HVw3.out.more HOw4.out)
              have HTw4 := hide (HTw3.out.more HOw4.out)
              have d0 := HSw4.out.wb.c0
              clear hx
              refine hK.out _ _ (⟨HVw4.out, HTw4.out⟩) (fun hHeld => ?_)
              clear hK K
              try simp only [Act.put, List.setIfInBounds_toArray, List.set_cons_zero, List.set_cons_succ]
              refine wpAnyH_ready (rs := [7]) (by kernel_rfl) (by simp) ?_
              refine AllReadyH.cons (o := { dst := some 59, op := Op.call { callee := Callee.value (Operand.func 26), args := #[Operand.tmp 53, Operand.tmp 54, Operand.tmp 58], argTypes := #[25, 3, 4] }, type := 25, pos := "vacuum.go:24", after := #[{ on := 1, ground := Ground.data }, { on := 2, ground := Ground.data }, { on := 6, ground := Ground.data }, { on := 6, ground := Ground.chain }], guard := none }) rfl (fun K hK => ?_) (AllReadyH.nil)
              go_simp
              refine (HWI0.out _ _ _ HSw4.out rfl).mono ?_
              rintro e w5 ⟨vn, rfl, hr, ho, hb⟩
              obtain ⟨a0n, m0n, c0n, rfl⟩ := hr.form3
              have HSw5n := hide (HSw4.out.fr hr ho hb)
              have HCw5 := hide (HSw4.out.wb.kept ho (fun e => by have := (HSw4.out.at_.fr.low b9 e.symm).1; have := HSw4.out.lt; omega))
              have HVTw5 : Hid (VB w5 b4 (.int .i64 V.m) (.int .i64 V.next) (.slice q.aA V.act.length q.cA) (.int .i64 V.own) (.slice q.aR V.run.length q.cR) (.int .i64 V.pg.lsn) (.int .i64 V.pg.kind) (.int .i64 V.pg.level) (.int .i64 V.pg.right) (.string V.pg.high) (.slice q.aP V.pg.items.length q.cP) ∧ Tb w5 b12 t') := ⟨HVw4.out.kept ho (fun e => by have := (HSw4.out.at_.fr.low b4 e.symm).1; have := HB4.out; omega), HTw4.out.kept ho (fun e => HT0N.out e)⟩
              have y0 := HCw5.out.c0
              have fy0 := HCw5.out.f0
              clear hr ho hb
              refine hK.out _ _ (HVTw5.out) (fun hHeld => ?_)
              clear hK K
              try simp only [Act.put, List.setIfInBounds_toArray, List.set_cons_zero, List.set_cons_succ]
              refine wpAnyH_take (i := 8) (oi := { dst := some 60, op := Op.fieldAddr 39 (Operand.tmp 9) 0, type := 0, pos := "vacuum.go:24", after := #[{ on := 0, ground := Ground.phase }, { on := 1, ground := Ground.phase }, { on := 2, ground := Ground.phase }, { on := 3, ground := Ground.phase }, { on := 4, ground := Ground.phase }, { on := 5, ground := Ground.phase }, { on := 6, ground := Ground.phase }, { on := 7, ground := Ground.phase }], guard := none }) (v := .pointer (some ⟨b9, 0, none⟩)) rfl (by kernel_rfl) (by kernel_rfl) (by kernel_rfl) (fun _ _ _ h => h) (Or.inl ⟨by rfl, fun w' hSw => by clear hSw; go_simp⟩) (by assumption) ?_
              simp only [Act.put, List.setIfInBounds_toArray, List.set_cons_zero, List.set_cons_succ]
              refine wpAnyH_ready (rs := [9]) (by kernel_rfl) (by simp) ?_
              refine AllReadyH.cons (o := { dst := none, op := Op.store 25 (Operand.tmp 60) (Operand.tmp 59), type := 0, pos := "vacuum.go:24", after := #[{ on := 8, ground := Ground.data }, { on := 7, ground := Ground.data }, { on := 7, ground := Ground.chain }, { on := 0, ground := Ground.phase }, { on := 1, ground := Ground.phase }, { on := 2, ground := Ground.phase }, { on := 3, ground := Ground.phase }, { on := 4, ground := Ground.phase }, { on := 5, ground := Ground.phase }, { on := 6, ground := Ground.phase }, { on := 7, ground := Ground.phase }], guard := none }) rfl (fun K hK => ?_) (AllReadyH.nil)
              go_simp
              refine hK.out _ _ (⟨HVTw5.out.1.kept (Only.setCell (S := fun k => k = b9) _ ⟨b9, 0, none⟩ (.slice a0n m0n c0n) rfl) (fun e => by have e2 : b4 = b9 := e; have := HB4.out; omega), HVTw5.out.2.kept (Only.setCell (S := fun k => k = b9) _ ⟨b9, 0, none⟩ (.slice a0n m0n c0n) rfl) (fun e => by have e2 : b12 = b9 := e; have := HB12.out; omega)⟩) (fun hHeld => ?_)
              clear hK K
              try simp only [Act.put, List.setIfInBounds_toArray, List.set_cons_zero, List.set_cons_succ]
              refine wpAnyH_done (by kernel_rfl) ?_ _
              refine NoPanic.normal ?_
              clear y0 fy0 d0 d0a d0b
              obtain ⟨w6, hw6⟩ : ∃ x, w5.setCell ⟨b9, 0, none⟩ (.slice a0n m0n c0n) = x := ⟨_, rfl⟩
              have HSw6 : Hid (SoSt W1 w6 b9 (.slice a0n m0n c0n) (.slice ao1 n1 cp1) v2 ⟨(if bo = true then K.fr ++ [(j : Int)] else K.fr), K.of, K.gn⟩) := by rw [← hw6]; exact HSw5n.out
              have HSET := hide (Only.setCell (S := fun k => k = b9) w5 ⟨b9, 0, none⟩ (.slice a0n m0n c0n) rfl)
              rw [hw6] at HSET ⊢
              have HVw6 := hide (HVTw5.out.1.kept HSET.out (fun e => by have e2 : b4 = b9 := e; have := HB4.out; omega))
              have HTw6 := hide (HVTw5.out.2.kept HSET.out (fun e => by have e2 : b12 = b9 := e; have := HB12.out; omega))
              have HSNw6 : Hid (Sn w6 V q) := HSN.out.more (HSw6.out.only.mono_low ⟨HO1.out, by have := HBK.out; omega⟩)
              clear hw6 HSET HSw5n HCw5 HVTw5
              have d1a := HSw6.out.wb.c1
              have d1b := (HSw6.out.more (Only.drew (fun _ => False) w6)).wb.c1
              go_upto_region 13 with fail
              refine wp_region_noPanic ?_
              refine wp_region_held_drew (S := fun W => VB W b4 (.int .i64 V.m) (.int .i64 V.next) (.slice q.aA V.act.length q.cA) (.int .i64 V.own) (.slice q.aR V.run.length q.cR) (.int .i64 V.pg.lsn) (.int .i64 V.pg.kind) (.int .i64 V.pg.level) (.int .i64 V.pg.right) (.string V.pg.high) (.slice q.aP V.pg.items.length q.cP) ∧ Tb W b12 t') (by kernel_rfl) (⟨HVw6.out.more (Only.drew (fun _ => False) _), HTw6.out.more (Only.drew (fun _ => False) _)⟩) (fun hHeld => ?_)
              refine wpAnyH_take (i := 0) (oi := { dst := some 61, op := Op.fieldAddr 39 (Operand.tmp 9) 1, type := 0, pos := "vacuum.go:25", after := #[], guard := none }) (v := .pointer (some ⟨b9, 1, none⟩)) rfl (by kernel_rfl) (by kernel_rfl) (by kernel_rfl) (fun _ _ _ h => h) (Or.inl ⟨by rfl, fun w' hSw => by clear hSw; go_simp⟩) (by assumption) ?_
              simp only [Act.put, List.setIfInBounds_toArray, List.set_cons_zero, List.set_cons_succ]
              refine wpAnyH_take (i := 2) (oi := { dst := some 63, op := Op.move (Operand.tmp 10), type := 3, pos := "vacuum.go:25", after := #[], guard := none }) (v := .int .i64 (j : Int)) rfl (by kernel_rfl) (by kernel_rfl) (by kernel_rfl) (fun _ _ _ h => h) (Or.inl ⟨by rfl, fun w' hSw => by clear hSw; go_simp⟩) (by assumption) ?_
              simp only [Act.put, List.setIfInBounds_toArray, List.set_cons_zero, List.set_cons_succ]
              refine wpAnyH_take (i := 3) (oi := { dst := some 64, op := Op.load 32 (Operand.tmp 4), type := 32, pos := "vacuum.go:25", after := #[], guard := none }) (v := .agg #[.int .i64 V.m, .int .i64 V.next, .slice q.aA V.act.length q.cA, .int .i64 V.own, .slice q.aR V.run.length q.cR, .int .i64 V.pg.lsn, .int .i64 V.pg.kind, .int .i64 V.pg.level, .int .i64 V.pg.right, .string V.pg.high, .slice q.aP V.pg.items.length q.cP]) rfl (by kernel_rfl) (by kernel_rfl) (by kernel_rfl) (fun _ _ _ h => h) (yieldsIf_load_viewI (by rfl) _ rfl rfl (fun W hW => hW.1)) (by assumption) ?_
              simp only [Act.put, List.setIfInBounds_toArray, List.set_cons_zero, List.set_cons_succ]
              refine wpAnyH_take (i := 4) (oi := { dst := some 65, op := Op.load 62 (Operand.tmp 12), type := 62, pos := "vacuum.go:25", after := #[], guard := none }) (v := .agg #[.int .i64 t'.xmin, .int .i64 t'.xmax, .bool t'.frozen, .string t'.key, .string t'.value]) rfl (by kernel_rfl) (by kernel_rfl) (by kernel_rfl) (fun _ _ _ h => h) (yieldsIf_load_tub (by rfl) _ rfl rfl (fun W hW => hW.2)) (by assumption) ?_
              simp only [Act.put, List.setIfInBounds_toArray, List.set_cons_zero, List.set_cons_succ]
              refine wpAnyH_ready (rs := [1, 5]) (by kernel_rfl) (by simp) ?_
              refine AllReadyH.cons (o := { dst := some 62, op := Op.load 25 (Operand.tmp 61), type := 25, pos := "vacuum.go:25", after := #[{ on := 0, ground := Ground.data }], guard := none }) rfl (fun K hK => ?_) (AllReadyH.cons (o := { dst := some 66, op := Op.call { callee := Callee.value (Operand.func 28), args := #[Operand.tmp 64, Operand.tmp 65], argTypes := #[32, 62] }, type := 4, pos := "vacuum.go:25", after := #[{ on := 3, ground := Ground.data }, { on := 4, ground := Ground.data }], guard := none }) rfl (fun K hK => ?_) (AllReadyH.nil))
              · go_simp
                refine hK.out _ _ (hHeld) (fun hHeld => ?_)
                clear hK K
                try simp only [Act.put, List.setIfInBounds_toArray, List.set_cons_zero, List.set_cons_succ]
                refine wpAnyH_ready (rs := [5]) (by kernel_rfl) (by simp) ?_
                refine AllReadyH.cons (o := { dst := some 66, op := Op.call { callee := Callee.value (Operand.func 28), args := #[Operand.tmp 64, Operand.tmp 65], argTypes := #[32, 62] }, type := 4, pos := "vacuum.go:25", after := #[{ on := 3, ground := Ground.data }, { on := 4, ground := Ground.data }], guard := none }) rfl (fun K hK => ?_) (AllReadyH.nil)
                go_simp
                refine (HOF.out _ (HSNw6.out.more (Only.drew (fun _ => False) w6))).mono ?_
                rintro e w7 ⟨rfl, hx⟩
                have HOw7 := hide (o2 (Only.drew (fun _ => False) w6) hx)
                have HSw7 := hide (HSw6.out.more HOw7.out)
                have HVw7 := hide (HVw6.out.more HOw7.out)
                have HTw7 := hide (HTw6.out.more HOw7.out)
                have d1 := HSw7.out.wb.c1
                clear hx
                refine hK.out _ _ (⟨HVw7.out, HTw7.out⟩) (fun hHeld => ?_)
                clear hK K
                try simp only [Act.put, List.setIfInBounds_toArray, List.set_cons_zero, List.set_cons_succ]
                refine wpAnyH_ready (rs := [6]) (by kernel_rfl) (by simp) ?_
                refine AllReadyH.cons (o := { dst := some 67, op := Op.call { callee := Callee.value (Operand.func 26), args := #[Operand.tmp 62, Operand.tmp 63, Operand.tmp 66], argTypes := #[25, 3, 4] }, type := 25, pos := "vacuum.go:25", after := #[{ on := 1, ground := Ground.data }, { on := 2, ground := Ground.data }, { on := 5, ground := Ground.data }, { on := 5, ground := Ground.chain }], guard := none }) rfl (fun K hK => ?_) (AllReadyH.nil)
                go_simp
                refine (HWI1.out _ _ _ _ HSw7.out rfl).mono ?_
                rintro e w8 ⟨vn, rfl, hr, ho, hb⟩
                obtain ⟨a1n, m1n, c1n, rfl⟩ := hr.form3
                have HSw8n := hide (HSw7.out.of hr ho hb)
                have HCw8 := hide (HSw7.out.wb.kept ho (fun e => by have := (HSw7.out.at_.of.low b9 e.symm).1; have := HSw7.out.lt; omega))
                have HVTw8 : Hid (VB w8 b4 (.int .i64 V.m) (.int .i64 V.next) (.slice q.aA V.act.length q.cA) (.int .i64 V.own) (.slice q.aR V.run.length q.cR) (.int .i64 V.pg.lsn) (.int .i64 V.pg.kind) (.int .i64 V.pg.level) (.int .i64 V.pg.right) (.string V.pg.high) (.slice q.aP V.pg.items.length q.cP) ∧ Tb w8 b12 t') := ⟨HVw7.out.kept ho (fun e => by have := (HSw7.out.at_.of.low b4 e.symm).1; have := HB4.out; omega), HTw7.out.kept ho (fun e => HT1N.out e)⟩
                have y1 := HCw8.out.c1
                have fy1 := HCw8.out.f1
                clear hr ho hb
                refine hK.out _ _ (HVTw8.out) (fun hHeld => ?_)
                clear hK K
                try simp only [Act.put, List.setIfInBounds_toArray, List.set_cons_zero, List.set_cons_succ]
                refine wpAnyH_take (i := 7) (oi := { dst := some 68, op := Op.fieldAddr 39 (Operand.tmp 9) 1, type := 0, pos := "vacuum.go:25", after := #[{ on := 0, ground := Ground.phase }, { on := 1, ground := Ground.phase }, { on := 2, ground := Ground.phase }, { on := 3, ground := Ground.phase }, { on := 4, ground := Ground.phase }, { on := 5, ground := Ground.phase }, { on := 6, ground := Ground.phase }], guard := none }) (v := .pointer (some ⟨b9, 1, none⟩)) rfl (by kernel_rfl) (by kernel_rfl) (by kernel_rfl) (fun _ _ _ h => h) (Or.inl ⟨by rfl, fun w' hSw => by clear hSw; go_simp⟩) (by assumption) ?_
                simp only [Act.put, List.setIfInBounds_toArray, List.set_cons_zero, List.set_cons_succ]
                refine wpAnyH_ready (rs := [8]) (by kernel_rfl) (by simp) ?_
                refine AllReadyH.cons (o := { dst := none, op := Op.store 25 (Operand.tmp 68) (Operand.tmp 67), type := 0, pos := "vacuum.go:25", after := #[{ on := 7, ground := Ground.data }, { on := 6, ground := Ground.data }, { on := 6, ground := Ground.chain }, { on := 0, ground := Ground.phase }, { on := 1, ground := Ground.phase }, { on := 2, ground := Ground.phase }, { on := 3, ground := Ground.phase }, { on := 4, ground := Ground.phase }, { on := 5, ground := Ground.phase }, { on := 6, ground := Ground.phase }], guard := none }) rfl (fun K hK => ?_) (AllReadyH.nil)
                go_simp
                refine hK.out _ _ (⟨HVTw8.out.1.kept (Only.setCell (S := fun k => k = b9) _ ⟨b9, 1, none⟩ (.slice a1n m1n c1n) rfl) (fun e => by have e2 : b4 = b9 := e; have := HB4.out; omega), HVTw8.out.2.kept (Only.setCell (S := fun k => k = b9) _ ⟨b9, 1, none⟩ (.slice a1n m1n c1n) rfl) (fun e => by have e2 : b12 = b9 := e; have := HB12.out; omega)⟩) (fun hHeld => ?_)
                clear hK K
                try simp only [Act.put, List.setIfInBounds_toArray, List.set_cons_zero, List.set_cons_succ]
                refine wpAnyH_done (by kernel_rfl) ?_ _
                refine NoPanic.normal ?_
                clear y1 fy1 d1 d1a d1b
                go_wp2_with fail
                go_roundw
                case rel => exact ⟨j + 1, _, _, _, HLT.out, by go_num, by rw [HK.out, HSTEP.out]; exact HSw8n.out⟩
                case measure => have := HLT.out; simp [intOf]; omega
              · go_simp
                refine (HOF.out _ (HSNw6.out.more (Only.drew (fun _ => False) w6))).mono ?_
                rintro e w7 ⟨rfl, hx⟩
                have HOw7 := hide (o2 (Only.drew (fun _ => False) w6) hx)
                have HSw7 := hide (HSw6.out.more HOw7.out)
                have HVw7 := hide (HVw6.out.more HOw7.out)
                have HTw7 := hide (HTw6.out.more HOw7.out)
                have d1 := HSw7.out.wb.c1
                clear hx
                refine hK.out _ _ (⟨HVw7.out, HTw7.out⟩) (fun hHeld => ?_)
                clear hK K
                try simp only [Act.put, List.setIfInBounds_toArray, List.set_cons_zero, List.set_cons_succ]
                refine wpAnyH_ready (rs := [1]) (by kernel_rfl) (by simp) ?_
                refine AllReadyH.cons (o := { dst := some 62, op := Op.load 25 (Operand.tmp 61), type := 25, pos := "vacuum.go:25", after := #[{ on := 0, ground := Ground.data }], guard := none }) rfl (fun K hK => ?_) (AllReadyH.nil)
                go_simp
                refine hK.out _ _ (hHeld) (fun hHeld => ?_)
                clear hK K
                try simp only [Act.put, List.setIfInBounds_toArray, List.set_cons_zero, List.set_cons_succ]
                refine wpAnyH_ready (rs := [6]) (by kernel_rfl) (by simp) ?_
                refine AllReadyH.cons (o := { dst := some 67, op := Op.call { callee := Callee.value (Operand.func 26), args := #[Operand.tmp 62, Operand.tmp 63, Operand.tmp 66], argTypes := #[25, 3, 4] }, type := 25, pos := "vacuum.go:25", after := #[{ on := 1, ground := Ground.data }, { on := 2, ground := Ground.data }, { on := 5, ground := Ground.data }, { on := 5, ground := Ground.chain }], guard := none }) rfl (fun K hK => ?_) (AllReadyH.nil)
                go_simp
                refine (HWI1.out _ _ _ _ HSw7.out rfl).mono ?_
                rintro e w8 ⟨vn, rfl, hr, ho, hb⟩
                obtain ⟨a1n, m1n, c1n, rfl⟩ := hr.form3
                have HSw8n := hide (HSw7.out.of hr ho hb)
                have HCw8 := hide (HSw7.out.wb.kept ho (fun e => by have := (HSw7.out.at_.of.low b9 e.symm).1; have := HSw7.out.lt; omega))
                have HVTw8 : Hid (VB w8 b4 (.int .i64 V.m) (.int .i64 V.next) (.slice q.aA V.act.length q.cA) (.int .i64 V.own) (.slice q.aR V.run.length q.cR) (.int .i64 V.pg.lsn) (.int .i64 V.pg.kind) (.int .i64 V.pg.level) (.int .i64 V.pg.right) (.string V.pg.high) (.slice q.aP V.pg.items.length q.cP) ∧ Tb w8 b12 t') := ⟨HVw7.out.kept ho (fun e => by have := (HSw7.out.at_.of.low b4 e.symm).1; have := HB4.out; omega), HTw7.out.kept ho (fun e => HT1N.out e)⟩
                have y1 := HCw8.out.c1
                have fy1 := HCw8.out.f1
                clear hr ho hb
                refine hK.out _ _ (HVTw8.out) (fun hHeld => ?_)
                clear hK K
                try simp only [Act.put, List.setIfInBounds_toArray, List.set_cons_zero, List.set_cons_succ]
                refine wpAnyH_take (i := 7) (oi := { dst := some 68, op := Op.fieldAddr 39 (Operand.tmp 9) 1, type := 0, pos := "vacuum.go:25", after := #[{ on := 0, ground := Ground.phase }, { on := 1, ground := Ground.phase }, { on := 2, ground := Ground.phase }, { on := 3, ground := Ground.phase }, { on := 4, ground := Ground.phase }, { on := 5, ground := Ground.phase }, { on := 6, ground := Ground.phase }], guard := none }) (v := .pointer (some ⟨b9, 1, none⟩)) rfl (by kernel_rfl) (by kernel_rfl) (by kernel_rfl) (fun _ _ _ h => h) (Or.inl ⟨by rfl, fun w' hSw => by clear hSw; go_simp⟩) (by assumption) ?_
                simp only [Act.put, List.setIfInBounds_toArray, List.set_cons_zero, List.set_cons_succ]
                refine wpAnyH_ready (rs := [8]) (by kernel_rfl) (by simp) ?_
                refine AllReadyH.cons (o := { dst := none, op := Op.store 25 (Operand.tmp 68) (Operand.tmp 67), type := 0, pos := "vacuum.go:25", after := #[{ on := 7, ground := Ground.data }, { on := 6, ground := Ground.data }, { on := 6, ground := Ground.chain }, { on := 0, ground := Ground.phase }, { on := 1, ground := Ground.phase }, { on := 2, ground := Ground.phase }, { on := 3, ground := Ground.phase }, { on := 4, ground := Ground.phase }, { on := 5, ground := Ground.phase }, { on := 6, ground := Ground.phase }], guard := none }) rfl (fun K hK => ?_) (AllReadyH.nil)
                go_simp
                refine hK.out _ _ (⟨HVTw8.out.1.kept (Only.setCell (S := fun k => k = b9) _ ⟨b9, 1, none⟩ (.slice a1n m1n c1n) rfl) (fun e => by have e2 : b4 = b9 := e; have := HB4.out; omega), HVTw8.out.2.kept (Only.setCell (S := fun k => k = b9) _ ⟨b9, 1, none⟩ (.slice a1n m1n c1n) rfl) (fun e => by have e2 : b12 = b9 := e; have := HB12.out; omega)⟩) (fun hHeld => ?_)
                clear hK K
                try simp only [Act.put, List.setIfInBounds_toArray, List.set_cons_zero, List.set_cons_succ]
                refine wpAnyH_done (by kernel_rfl) ?_ _
                refine NoPanic.normal ?_
                clear y1 fy1 d1 d1a d1b
                go_wp2_with fail
                go_roundw
                case rel => exact ⟨j + 1, _, _, _, HLT.out, by go_num, by rw [HK.out, HSTEP.out]; exact HSw8n.out⟩
                case measure => have := HLT.out; simp [intOf]; omega
            · go_simp
              refine (HOL.out _ (HSNw3.out.more (Only.drew (fun _ => False) w3))).mono ?_
              rintro e w4 ⟨rfl, hx⟩
              have HOw4 := hide (o2 (Only.drew (fun _ => False) w3) hx)
              have HSw4 := hide (HSw3.out.more HOw4.out)
              have HVw4 := hide (HVw3.out.more HOw4.out)
              have HTw4 := hide (HTw3.out.more HOw4.out)
              have d0 := HSw4.out.wb.c0
              clear hx
              refine hK.out _ _ (⟨HVw4.out, HTw4.out⟩) (fun hHeld => ?_)
              clear hK K
              try simp only [Act.put, List.setIfInBounds_toArray, List.set_cons_zero, List.set_cons_succ]
              refine wpAnyH_ready (rs := [1]) (by kernel_rfl) (by simp) ?_
              refine AllReadyH.cons (o := { dst := some 53, op := Op.load 25 (Operand.tmp 52), type := 25, pos := "vacuum.go:24", after := #[{ on := 0, ground := Ground.data }], guard := none }) rfl (fun K hK => ?_) (AllReadyH.nil)
              go_simp
              refine hK.out _ _ (hHeld) (fun hHeld => ?_)
              clear hK K
              try simp only [Act.put, List.setIfInBounds_toArray, List.set_cons_zero, List.set_cons_succ]
              refine wpAnyH_ready (rs := [7]) (by kernel_rfl) (by simp) ?_
              refine AllReadyH.cons (o := { dst := some 59, op := Op.call { callee := Callee.value (Operand.func 26), args := #[Operand.tmp 53, Operand.tmp 54, Operand.tmp 58], argTypes := #[25, 3, 4] }, type := 25, pos := "vacuum.go:24", after := #[{ on := 1, ground := Ground.data }, { on := 2, ground := Ground.data }, { on := 6, ground := Ground.data }, { on := 6, ground := Ground.chain }], guard := none }) rfl (fun K hK => ?_) (AllReadyH.nil)
              go_simp
              refine (HWI0.out _ _ _ HSw4.out rfl).mono ?_
              rintro e w5 ⟨vn, rfl, hr, ho, hb⟩
              obtain ⟨a0n, m0n, c0n, rfl⟩ := hr.form3
              have HSw5n := hide (HSw4.out.fr hr ho hb)
              have HCw5 := hide (HSw4.out.wb.kept ho (fun e => by have := (HSw4.out.at_.fr.low b9 e.symm).1; have := HSw4.out.lt; omega))
              have HVTw5 : Hid (VB w5 b4 (.int .i64 V.m) (.int .i64 V.next) (.slice q.aA V.act.length q.cA) (.int .i64 V.own) (.slice q.aR V.run.length q.cR) (.int .i64 V.pg.lsn) (.int .i64 V.pg.kind) (.int .i64 V.pg.level) (.int .i64 V.pg.right) (.string V.pg.high) (.slice q.aP V.pg.items.length q.cP) ∧ Tb w5 b12 t') := ⟨HVw4.out.kept ho (fun e => by have := (HSw4.out.at_.fr.low b4 e.symm).1; have := HB4.out; omega), HTw4.out.kept ho (fun e => HT0N.out e)⟩
              have y0 := HCw5.out.c0
              have fy0 := HCw5.out.f0
              clear hr ho hb
              refine hK.out _ _ (HVTw5.out) (fun hHeld => ?_)
              clear hK K
              try simp only [Act.put, List.setIfInBounds_toArray, List.set_cons_zero, List.set_cons_succ]
              refine wpAnyH_take (i := 8) (oi := { dst := some 60, op := Op.fieldAddr 39 (Operand.tmp 9) 0, type := 0, pos := "vacuum.go:24", after := #[{ on := 0, ground := Ground.phase }, { on := 1, ground := Ground.phase }, { on := 2, ground := Ground.phase }, { on := 3, ground := Ground.phase }, { on := 4, ground := Ground.phase }, { on := 5, ground := Ground.phase }, { on := 6, ground := Ground.phase }, { on := 7, ground := Ground.phase }], guard := none }) (v := .pointer (some ⟨b9, 0, none⟩)) rfl (by kernel_rfl) (by kernel_rfl) (by kernel_rfl) (fun _ _ _ h => h) (Or.inl ⟨by rfl, fun w' hSw => by clear hSw; go_simp⟩) (by assumption) ?_
              simp only [Act.put, List.setIfInBounds_toArray, List.set_cons_zero, List.set_cons_succ]
              refine wpAnyH_ready (rs := [9]) (by kernel_rfl) (by simp) ?_
              refine AllReadyH.cons (o := { dst := none, op := Op.store 25 (Operand.tmp 60) (Operand.tmp 59), type := 0, pos := "vacuum.go:24", after := #[{ on := 8, ground := Ground.data }, { on := 7, ground := Ground.data }, { on := 7, ground := Ground.chain }, { on := 0, ground := Ground.phase }, { on := 1, ground := Ground.phase }, { on := 2, ground := Ground.phase }, { on := 3, ground := Ground.phase }, { on := 4, ground := Ground.phase }, { on := 5, ground := Ground.phase }, { on := 6, ground := Ground.phase }, { on := 7, ground := Ground.phase }], guard := none }) rfl (fun K hK => ?_) (AllReadyH.nil)
              go_simp
              refine hK.out _ _ (⟨HVTw5.out.1.kept (Only.setCell (S := fun k => k = b9) _ ⟨b9, 0, none⟩ (.slice a0n m0n c0n) rfl) (fun e => by have e2 : b4 = b9 := e; have := HB4.out; omega), HVTw5.out.2.kept (Only.setCell (S := fun k => k = b9) _ ⟨b9, 0, none⟩ (.slice a0n m0n c0n) rfl) (fun e => by have e2 : b12 = b9 := e; have := HB12.out; omega)⟩) (fun hHeld => ?_)
              clear hK K
              try simp only [Act.put, List.setIfInBounds_toArray, List.set_cons_zero, List.set_cons_succ]
              refine wpAnyH_done (by kernel_rfl) ?_ _
              refine NoPanic.normal ?_
              clear y0 fy0 d0 d0a d0b
              obtain ⟨w6, hw6⟩ : ∃ x, w5.setCell ⟨b9, 0, none⟩ (.slice a0n m0n c0n) = x := ⟨_, rfl⟩
              have HSw6 : Hid (SoSt W1 w6 b9 (.slice a0n m0n c0n) (.slice ao1 n1 cp1) v2 ⟨(if bo = true then K.fr ++ [(j : Int)] else K.fr), K.of, K.gn⟩) := by rw [← hw6]; exact HSw5n.out
              have HSET := hide (Only.setCell (S := fun k => k = b9) w5 ⟨b9, 0, none⟩ (.slice a0n m0n c0n) rfl)
              rw [hw6] at HSET ⊢
              have HVw6 := hide (HVTw5.out.1.kept HSET.out (fun e => by have e2 : b4 = b9 := e; have := HB4.out; omega))
              have HTw6 := hide (HVTw5.out.2.kept HSET.out (fun e => by have e2 : b12 = b9 := e; have := HB12.out; omega))
              have HSNw6 : Hid (Sn w6 V q) := HSN.out.more (HSw6.out.only.mono_low ⟨HO1.out, by have := HBK.out; omega⟩)
              clear hw6 HSET HSw5n HCw5 HVTw5
              have d1a := HSw6.out.wb.c1
              have d1b := (HSw6.out.more (Only.drew (fun _ => False) w6)).wb.c1
              go_upto_region 13 with fail
              refine wp_region_noPanic ?_
              refine wp_region_held_drew (S := fun W => VB W b4 (.int .i64 V.m) (.int .i64 V.next) (.slice q.aA V.act.length q.cA) (.int .i64 V.own) (.slice q.aR V.run.length q.cR) (.int .i64 V.pg.lsn) (.int .i64 V.pg.kind) (.int .i64 V.pg.level) (.int .i64 V.pg.right) (.string V.pg.high) (.slice q.aP V.pg.items.length q.cP) ∧ Tb W b12 t') (by kernel_rfl) (⟨HVw6.out.more (Only.drew (fun _ => False) _), HTw6.out.more (Only.drew (fun _ => False) _)⟩) (fun hHeld => ?_)
              refine wpAnyH_take (i := 0) (oi := { dst := some 61, op := Op.fieldAddr 39 (Operand.tmp 9) 1, type := 0, pos := "vacuum.go:25", after := #[], guard := none }) (v := .pointer (some ⟨b9, 1, none⟩)) rfl (by kernel_rfl) (by kernel_rfl) (by kernel_rfl) (fun _ _ _ h => h) (Or.inl ⟨by rfl, fun w' hSw => by clear hSw; go_simp⟩) (by assumption) ?_
              simp only [Act.put, List.setIfInBounds_toArray, List.set_cons_zero, List.set_cons_succ]
              refine wpAnyH_take (i := 2) (oi := { dst := some 63, op := Op.move (Operand.tmp 10), type := 3, pos := "vacuum.go:25", after := #[], guard := none }) (v := .int .i64 (j : Int)) rfl (by kernel_rfl) (by kernel_rfl) (by kernel_rfl) (fun _ _ _ h => h) (Or.inl ⟨by rfl, fun w' hSw => by clear hSw; go_simp⟩) (by assumption) ?_
              simp only [Act.put, List.setIfInBounds_toArray, List.set_cons_zero, List.set_cons_succ]
              refine wpAnyH_take (i := 3) (oi := { dst := some 64, op := Op.load 32 (Operand.tmp 4), type := 32, pos := "vacuum.go:25", after := #[], guard := none }) (v := .agg #[.int .i64 V.m, .int .i64 V.next, .slice q.aA V.act.length q.cA, .int .i64 V.own, .slice q.aR V.run.length q.cR, .int .i64 V.pg.lsn, .int .i64 V.pg.kind, .int .i64 V.pg.level, .int .i64 V.pg.right, .string V.pg.high, .slice q.aP V.pg.items.length q.cP]) rfl (by kernel_rfl) (by kernel_rfl) (by kernel_rfl) (fun _ _ _ h => h) (yieldsIf_load_viewI (by rfl) _ rfl rfl (fun W hW => hW.1)) (by assumption) ?_
              simp only [Act.put, List.setIfInBounds_toArray, List.set_cons_zero, List.set_cons_succ]
              refine wpAnyH_take (i := 4) (oi := { dst := some 65, op := Op.load 62 (Operand.tmp 12), type := 62, pos := "vacuum.go:25", after := #[], guard := none }) (v := .agg #[.int .i64 t'.xmin, .int .i64 t'.xmax, .bool t'.frozen, .string t'.key, .string t'.value]) rfl (by kernel_rfl) (by kernel_rfl) (by kernel_rfl) (fun _ _ _ h => h) (yieldsIf_load_tub (by rfl) _ rfl rfl (fun W hW => hW.2)) (by assumption) ?_
              simp only [Act.put, List.setIfInBounds_toArray, List.set_cons_zero, List.set_cons_succ]
              refine wpAnyH_ready (rs := [1, 5]) (by kernel_rfl) (by simp) ?_
              refine AllReadyH.cons (o := { dst := some 62, op := Op.load 25 (Operand.tmp 61), type := 25, pos := "vacuum.go:25", after := #[{ on := 0, ground := Ground.data }], guard := none }) rfl (fun K hK => ?_) (AllReadyH.cons (o := { dst := some 66, op := Op.call { callee := Callee.value (Operand.func 28), args := #[Operand.tmp 64, Operand.tmp 65], argTypes := #[32, 62] }, type := 4, pos := "vacuum.go:25", after := #[{ on := 3, ground := Ground.data }, { on := 4, ground := Ground.data }], guard := none }) rfl (fun K hK => ?_) (AllReadyH.nil))
              · go_simp
                refine hK.out _ _ (hHeld) (fun hHeld => ?_)
                clear hK K
                try simp only [Act.put, List.setIfInBounds_toArray, List.set_cons_zero, List.set_cons_succ]
                refine wpAnyH_ready (rs := [5]) (by kernel_rfl) (by simp) ?_
                refine AllReadyH.cons (o := { dst := some 66, op := Op.call { callee := Callee.value (Operand.func 28), args := #[Operand.tmp 64, Operand.tmp 65], argTypes := #[32, 62] }, type := 4, pos := "vacuum.go:25", after := #[{ on := 3, ground := Ground.data }, { on := 4, ground := Ground.data }], guard := none }) rfl (fun K hK => ?_) (AllReadyH.nil)
                go_simp
                refine (HOF.out _ (HSNw6.out.more (Only.drew (fun _ => False) w6))).mono ?_
                rintro e w7 ⟨rfl, hx⟩
                have HOw7 := hide (o2 (Only.drew (fun _ => False) w6) hx)
                have HSw7 := hide (HSw6.out.more HOw7.out)
                have HVw7 := hide (HVw6.out.more HOw7.out)
                have HTw7 := hide (HTw6.out.more HOw7.out)
                have d1 := HSw7.out.wb.c1
                clear hx
                refine hK.out _ _ (⟨HVw7.out, HTw7.out⟩) (fun hHeld => ?_)
                clear hK K
                try simp only [Act.put, List.setIfInBounds_toArray, List.set_cons_zero, List.set_cons_succ]
                refine wpAnyH_ready (rs := [6]) (by kernel_rfl) (by simp) ?_
                refine AllReadyH.cons (o := { dst := some 67, op := Op.call { callee := Callee.value (Operand.func 26), args := #[Operand.tmp 62, Operand.tmp 63, Operand.tmp 66], argTypes := #[25, 3, 4] }, type := 25, pos := "vacuum.go:25", after := #[{ on := 1, ground := Ground.data }, { on := 2, ground := Ground.data }, { on := 5, ground := Ground.data }, { on := 5, ground := Ground.chain }], guard := none }) rfl (fun K hK => ?_) (AllReadyH.nil)
                go_simp
                refine (HWI1.out _ _ _ _ HSw7.out rfl).mono ?_
                rintro e w8 ⟨vn, rfl, hr, ho, hb⟩
                obtain ⟨a1n, m1n, c1n, rfl⟩ := hr.form3
                have HSw8n := hide (HSw7.out.of hr ho hb)
                have HCw8 := hide (HSw7.out.wb.kept ho (fun e => by have := (HSw7.out.at_.of.low b9 e.symm).1; have := HSw7.out.lt; omega))
                have HVTw8 : Hid (VB w8 b4 (.int .i64 V.m) (.int .i64 V.next) (.slice q.aA V.act.length q.cA) (.int .i64 V.own) (.slice q.aR V.run.length q.cR) (.int .i64 V.pg.lsn) (.int .i64 V.pg.kind) (.int .i64 V.pg.level) (.int .i64 V.pg.right) (.string V.pg.high) (.slice q.aP V.pg.items.length q.cP) ∧ Tb w8 b12 t') := ⟨HVw7.out.kept ho (fun e => by have := (HSw7.out.at_.of.low b4 e.symm).1; have := HB4.out; omega), HTw7.out.kept ho (fun e => HT1N.out e)⟩
                have y1 := HCw8.out.c1
                have fy1 := HCw8.out.f1
                clear hr ho hb
                refine hK.out _ _ (HVTw8.out) (fun hHeld => ?_)
                clear hK K
                try simp only [Act.put, List.setIfInBounds_toArray, List.set_cons_zero, List.set_cons_succ]
                refine wpAnyH_take (i := 7) (oi := { dst := some 68, op := Op.fieldAddr 39 (Operand.tmp 9) 1, type := 0, pos := "vacuum.go:25", after := #[{ on := 0, ground := Ground.phase }, { on := 1, ground := Ground.phase }, { on := 2, ground := Ground.phase }, { on := 3, ground := Ground.phase }, { on := 4, ground := Ground.phase }, { on := 5, ground := Ground.phase }, { on := 6, ground := Ground.phase }], guard := none }) (v := .pointer (some ⟨b9, 1, none⟩)) rfl (by kernel_rfl) (by kernel_rfl) (by kernel_rfl) (fun _ _ _ h => h) (Or.inl ⟨by rfl, fun w' hSw => by clear hSw; go_simp⟩) (by assumption) ?_
                simp only [Act.put, List.setIfInBounds_toArray, List.set_cons_zero, List.set_cons_succ]
                refine wpAnyH_ready (rs := [8]) (by kernel_rfl) (by simp) ?_
                refine AllReadyH.cons (o := { dst := none, op := Op.store 25 (Operand.tmp 68) (Operand.tmp 67), type := 0, pos := "vacuum.go:25", after := #[{ on := 7, ground := Ground.data }, { on := 6, ground := Ground.data }, { on := 6, ground := Ground.chain }, { on := 0, ground := Ground.phase }, { on := 1, ground := Ground.phase }, { on := 2, ground := Ground.phase }, { on := 3, ground := Ground.phase }, { on := 4, ground := Ground.phase }, { on := 5, ground := Ground.phase }, { on := 6, ground := Ground.phase }], guard := none }) rfl (fun K hK => ?_) (AllReadyH.nil)
                go_simp
                refine hK.out _ _ (⟨HVTw8.out.1.kept (Only.setCell (S := fun k => k = b9) _ ⟨b9, 1, none⟩ (.slice a1n m1n c1n) rfl) (fun e => by have e2 : b4 = b9 := e; have := HB4.out; omega), HVTw8.out.2.kept (Only.setCell (S := fun k => k = b9) _ ⟨b9, 1, none⟩ (.slice a1n m1n c1n) rfl) (fun e => by have e2 : b12 = b9 := e; have := HB12.out; omega)⟩) (fun hHeld => ?_)
                clear hK K
                try simp only [Act.put, List.setIfInBounds_toArray, List.set_cons_zero, List.set_cons_succ]
                refine wpAnyH_done (by kernel_rfl) ?_ _
                refine NoPanic.normal ?_
                clear y1 fy1 d1 d1a d1b
                go_wp2_with fail
                go_roundw
                case rel => exact ⟨j + 1, _, _, _, HLT.out, by go_num, by rw [HK.out, HSTEP.out]; exact HSw8n.out⟩
                case measure => have := HLT.out; simp [intOf]; omega
              · go_simp
                refine (HOF.out _ (HSNw6.out.more (Only.drew (fun _ => False) w6))).mono ?_
                rintro e w7 ⟨rfl, hx⟩
                have HOw7 := hide (o2 (Only.drew (fun _ => False) w6) hx)
                have HSw7 := hide (HSw6.out.more HOw7.out)
                have HVw7 := hide (HVw6.out.more HOw7.out)
                have HTw7 := hide (HTw6.out.more HOw7.out)
                have d1 := HSw7.out.wb.c1
                clear hx
                refine hK.out _ _ (⟨HVw7.out, HTw7.out⟩) (fun hHeld => ?_)
                clear hK K
                try simp only [Act.put, List.setIfInBounds_toArray, List.set_cons_zero, List.set_cons_succ]
                refine wpAnyH_ready (rs := [1]) (by kernel_rfl) (by simp) ?_
                refine AllReadyH.cons (o := { dst := some 62, op := Op.load 25 (Operand.tmp 61), type := 25, pos := "vacuum.go:25", after := #[{ on := 0, ground := Ground.data }], guard := none }) rfl (fun K hK => ?_) (AllReadyH.nil)
                go_simp
                refine hK.out _ _ (hHeld) (fun hHeld => ?_)
                clear hK K
                try simp only [Act.put, List.setIfInBounds_toArray, List.set_cons_zero, List.set_cons_succ]
                refine wpAnyH_ready (rs := [6]) (by kernel_rfl) (by simp) ?_
                refine AllReadyH.cons (o := { dst := some 67, op := Op.call { callee := Callee.value (Operand.func 26), args := #[Operand.tmp 62, Operand.tmp 63, Operand.tmp 66], argTypes := #[25, 3, 4] }, type := 25, pos := "vacuum.go:25", after := #[{ on := 1, ground := Ground.data }, { on := 2, ground := Ground.data }, { on := 5, ground := Ground.data }, { on := 5, ground := Ground.chain }], guard := none }) rfl (fun K hK => ?_) (AllReadyH.nil)
                go_simp
                refine (HWI1.out _ _ _ _ HSw7.out rfl).mono ?_
                rintro e w8 ⟨vn, rfl, hr, ho, hb⟩
                obtain ⟨a1n, m1n, c1n, rfl⟩ := hr.form3
                have HSw8n := hide (HSw7.out.of hr ho hb)
                have HCw8 := hide (HSw7.out.wb.kept ho (fun e => by have := (HSw7.out.at_.of.low b9 e.symm).1; have := HSw7.out.lt; omega))
                have HVTw8 : Hid (VB w8 b4 (.int .i64 V.m) (.int .i64 V.next) (.slice q.aA V.act.length q.cA) (.int .i64 V.own) (.slice q.aR V.run.length q.cR) (.int .i64 V.pg.lsn) (.int .i64 V.pg.kind) (.int .i64 V.pg.level) (.int .i64 V.pg.right) (.string V.pg.high) (.slice q.aP V.pg.items.length q.cP) ∧ Tb w8 b12 t') := ⟨HVw7.out.kept ho (fun e => by have := (HSw7.out.at_.of.low b4 e.symm).1; have := HB4.out; omega), HTw7.out.kept ho (fun e => HT1N.out e)⟩
                have y1 := HCw8.out.c1
                have fy1 := HCw8.out.f1
                clear hr ho hb
                refine hK.out _ _ (HVTw8.out) (fun hHeld => ?_)
                clear hK K
                try simp only [Act.put, List.setIfInBounds_toArray, List.set_cons_zero, List.set_cons_succ]
                refine wpAnyH_take (i := 7) (oi := { dst := some 68, op := Op.fieldAddr 39 (Operand.tmp 9) 1, type := 0, pos := "vacuum.go:25", after := #[{ on := 0, ground := Ground.phase }, { on := 1, ground := Ground.phase }, { on := 2, ground := Ground.phase }, { on := 3, ground := Ground.phase }, { on := 4, ground := Ground.phase }, { on := 5, ground := Ground.phase }, { on := 6, ground := Ground.phase }], guard := none }) (v := .pointer (some ⟨b9, 1, none⟩)) rfl (by kernel_rfl) (by kernel_rfl) (by kernel_rfl) (fun _ _ _ h => h) (Or.inl ⟨by rfl, fun w' hSw => by clear hSw; go_simp⟩) (by assumption) ?_
                simp only [Act.put, List.setIfInBounds_toArray, List.set_cons_zero, List.set_cons_succ]
                refine wpAnyH_ready (rs := [8]) (by kernel_rfl) (by simp) ?_
                refine AllReadyH.cons (o := { dst := none, op := Op.store 25 (Operand.tmp 68) (Operand.tmp 67), type := 0, pos := "vacuum.go:25", after := #[{ on := 7, ground := Ground.data }, { on := 6, ground := Ground.data }, { on := 6, ground := Ground.chain }, { on := 0, ground := Ground.phase }, { on := 1, ground := Ground.phase }, { on := 2, ground := Ground.phase }, { on := 3, ground := Ground.phase }, { on := 4, ground := Ground.phase }, { on := 5, ground := Ground.phase }, { on := 6, ground := Ground.phase }], guard := none }) rfl (fun K hK => ?_) (AllReadyH.nil)
                go_simp
                refine hK.out _ _ (⟨HVTw8.out.1.kept (Only.setCell (S := fun k => k = b9) _ ⟨b9, 1, none⟩ (.slice a1n m1n c1n) rfl) (fun e => by have e2 : b4 = b9 := e; have := HB4.out; omega), HVTw8.out.2.kept (Only.setCell (S := fun k => k = b9) _ ⟨b9, 1, none⟩ (.slice a1n m1n c1n) rfl) (fun e => by have e2 : b12 = b9 := e; have := HB12.out; omega)⟩) (fun hHeld => ?_)
                clear hK K
                try simp only [Act.put, List.setIfInBounds_toArray, List.set_cons_zero, List.set_cons_succ]
                refine wpAnyH_done (by kernel_rfl) ?_ _
                refine NoPanic.normal ?_
                clear y1 fy1 d1 d1a d1b
                go_wp2_with fail
                go_roundw
                case rel => exact ⟨j + 1, _, _, _, HLT.out, by go_num, by rw [HK.out, HSTEP.out]; exact HSw8n.out⟩
                case measure => have := HLT.out; simp [intOf]; omega
      · have hin : ¬ (j : Int) < (l.length : Int) := by omega
        obtain rfl : j = l.length := by omega
        have HW8R := hide (HW8.out.kept HS.out.only (fun e => by have e2 : b8 = b9 ∨ W1.heap.size ≤ b8 := e; have := HBK.out; have := HSZ.out; omega))
        obtain ⟨x0, m0, y0, rfl⟩ := HS.out.at_.fr.form3
        obtain ⟨x1, m1, y1, rfl⟩ := HS.out.at_.of.form3
        obtain ⟨x2, m2, y2, rfl⟩ := HS.out.at_.gn.form3
        obtain ⟨z0, z1, z2, f0, f1, f2, _⟩ := HW8R.out
        obtain ⟨c0, c1, c2, _, _, _, _⟩ := HS.out.wb
        go_wp2_with fail
        refine bodyPost_ret (results_cellI rfl rfl (load_work (HW8R.out.all (.slice x0 m0 y0) (.slice x1 m1 y1) (.slice x2 m2 y2)))) rfl ?_
        have hbk := HBK.out
        exact ⟨_, _, _, rfl, (HS.out.at_.kept (Only.threeW wr b8 _ _ _) (fun k hk e => by have := HSZ.out; omega)).low_base (by have := HSZ.out; omega), HOW.out.trans (Only.threeW _ _ _ _ _) (fun i hi e => by omega)⟩
  · have hk2 : (kd == 2) = false := by simpa using hk
    obtain ⟨z0, z1, z2, f0, f1, f2, _⟩ := HW8.out
    obtain ⟨c0, c1, c2, _, _, _, _⟩ := HS0.out.wb
    have HKN := hide hk
    clear hk
    go_wp2_with fail
    refine bodyPost_ret (results_cellI rfl rfl (load_work (HW8.out.all (.slice none 0 0) (.slice none 0 0) (.slice none 0 0)))) rfl ?_
    have hbk := HBK.out
    exact ⟨_, _, _, rfl, WkAt.nil _ _, HO1.out.trans (Only.threeW _ _ _ _ _) (fun i hi e => by omega)⟩
end Go.Proofs.YtpnbhddmdfcjdaaGreat
