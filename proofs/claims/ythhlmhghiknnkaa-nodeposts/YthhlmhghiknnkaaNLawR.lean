/- Walk of NodeRemoves. -/
import Derived.Test.YthhlmhghiknnkaaNGrown
namespace Go.Proofs.Ythhlmhghiknnkaa
open Go.RowKit

theorem neE_run (a b : En) (w : World) : (binOp .neq 23 (.agg #[.string a.key, .int .i64 a.page, .int .i64 a.slot]) (.agg #[.string b.key, .int .i64 b.page, .int .i64 b.slot])).run Try.prog w = .ok (.bool (!decide (a = b))) w := by
  obtain ⟨k, p, s⟩ := a
  obtain ⟨k', p', s'⟩ := b
  by_cases h1 : k = k'
  · by_cases h2 : p = p'
    · by_cases h3 : s = s'
      · subst h1 h2 h3
        simp [go_sem]
      · simp [go_sem, h1, h2, h3]
    · simp [go_sem, h1, h2]
  · have h4 := ba_neN h1
    have h5 : ¬ k.toList = k'.toList := by simpa using h4
    simp [go_sem, h1, h5]
/-- An entry taken out of a leaf. -/
theorem LfIs.out {hi : En} {l : List ByteArray} {es : List En} (h : LfIs hi l es) (i : Nat) : LfIs hi (l.take i ++ l.drop (i + 1)) (es.take i ++ es.drop (i + 1)) := by
  have hsub : (es.take i ++ es.drop (i + 1)).Sublist es := by
    have h1 : (es.take i ++ es.drop (i + 1)).Sublist (es.take i ++ es.drop i) := List.Sublist.append (List.Sublist.refl _) (by rw [← List.drop_drop]; exact List.drop_sublist _ _)
    rwa [List.take_append_drop] at h1
  refine ⟨?_, h.rise.sublist hsub, fun e he => h.ok e (hsub.subset he), fun e he => h.in_ e (hsub.subset he)⟩
  rw [h.items]
  simp
theorem out_at (es : List En) (k j : Nat) (hk : k < es.length) (hj : j < (es.take k ++ es.drop (k + 1)).length) : ∃ h : (if k ≤ j then j + 1 else j) < es.length, (es.take k ++ es.drop (k + 1))[j] = es[if k ≤ j then j + 1 else j] := by
  have hl : (es.take k ++ es.drop (k + 1)).length = es.length - 1 := by
    rw [List.length_append, List.length_take, List.length_drop]
    omega
  by_cases h : k ≤ j
  · simp only [if_pos h]
    refine ⟨by omega, ?_⟩
    rw [List.getElem_append_right (by rw [List.length_take]; omega)]
    simp only [List.length_take, List.getElem_drop]
    congr 1
    omega
  · simp only [if_neg h]
    refine ⟨by omega, ?_⟩
    rw [List.getElem_append_left (by rw [List.length_take]; omega), List.getElem_take]
theorem modK (a : Int) (n : Nat) (hn : 0 < n) (h255 : n ≤ 255) : ∃ K : Nat, K < n ∧ (wrap64 (a.tmod (n : Int) + (n : Int))).tmod (n : Int) = (K : Int) := by
  have h1 := Int.tmod_lt_of_pos a (b := (n : Int)) (by omega)
  have h2 := Int.lt_tmod_of_pos a (b := (n : Int)) (by omega)
  obtain ⟨x, hx⟩ : ∃ x, a.tmod (n : Int) = x := ⟨_, rfl⟩
  rw [hx] at h1 h2 ⊢
  have h3 : wrap64 (x + (n : Int)) = x + (n : Int) := by unfold wrap64; omega
  rw [h3]
  have h4 := Int.tmod_nonneg (a := x + (n : Int)) (n : Int) (by omega)
  have h5 := Int.tmod_lt_of_pos (x + (n : Int)) (b := (n : Int)) (by omega)
  exact ⟨((x + (n : Int)).tmod (n : Int)).toNat, by omega, by omega⟩
/-- What Remove answers of a leaf without a High, told of the entry in place k. -/
theorem remove_at (W : World) (B cp : Nat) (ao : Option Addr) (l : List ByteArray) (es : List En) (k : Nat) (hk : k < es.length) (hP : Lp W 0 ⟨#[]⟩ noE B ao l es) (hF : Fit ao l.length cp) :
    Calls Try.prog 23 #[.agg #[.int .i64 0, .int .i64 3, .int .i64 0, .int .i64 0, .string ⟨#[]⟩, .slice ao l.length cp], .agg #[.string es[k].key, .int .i64 es[k].page, .int .i64 es[k].slot]] W fun x w' => Res W w' x ⟨0, 3, 0, 0, ⟨#[]⟩, l.take k ++ l.drop (k + 1)⟩ 0 :=
  (remove_ok W 0 0 ⟨#[]⟩ noE es[k] B cp ao l es hP hF).mono (fun x w' q => by
    have := q.good (List.getElem_mem _)
    rwa [plE_at hP.lf.rise k hk] at this)
set_option maxRecDepth 100000 in
set_option maxHeartbeats 6400000 in
theorem nodeRemoves_law (w : World) (BL : Nat) (aL : Option Addr) (cL : Nat) (L : List En) (at_ : Int) (hL : Els w BL aL L) (hn : L.length ≤ maxLen) (hat : -9223372036854775808 ≤ at_ ∧ at_ ≤ 9223372036854775807) : Calls Try.prog 7 #[.slice aL L.length cL, .int .i64 at_] w fun e w' => e = .returned (.bool true) ∧ Only (fun _ => False) w w' := by
  have HAW := hide nawake_any
  have HGR := hide (grown_any w BL aL cL L hL hn)
  have HEN : Hid (∀ (W : World) (B cp : Nat) (ao : Option Addr) (l : List ByteArray) (es : List En), Lp W 0 ⟨#[]⟩ noE B ao l es → Calls Try.prog 21 #[.agg #[.int .i64 0, .int .i64 3, .int .i64 0, .int .i64 0, .string ⟨#[]⟩, .slice ao l.length cp]] W fun x w' => EnR W w' x es) := fun W B cp ao l es hP => entries_ok W 0 0 ⟨#[]⟩ noE B cp ao l es hP
  have HAT := hide hat
  clear hL hn hat
  go_enter Try.func7, Try.ntmps7
  go_wp2_with fail
  refine HGR.out.mono ?_
  rintro x w1 ⟨l, es, B, ao, cp, rfl, hp, hf, h255, ho, _⟩
  have HP1 := hide hp
  have HF1 := hide hf
  have H255 := hide h255
  have HO1 := hide ho
  clear hp hf h255 ho HGR
  go_upto_region 2 with fail
  have HA := hide (onlyA w1 (.cells #[.int .i64 0, .int .i64 3, .int .i64 0, .int .i64 0, .string ⟨#[]⟩, .slice ao l.length cp] 38))
  have HG2 := hide (Pag.new w1 (.int .i64 0) (.int .i64 3) (.int .i64 0) (.int .i64 0) (.string ⟨#[]⟩) (.slice ao l.length cp))
  obtain ⟨b5, hb5⟩ : ∃ b, w1.heap.size = b := ⟨_, rfl⟩
  rw [hb5] at HG2 ⊢
  clear hb5
  obtain ⟨w2, hw2⟩ : ∃ x, w1.alloc (.cells #[.int .i64 0, .int .i64 3, .int .i64 0, .int .i64 0, .string ⟨#[]⟩, .slice ao l.length cp] 38) = x := ⟨_, rfl⟩
  rw [hw2] at HA HG2 ⊢
  clear hw2
  have HP2 := hide (HP1.out.more HA.out)
  have HO2 := hide (o2 HO1.out HA.out)
  clear HA HP1 HO1
  obtain ⟨p0, p1, p2, p3, p4, p5, _⟩ := HG2.out
  go_wp2_with fail
  refine (HEN.out _ _ _ _ _ _ HP2.out).mono ?_
  rintro x w3 ⟨A, C, rfl, he, ho⟩
  have HE3 := hide he
  have HP3 := hide (HP2.out.more ho)
  have HG3 := hide (HG2.out.more ho)
  have HO3 := hide (o2 HO2.out ho)
  have HLN : Hid (es.length ≤ 255) := by have := HP2.out.lf.len; have := H255.out; unfold Hid; omega
  clear he ho p0 p1 p2 p3 p4 p5 HP2 HG2 HO2
  obtain ⟨n, hn⟩ : ∃ n, es.length = n := ⟨_, rfl⟩
  rw [hn] at HE3 HLN ⊢
  have HNN := hide hn
  clear hn
  by_cases h0 : n = 0
  · subst h0
    go_wp2_with fail
    refine (HAW.out _).mono ?_
    rintro x w4 ⟨rfl, ho⟩
    have HO4 := hide (o2 HO3.out ho)
    clear ho
    go_wp2_with fail
    go_ret
    exact ⟨rfl, HO4.out⟩
  · have h0' : ((n : Int) == 0) = false := by rw [beq_eq_false_iff_ne]; omega
    have h0'' : ¬ n = 0 := h0
    have HPOS : Hid (0 < n) := by unfold Hid; omega
    go_upto_region 8 with fail
    clear h0 h0' h0''
    obtain ⟨K, hKn, hK⟩ := modK at_ n HPOS.out HLN.out
    rw [hK]
    have HKN := hide hKn
    have HK : Hid (K < es.length) := by have := HNN.out; unfold Hid; omega
    clear hK hKn
    obtain ⟨Be, hels, _⟩ := HE3.out.elsOf
    obtain ⟨oe, rfl, heb⟩ := hels.of K HK.out
    have HEL := hide hels
    have HEB := hide heb
    clear heb hels
    have hb1 : ¬ (n : Int) ≤ (K : Int) := by have := HKN.out; omega
    have hb2 : (K : Int) < (n : Int) := by have := HKN.out; omega
    have HRM : Hid (∀ W, Only (fun _ => False) w3 W → Calls Try.prog 23 #[.agg #[.int .i64 0, .int .i64 3, .int .i64 0, .int .i64 0, .string ⟨#[]⟩, .slice ao l.length cp], .agg #[.string (es[K]'HK.out).key, .int .i64 (es[K]'HK.out).page, .int .i64 (es[K]'HK.out).slot]] W fun x w' => Res W w' x ⟨0, 3, 0, 0, ⟨#[]⟩, l.take K ++ l.drop (K + 1)⟩ 0) := fun W ho => remove_at W B cp ao l es K HK.out (HP3.out.more ho) HF1.out
    obtain ⟨f, hf⟩ : ∃ f, es[K]'HK.out = f := ⟨_, rfl⟩
    rw [hf] at HRM HEB
    clear hf
    have HLO := hide (HP3.out.lf.out K)
    have HNL : Hid ((l.take K ++ l.drop (K + 1)).length + 1 = es.length) := by
      have := HP3.out.lf.len
      have := HK.out
      unfold Hid
      rw [List.length_append, List.length_take, List.length_drop]
      omega
    obtain ⟨nl, hnl⟩ : ∃ nl, l.take K ++ l.drop (K + 1) = nl := ⟨_, rfl⟩
    rw [hnl] at HRM HLO HNL
    clear hnl
    go_cut [9, 10] (fun y z wx => ∃ c B5 ao5 cp5, y = .pointer (some ⟨c, 0, none⟩) ∧ z = .int .i64 0 ∧ Hid (Nv w3 wx c ⟨0, 3, 0, 0, ⟨#[]⟩, nl⟩ B5 ao5 cp5))
    case first =>
      -- {r8
      refine wp_region_noPanic ?_
      refine wp_region_held_drew (S := fun W => Only (fun _ => False) w3 W) (by kernel_rfl) (Only.drew _ _) (fun hHeld => ?_)
      refine wpAnyH_take (i := 0) (oi := { dst := some 39, op := Op.load 38 (Operand.tmp 5), type := 38, pos := "law.go:214", after := #[], guard := none }) (v := .agg #[.int .i64 0, .int .i64 3, .int .i64 0, .int .i64 0, .string ⟨#[]⟩, .slice ao l.length cp]) rfl (by kernel_rfl) (by kernel_rfl) (by kernel_rfl) (fun _ _ _ h => h) (yieldsIf_load_page (by rfl) _ rfl _ rfl (fun W hW => HG3.out.more hW)) (by assumption) ?_
      simp only [Act.put, List.setIfInBounds_toArray, List.set_cons_zero, List.set_cons_succ]
      refine wpAnyH_take (i := 1) (oi := { dst := some 40, op := Op.move (Operand.tmp 6), type := 35, pos := "law.go:214", after := #[], guard := none }) (v := .slice (some ⟨Be, oe, none⟩) n C) rfl (by kernel_rfl) (by kernel_rfl) (by kernel_rfl) (fun _ _ _ h => h) (Or.inl ⟨by rfl, fun w' hSw => by clear hSw; go_simp⟩) (by assumption) ?_
      simp only [Act.put, List.setIfInBounds_toArray, List.set_cons_zero, List.set_cons_succ]
      refine wpAnyH_take (i := 2) (oi := { dst := some 41, op := Op.move (Operand.tmp 8), type := 3, pos := "law.go:214", after := #[], guard := none }) (v := .int .i64 (K : Int)) rfl (by kernel_rfl) (by kernel_rfl) (by kernel_rfl) (fun _ _ _ h => h) (Or.inl ⟨by rfl, fun w' hSw => by clear hSw; go_simp⟩) (by assumption) ?_
      simp only [Act.put, List.setIfInBounds_toArray, List.set_cons_zero, List.set_cons_succ]
      refine wpAnyH_take (i := 3) (oi := { dst := some 42, op := Op.indexAddr 35 (Operand.tmp 40) (Operand.tmp 41), type := 0, pos := "law.go:214", after := #[{ on := 1, ground := Ground.data }, { on := 2, ground := Ground.data }], guard := none }) (v := .pointer (some ⟨Be, oe + K * 3, none⟩)) rfl (by kernel_rfl) (by kernel_rfl) (by kernel_rfl) (fun _ _ _ h => h) (Or.inl ⟨by rfl, fun w' hSw => by clear hSw; go_simp⟩) (by assumption) ?_
      simp only [Act.put, List.setIfInBounds_toArray, List.set_cons_zero, List.set_cons_succ]
      refine wpAnyH_take (i := 4) (oi := { dst := some 43, op := Op.load 23 (Operand.tmp 42), type := 23, pos := "law.go:214", after := #[{ on := 3, ground := Ground.data }], guard := none }) (v := .agg #[.string f.key, .int .i64 f.page, .int .i64 f.slot]) rfl (by kernel_rfl) (by kernel_rfl) (by kernel_rfl) (fun _ _ _ h => h) (yieldsIf_load_eb (by rfl) _ rfl rfl (fun W hW => HEB.out.more hW)) (by assumption) ?_
      simp only [Act.put, List.setIfInBounds_toArray, List.set_cons_zero, List.set_cons_succ]
      refine wpAnyH_ready (rs := [5, 9]) (by kernel_rfl) (by simp) ?_
      refine AllReadyH.cons (o := { dst := some 44, op := Op.call { callee := Callee.value (Operand.func 23), args := #[Operand.tmp 39, Operand.tmp 43], argTypes := #[38, 23] }, type := 42, pos := "law.go:214", after := #[{ on := 0, ground := Ground.data }, { on := 4, ground := Ground.data }], guard := none }) rfl (fun K hK => ?_) (AllReadyH.cons (o := { dst := some 9, op := Op.alloc 38, type := 0, pos := "law.go:214", after := #[], guard := none }) rfl (fun K hK => ?_) (AllReadyH.nil))
      · go_simp
        refine (HRM.out _ hHeld).mono ?_
        rintro x x1 ⟨B5, ao5, cp5, rfl, hS5, hF5, ho5, hB5⟩
        simp only []
        have HX1 := hide (o2 hHeld ho5)
        have HS7 := hide (And.intro hS5 (And.intro hF5 hB5))
        clear hS5 hF5 ho5 hB5
        refine hK.out _ _ (HX1.out) (fun hHeld => ?_)
        clear hK K
        try simp only [Act.put, List.setIfInBounds_toArray, List.set_cons_zero, List.set_cons_succ]
        refine wpAnyH_take (i := 6) (oi := { dst := some 38, op := Op.move (Operand.tmp 44), type := 42, pos := "law.go:214", after := #[{ on := 5, ground := Ground.data }], guard := none }) (v := .tuple #[.agg #[.int .i64 0, .int .i64 3, .int .i64 0, .int .i64 0, .string ⟨#[]⟩, .slice ao5 nl.length cp5], .int .i64 0]) rfl (by kernel_rfl) (by kernel_rfl) (by kernel_rfl) (fun _ _ _ h => h) (Or.inl ⟨by rfl, fun w' hSw => by clear hSw; go_simp⟩) (by assumption) ?_
        simp only [Act.put, List.setIfInBounds_toArray, List.set_cons_zero, List.set_cons_succ]
        refine wpAnyH_take (i := 7) (oi := { dst := some 45, op := Op.extract (Operand.tmp 38) 0, type := 38, pos := "law.go:214", after := #[{ on := 6, ground := Ground.data }], guard := none }) (v := .agg #[.int .i64 0, .int .i64 3, .int .i64 0, .int .i64 0, .string ⟨#[]⟩, .slice ao5 nl.length cp5]) rfl (by kernel_rfl) (by kernel_rfl) (by kernel_rfl) (fun _ _ _ h => h) (Or.inl ⟨by rfl, fun w' hSw => by clear hSw; go_simp⟩) (by assumption) ?_
        simp only [Act.put, List.setIfInBounds_toArray, List.set_cons_zero, List.set_cons_succ]
        refine wpAnyH_take (i := 8) (oi := { dst := some 46, op := Op.extract (Operand.tmp 38) 1, type := 24, pos := "law.go:214", after := #[{ on := 6, ground := Ground.data }, { on := 10, ground := Ground.gcOnly Departure.lateStores }], guard := none }) (v := .int .i64 0) rfl (by kernel_rfl) (by kernel_rfl) (by kernel_rfl) (fun _ _ _ h => h) (Or.inl ⟨by rfl, fun w' hSw => by clear hSw; go_simp⟩) (by assumption) ?_
        simp only [Act.put, List.setIfInBounds_toArray, List.set_cons_zero, List.set_cons_succ]
        refine wpAnyH_ready (rs := [9]) (by kernel_rfl) (by simp) ?_
        refine AllReadyH.cons (o := { dst := some 9, op := Op.alloc 38, type := 0, pos := "law.go:214", after := #[], guard := none }) rfl (fun K hK => ?_) (AllReadyH.nil)
        go_simp
        refine hK.out _ _ (o2 HX1.out (onlyA _ _)) (fun hHeld => ?_)
        clear hK K
        try simp only [Act.put, List.setIfInBounds_toArray, List.set_cons_zero, List.set_cons_succ]
        refine wpAnyH_ready (rs := [10]) (by kernel_rfl) (by simp) ?_
        refine AllReadyH.cons (o := { dst := none, op := Op.store 38 (Operand.tmp 9) (Operand.tmp 45), type := 0, pos := "law.go:214", after := #[{ on := 9, ground := Ground.data }, { on := 7, ground := Ground.data }, { on := 5, ground := Ground.chain }, { on := 0, ground := Ground.phase }, { on := 1, ground := Ground.phase }, { on := 2, ground := Ground.phase }, { on := 3, ground := Ground.phase }, { on := 4, ground := Ground.phase }, { on := 5, ground := Ground.phase }, { on := 6, ground := Ground.phase }, { on := 7, ground := Ground.phase }, { on := 8, ground := Ground.textOnly Departure.lateStores }, { on := 9, ground := Ground.phase }], guard := none }) rfl (fun K hK => ?_) (AllReadyH.nil)
        go_simp
        have HNV := hide (nv_after (p := ⟨0, 3, 0, 0, ⟨#[]⟩, nl⟩) HS7.out.1 HS7.out.2.1 HX1.out HS7.out.2.2)
        refine hK.out _ _ (HNV.out.only) (fun hHeld => ?_)
        clear hK K
        try simp only [Act.put, List.setIfInBounds_toArray, List.set_cons_zero, List.set_cons_succ]
        refine wpAnyH_take (i := 11) (oi := { dst := some 10, op := Op.assign (Operand.tmp 46), type := 24, pos := "law.go:214", after := #[{ on := 8, ground := Ground.data }, { on := 10, ground := Ground.chain }, { on := 0, ground := Ground.phase }, { on := 1, ground := Ground.phase }, { on := 2, ground := Ground.phase }, { on := 3, ground := Ground.phase }, { on := 4, ground := Ground.phase }, { on := 5, ground := Ground.phase }, { on := 6, ground := Ground.phase }, { on := 7, ground := Ground.phase }, { on := 8, ground := Ground.phase }, { on := 9, ground := Ground.phase }, { on := 10, ground := Ground.phase }], guard := none }) (v := .int .i64 0) rfl (by kernel_rfl) (by kernel_rfl) (by kernel_rfl) (fun _ _ _ h => h) (Or.inl ⟨by rfl, fun w' hSw => by clear hSw; go_simp⟩) (by assumption) ?_
        simp only [Act.put, List.setIfInBounds_toArray, List.set_cons_zero, List.set_cons_succ]
        refine wpAnyH_done (by kernel_rfl) ?_ _
        refine NoPanic.normal ?_
        go_wp2_with fail
        go_meet
        exact ⟨_, B5, ao5, cp5, rfl, rfl, HNV⟩
      · go_simp
        have HZA : Hid (Pag ((w3.alloc (.cells #[.int .i64 0, .int .i64 0, .int .i64 0, .int .i64 0, .string ⟨#[]⟩, .slice none 0 0] 38)).drew) w3.heap.size (.int .i64 0) (.int .i64 0) (.int .i64 0) (.int .i64 0) (.string ⟨#[]⟩) (.slice none 0 0)) := (Pag.new w3 _ _ _ _ _ _).more (Only.drew _ _)
        have HOA : Hid (Only (fun _ => False) w3 ((w3.alloc (.cells #[.int .i64 0, .int .i64 0, .int .i64 0, .int .i64 0, .string ⟨#[]⟩, .slice none 0 0] 38)).drew)) := o2 (onlyA _ _) (Only.drew _ _)
        refine hK.out _ _ (HOA.out) (fun hHeld => ?_)
        clear hK K
        try simp only [Act.put, List.setIfInBounds_toArray, List.set_cons_zero, List.set_cons_succ]
        refine wpAnyH_ready (rs := [5]) (by kernel_rfl) (by simp) ?_
        refine AllReadyH.cons (o := { dst := some 44, op := Op.call { callee := Callee.value (Operand.func 23), args := #[Operand.tmp 39, Operand.tmp 43], argTypes := #[38, 23] }, type := 42, pos := "law.go:214", after := #[{ on := 0, ground := Ground.data }, { on := 4, ground := Ground.data }], guard := none }) rfl (fun K hK => ?_) (AllReadyH.nil)
        go_simp
        refine (HRM.out _ hHeld).mono ?_
        rintro x x1 ⟨B5, ao5, cp5, rfl, hS5, hF5, ho5, hB5⟩
        simp only []
        have HX1 := hide (o2 hHeld ho5)
        have HS7 := hide (And.intro hS5 (And.intro hF5 (And.intro ho5 hB5)))
        have HZ7 := hide (HZA.out.more ho5)
        obtain ⟨q0, q1, q2, q3, q4, q5, g0, g1, g2, g3, g4, g5, ql⟩ := HZ7.out
        clear hS5 hF5 ho5 hB5
        refine hK.out _ _ (HX1.out) (fun hHeld => ?_)
        clear hK K
        try simp only [Act.put, List.setIfInBounds_toArray, List.set_cons_zero, List.set_cons_succ]
        refine wpAnyH_take (i := 6) (oi := { dst := some 38, op := Op.move (Operand.tmp 44), type := 42, pos := "law.go:214", after := #[{ on := 5, ground := Ground.data }], guard := none }) (v := .tuple #[.agg #[.int .i64 0, .int .i64 3, .int .i64 0, .int .i64 0, .string ⟨#[]⟩, .slice ao5 nl.length cp5], .int .i64 0]) rfl (by kernel_rfl) (by kernel_rfl) (by kernel_rfl) (fun _ _ _ h => h) (Or.inl ⟨by rfl, fun w' hSw => by clear hSw; go_simp⟩) (by assumption) ?_
        simp only [Act.put, List.setIfInBounds_toArray, List.set_cons_zero, List.set_cons_succ]
        refine wpAnyH_take (i := 7) (oi := { dst := some 45, op := Op.extract (Operand.tmp 38) 0, type := 38, pos := "law.go:214", after := #[{ on := 6, ground := Ground.data }], guard := none }) (v := .agg #[.int .i64 0, .int .i64 3, .int .i64 0, .int .i64 0, .string ⟨#[]⟩, .slice ao5 nl.length cp5]) rfl (by kernel_rfl) (by kernel_rfl) (by kernel_rfl) (fun _ _ _ h => h) (Or.inl ⟨by rfl, fun w' hSw => by clear hSw; go_simp⟩) (by assumption) ?_
        simp only [Act.put, List.setIfInBounds_toArray, List.set_cons_zero, List.set_cons_succ]
        refine wpAnyH_take (i := 8) (oi := { dst := some 46, op := Op.extract (Operand.tmp 38) 1, type := 24, pos := "law.go:214", after := #[{ on := 6, ground := Ground.data }, { on := 10, ground := Ground.gcOnly Departure.lateStores }], guard := none }) (v := .int .i64 0) rfl (by kernel_rfl) (by kernel_rfl) (by kernel_rfl) (fun _ _ _ h => h) (Or.inl ⟨by rfl, fun w' hSw => by clear hSw; go_simp⟩) (by assumption) ?_
        simp only [Act.put, List.setIfInBounds_toArray, List.set_cons_zero, List.set_cons_succ]
        refine wpAnyH_ready (rs := [10]) (by kernel_rfl) (by simp) ?_
        refine AllReadyH.cons (o := { dst := none, op := Op.store 38 (Operand.tmp 9) (Operand.tmp 45), type := 0, pos := "law.go:214", after := #[{ on := 9, ground := Ground.data }, { on := 7, ground := Ground.data }, { on := 5, ground := Ground.chain }, { on := 0, ground := Ground.phase }, { on := 1, ground := Ground.phase }, { on := 2, ground := Ground.phase }, { on := 3, ground := Ground.phase }, { on := 4, ground := Ground.phase }, { on := 5, ground := Ground.phase }, { on := 6, ground := Ground.phase }, { on := 7, ground := Ground.phase }, { on := 8, ground := Ground.textOnly Departure.lateStores }, { on := 9, ground := Ground.phase }], guard := none }) rfl (fun K hK => ?_) (AllReadyH.nil)
        go_simp
        have HNV := hide (nv_before (p := ⟨0, 3, 0, 0, ⟨#[]⟩, nl⟩) HZ7.out HS7.out.1 HS7.out.2.1 (Nat.le_refl _) HOA.out HS7.out.2.2.1 HZA.out.lt HS7.out.2.2.2)
        refine hK.out _ _ (HNV.out.only) (fun hHeld => ?_)
        clear hK K
        try simp only [Act.put, List.setIfInBounds_toArray, List.set_cons_zero, List.set_cons_succ]
        refine wpAnyH_take (i := 11) (oi := { dst := some 10, op := Op.assign (Operand.tmp 46), type := 24, pos := "law.go:214", after := #[{ on := 8, ground := Ground.data }, { on := 10, ground := Ground.chain }, { on := 0, ground := Ground.phase }, { on := 1, ground := Ground.phase }, { on := 2, ground := Ground.phase }, { on := 3, ground := Ground.phase }, { on := 4, ground := Ground.phase }, { on := 5, ground := Ground.phase }, { on := 6, ground := Ground.phase }, { on := 7, ground := Ground.phase }, { on := 8, ground := Ground.phase }, { on := 9, ground := Ground.phase }, { on := 10, ground := Ground.phase }], guard := none }) (v := .int .i64 0) rfl (by kernel_rfl) (by kernel_rfl) (by kernel_rfl) (fun _ _ _ h => h) (Or.inl ⟨by rfl, fun w' hSw => by clear hSw; go_simp⟩) (by assumption) ?_
        simp only [Act.put, List.setIfInBounds_toArray, List.set_cons_zero, List.set_cons_succ]
        refine wpAnyH_done (by kernel_rfl) ?_ _
        refine NoPanic.normal ?_
        go_wp2_with fail
        go_meet
        exact ⟨_, B5, ao5, cp5, rfl, rfl, HNV⟩
      -- r8}
    case rest =>
      obtain ⟨c, B5, ao5, cp5, rfl, rfl, HN⟩ := hcut
      clear hb1 hb2 HRM HEB
      have HQ5 : Hid (Lp wc 0 ⟨#[]⟩ noE B5 ao5 nl (es.take K ++ es.drop (K + 1))) := ⟨HN.out.strs, by decide, .inl ⟨rfl, rfl⟩, HLO.out, by have := HNL.out; have := HNN.out; have := HLN.out; omega⟩
      have HG5 := hide (HG3.out.more HN.out.only)
      have HE5 := hide (HEL.out.more HN.out.only)
      have HO5 := hide (o2 HO3.out HN.out.only)
      obtain ⟨q0, q1, q2, q3, q4, q5, _⟩ := HN.out.pag
      simp only [] at q0 q1 q2 q3 q4 q5
      clear HG3 HEL HO3 HP3 HE3 HLO
      go_wp2_with fail
      refine (HEN.out _ _ _ _ _ _ HQ5.out).mono ?_
      rintro x w6 ⟨A6, C6, rfl, he, ho⟩
      have HN6 := hide (HN.out.pag.more ho)
      have HG6 := hide (HG5.out.more ho)
      have HE6 := hide (HE5.out.more ho)
      have HO6 := hide (o2 HO5.out ho)
      have HX6 := hide he
      clear he ho q0 q1 q2 q3 q4 q5 HN HG5 HE5 HO5 HQ5 HEN
      have HAT2 := hide (out_at es K · HK.out)
      have HEQL : Hid ((es.take K ++ es.drop (K + 1)).length + 1 = es.length) := by
        have := HK.out
        unfold Hid
        rw [List.length_append, List.length_take, List.length_drop]
        omega
      obtain ⟨fs, hfs⟩ : ∃ fs, es.take K ++ es.drop (K + 1) = fs := ⟨_, rfl⟩
      rw [hfs] at HX6 HEQL ⊢
      have HAT3 : Hid (∀ j (hj : j < fs.length), ∃ h : (if K ≤ j then j + 1 else j) < es.length, fs[j] = es[if K ≤ j then j + 1 else j]) := by
        subst hfs
        exact fun j hj => out_at es K j HK.out hj
      clear hfs HAT2
      obtain ⟨Bf, hfl, _⟩ := HX6.out.elsOf
      have HF6 := hide hfl
      clear hfl HX6
      obtain ⟨p0, p1, p2, p3, p4, p5, _⟩ := HN6.out
      obtain ⟨r0, r1, r2, r3, r4, r5, _⟩ := HG6.out
      simp only [] at p0 p1 p2 p3 p4 p5
      have hlen : (n : Int) - 1 = (fs.length : Int) := by have := HEQL.out; have := HNN.out; omega
      have hwl : IntKind.i64.wrap (fs.length : Int) = (fs.length : Int) := by have := HEQL.out; have := HNN.out; have := HLN.out; rw [IntKind.wrap_i64]; omega
      go_upto_region 13 with fail
      clear hlen hwl p0 p1 p2 p3 p4 p5 r0 r1 r2 r3 r4 r5 HN6 HG6
      go_loopw [13] (fun i wr => ∃ (j : Nat), j ≤ fs.length ∧ i = .int .i64 (j : Int) ∧ Hid (Only (fun _ => False) w6 wr)) (fun i _ => fs.length - (intOf i).toNat)
      case atStart => exact ⟨0, Nat.zero_le _, rfl, hide (Only.refl _ _)⟩
      case round =>
        obtain ⟨j, hj, rfl, HW⟩ := hrel
        have hfl : fs.length ≤ 255 := by have := HEQL.out; have := HNN.out; have := HLN.out; omega
        by_cases hlt : j < fs.length
        · have hlk : (j : Int) < (fs.length : Int) := by omega
          have hlk2 : ¬ (fs.length : Int) ≤ (j : Int) := by omega
          obtain ⟨of, rfl, hbf⟩ := (HF6.out.more HW.out).of j hlt
          obtain ⟨hN, hat2⟩ := HAT3.out j hlt
          have HB1 := hide hbf
          clear hbf
          by_cases hkj : K ≤ j
          · rw [hat2] at HB1
            simp only [if_pos hkj] at hN HB1
            have hk1 : (K : Int) ≤ (j : Int) := by omega
            obtain ⟨N, hN1⟩ : ∃ N, j + 1 = N := ⟨_, rfl⟩
            have hN2 : (j : Int) + 1 = (N : Int) := by omega
            simp only [hN1] at hN HB1
            obtain ⟨of2, hof2, hbf2⟩ := (HE6.out.more HW.out).of N hN
            have HB2 := hide hbf2
            injection hof2 with hof3
            injection hof3 with _ hof4
            subst hof4
            have hq := neE_run es[N] es[N]
            rw [decide_eq_true rfl] at hq
            obtain ⟨g, hg⟩ : ∃ g, es[N] = g := ⟨_, rfl⟩
            rw [hg] at HB1 HB2 hq
            have hb1 : ¬ (n : Int) ≤ (N : Int) := by have := HNN.out; omega
            have hb2 : (N : Int) < (n : Int) := by have := HNN.out; omega
            clear hbf2 hg hat2 hkj hN1
            go_upto_region 18 with fail
            clear hN2 hk1
            -- {r18
            refine wp_region_noPanic ?_
            refine wp_region_held_drew (S := fun W => Only (fun _ => False) wr W) (by kernel_rfl) (Only.drew _ _) (fun hHeld => ?_)
            refine wpAnyH_take (i := 0) (oi := { dst := some 92, op := Op.move (Operand.tmp 11), type := 35, pos := "law.go:224", after := #[], guard := none }) (v := .slice (some ⟨Bf, of, none⟩) fs.length C6) rfl (by kernel_rfl) (by kernel_rfl) (by kernel_rfl) (fun _ _ _ h => h) (Or.inl ⟨by rfl, fun w' hSw => by clear hSw; go_simp⟩) (by assumption) ?_
            simp only [Act.put, List.setIfInBounds_toArray, List.set_cons_zero, List.set_cons_succ]
            refine wpAnyH_take (i := 1) (oi := { dst := some 93, op := Op.move (Operand.tmp 13), type := 3, pos := "law.go:224", after := #[], guard := none }) (v := .int .i64 (j : Int)) rfl (by kernel_rfl) (by kernel_rfl) (by kernel_rfl) (fun _ _ _ h => h) (Or.inl ⟨by rfl, fun w' hSw => by clear hSw; go_simp⟩) (by assumption) ?_
            simp only [Act.put, List.setIfInBounds_toArray, List.set_cons_zero, List.set_cons_succ]
            refine wpAnyH_take (i := 4) (oi := { dst := some 96, op := Op.move (Operand.tmp 6), type := 35, pos := "law.go:224", after := #[], guard := none }) (v := .slice (some ⟨Be, oe, none⟩) n C) rfl (by kernel_rfl) (by kernel_rfl) (by kernel_rfl) (fun _ _ _ h => h) (Or.inl ⟨by rfl, fun w' hSw => by clear hSw; go_simp⟩) (by assumption) ?_
            simp only [Act.put, List.setIfInBounds_toArray, List.set_cons_zero, List.set_cons_succ]
            refine wpAnyH_take (i := 5) (oi := { dst := some 97, op := Op.move (Operand.tmp 14), type := 3, pos := "law.go:224", after := #[], guard := none }) (v := .int .i64 (N : Int)) rfl (by kernel_rfl) (by kernel_rfl) (by kernel_rfl) (fun _ _ _ h => h) (Or.inl ⟨by rfl, fun w' hSw => by clear hSw; go_simp⟩) (by assumption) ?_
            simp only [Act.put, List.setIfInBounds_toArray, List.set_cons_zero, List.set_cons_succ]
            refine wpAnyH_take (i := 2) (oi := { dst := some 94, op := Op.indexAddr 35 (Operand.tmp 92) (Operand.tmp 93), type := 0, pos := "law.go:224", after := #[{ on := 0, ground := Ground.data }, { on := 1, ground := Ground.data }], guard := none }) (v := .pointer (some ⟨Bf, of + j * 3, none⟩)) rfl (by kernel_rfl) (by kernel_rfl) (by kernel_rfl) (fun _ _ _ h => h) (Or.inl ⟨by rfl, fun w' hSw => by clear hSw; go_simp⟩) (by assumption) ?_
            simp only [Act.put, List.setIfInBounds_toArray, List.set_cons_zero, List.set_cons_succ]
            refine wpAnyH_take (i := 6) (oi := { dst := some 98, op := Op.indexAddr 35 (Operand.tmp 96) (Operand.tmp 97), type := 0, pos := "law.go:224", after := #[{ on := 4, ground := Ground.data }, { on := 5, ground := Ground.data }], guard := none }) (v := .pointer (some ⟨Be, oe + N * 3, none⟩)) rfl (by kernel_rfl) (by kernel_rfl) (by kernel_rfl) (fun _ _ _ h => h) (Or.inl ⟨by rfl, fun w' hSw => by clear hSw; go_simp⟩) (by assumption) ?_
            simp only [Act.put, List.setIfInBounds_toArray, List.set_cons_zero, List.set_cons_succ]
            refine wpAnyH_take (i := 3) (oi := { dst := some 95, op := Op.load 23 (Operand.tmp 94), type := 23, pos := "law.go:224", after := #[{ on := 2, ground := Ground.data }], guard := none }) (v := .agg #[.string g.key, .int .i64 g.page, .int .i64 g.slot]) rfl (by kernel_rfl) (by kernel_rfl) (by kernel_rfl) (fun _ _ _ h => h) (yieldsIf_load_eb (by rfl) _ rfl rfl (fun W hW => HB1.out.more hW)) (by assumption) ?_
            simp only [Act.put, List.setIfInBounds_toArray, List.set_cons_zero, List.set_cons_succ]
            refine wpAnyH_take (i := 7) (oi := { dst := some 99, op := Op.load 23 (Operand.tmp 98), type := 23, pos := "law.go:224", after := #[{ on := 6, ground := Ground.data }], guard := none }) (v := .agg #[.string g.key, .int .i64 g.page, .int .i64 g.slot]) rfl (by kernel_rfl) (by kernel_rfl) (by kernel_rfl) (fun _ _ _ h => h) (yieldsIf_load_eb (by rfl) _ rfl rfl (fun W hW => HB2.out.more hW)) (by assumption) ?_
            simp only [Act.put, List.setIfInBounds_toArray, List.set_cons_zero, List.set_cons_succ]
            refine wpAnyH_take (i := 8) (oi := { dst := some 100, op := Op.binOp BinOp.neq 23 (Operand.tmp 95) (Operand.tmp 99) 23, type := 4, pos := "law.go:224", after := #[{ on := 3, ground := Ground.data }, { on := 7, ground := Ground.data }], guard := none }) (v := .bool false) rfl (by kernel_rfl) (by kernel_rfl) (by kernel_rfl) (fun _ _ _ h => h) (Or.inl ⟨by rfl, fun w' hSw => by clear hSw; go_simp⟩) (by assumption) ?_
            simp only [Act.put, List.setIfInBounds_toArray, List.set_cons_zero, List.set_cons_succ]
            refine wpAnyH_done (by kernel_rfl) ?_ _
            refine NoPanic.normal ?_
            -- r18}
            go_wp2_with fail
            go_roundw
            case rel => exact ⟨j + 1, by omega, by go_num, hide (o2 HW.out (Only.drew _ _))⟩
            case measure => simp [intOf]; omega
          · rw [hat2] at HB1
            simp only [if_neg hkj] at hN HB1
            have hk1 : ¬ (K : Int) ≤ (j : Int) := by omega
            obtain ⟨N, hN1⟩ : ∃ N, j = N := ⟨_, rfl⟩
            obtain ⟨of2, hof2, hbf2⟩ := (HE6.out.more HW.out).of j hN
            have HB2 := hide hbf2
            injection hof2 with hof3
            injection hof3 with _ hof4
            subst hof4
            have hq := neE_run es[j] es[j]
            rw [decide_eq_true rfl] at hq
            obtain ⟨g, hg⟩ : ∃ g, es[j] = g := ⟨_, rfl⟩
            rw [hg] at HB1 HB2 hq
            have hb1 : ¬ (n : Int) ≤ (j : Int) := by have := HNN.out; omega
            have hb2 : (j : Int) < (n : Int) := by have := HNN.out; omega
            clear hbf2 hg hat2 hkj hN1
            go_upto_region 18 with fail
            clear hk1
            -- {r18b
            refine wp_region_noPanic ?_
            refine wp_region_held_drew (S := fun W => Only (fun _ => False) wr W) (by kernel_rfl) (Only.drew _ _) (fun hHeld => ?_)
            refine wpAnyH_take (i := 0) (oi := { dst := some 92, op := Op.move (Operand.tmp 11), type := 35, pos := "law.go:224", after := #[], guard := none }) (v := .slice (some ⟨Bf, of, none⟩) fs.length C6) rfl (by kernel_rfl) (by kernel_rfl) (by kernel_rfl) (fun _ _ _ h => h) (Or.inl ⟨by rfl, fun w' hSw => by clear hSw; go_simp⟩) (by assumption) ?_
            simp only [Act.put, List.setIfInBounds_toArray, List.set_cons_zero, List.set_cons_succ]
            refine wpAnyH_take (i := 1) (oi := { dst := some 93, op := Op.move (Operand.tmp 13), type := 3, pos := "law.go:224", after := #[], guard := none }) (v := .int .i64 (j : Int)) rfl (by kernel_rfl) (by kernel_rfl) (by kernel_rfl) (fun _ _ _ h => h) (Or.inl ⟨by rfl, fun w' hSw => by clear hSw; go_simp⟩) (by assumption) ?_
            simp only [Act.put, List.setIfInBounds_toArray, List.set_cons_zero, List.set_cons_succ]
            refine wpAnyH_take (i := 4) (oi := { dst := some 96, op := Op.move (Operand.tmp 6), type := 35, pos := "law.go:224", after := #[], guard := none }) (v := .slice (some ⟨Be, oe, none⟩) n C) rfl (by kernel_rfl) (by kernel_rfl) (by kernel_rfl) (fun _ _ _ h => h) (Or.inl ⟨by rfl, fun w' hSw => by clear hSw; go_simp⟩) (by assumption) ?_
            simp only [Act.put, List.setIfInBounds_toArray, List.set_cons_zero, List.set_cons_succ]
            refine wpAnyH_take (i := 5) (oi := { dst := some 97, op := Op.move (Operand.tmp 14), type := 3, pos := "law.go:224", after := #[], guard := none }) (v := .int .i64 (j : Int)) rfl (by kernel_rfl) (by kernel_rfl) (by kernel_rfl) (fun _ _ _ h => h) (Or.inl ⟨by rfl, fun w' hSw => by clear hSw; go_simp⟩) (by assumption) ?_
            simp only [Act.put, List.setIfInBounds_toArray, List.set_cons_zero, List.set_cons_succ]
            refine wpAnyH_take (i := 2) (oi := { dst := some 94, op := Op.indexAddr 35 (Operand.tmp 92) (Operand.tmp 93), type := 0, pos := "law.go:224", after := #[{ on := 0, ground := Ground.data }, { on := 1, ground := Ground.data }], guard := none }) (v := .pointer (some ⟨Bf, of + j * 3, none⟩)) rfl (by kernel_rfl) (by kernel_rfl) (by kernel_rfl) (fun _ _ _ h => h) (Or.inl ⟨by rfl, fun w' hSw => by clear hSw; go_simp⟩) (by assumption) ?_
            simp only [Act.put, List.setIfInBounds_toArray, List.set_cons_zero, List.set_cons_succ]
            refine wpAnyH_take (i := 6) (oi := { dst := some 98, op := Op.indexAddr 35 (Operand.tmp 96) (Operand.tmp 97), type := 0, pos := "law.go:224", after := #[{ on := 4, ground := Ground.data }, { on := 5, ground := Ground.data }], guard := none }) (v := .pointer (some ⟨Be, oe + j * 3, none⟩)) rfl (by kernel_rfl) (by kernel_rfl) (by kernel_rfl) (fun _ _ _ h => h) (Or.inl ⟨by rfl, fun w' hSw => by clear hSw; go_simp⟩) (by assumption) ?_
            simp only [Act.put, List.setIfInBounds_toArray, List.set_cons_zero, List.set_cons_succ]
            refine wpAnyH_take (i := 3) (oi := { dst := some 95, op := Op.load 23 (Operand.tmp 94), type := 23, pos := "law.go:224", after := #[{ on := 2, ground := Ground.data }], guard := none }) (v := .agg #[.string g.key, .int .i64 g.page, .int .i64 g.slot]) rfl (by kernel_rfl) (by kernel_rfl) (by kernel_rfl) (fun _ _ _ h => h) (yieldsIf_load_eb (by rfl) _ rfl rfl (fun W hW => HB1.out.more hW)) (by assumption) ?_
            simp only [Act.put, List.setIfInBounds_toArray, List.set_cons_zero, List.set_cons_succ]
            refine wpAnyH_take (i := 7) (oi := { dst := some 99, op := Op.load 23 (Operand.tmp 98), type := 23, pos := "law.go:224", after := #[{ on := 6, ground := Ground.data }], guard := none }) (v := .agg #[.string g.key, .int .i64 g.page, .int .i64 g.slot]) rfl (by kernel_rfl) (by kernel_rfl) (by kernel_rfl) (fun _ _ _ h => h) (yieldsIf_load_eb (by rfl) _ rfl rfl (fun W hW => HB2.out.more hW)) (by assumption) ?_
            simp only [Act.put, List.setIfInBounds_toArray, List.set_cons_zero, List.set_cons_succ]
            refine wpAnyH_take (i := 8) (oi := { dst := some 100, op := Op.binOp BinOp.neq 23 (Operand.tmp 95) (Operand.tmp 99) 23, type := 4, pos := "law.go:224", after := #[{ on := 3, ground := Ground.data }, { on := 7, ground := Ground.data }], guard := none }) (v := .bool false) rfl (by kernel_rfl) (by kernel_rfl) (by kernel_rfl) (fun _ _ _ h => h) (Or.inl ⟨by rfl, fun w' hSw => by clear hSw; go_simp⟩) (by assumption) ?_
            simp only [Act.put, List.setIfInBounds_toArray, List.set_cons_zero, List.set_cons_succ]
            refine wpAnyH_done (by kernel_rfl) ?_ _
            refine NoPanic.normal ?_
            -- r18b}
            go_wp2_with fail
            go_roundw
            case rel => exact ⟨j + 1, by omega, by go_num, hide (o2 HW.out (Only.drew _ _))⟩
            case measure => simp [intOf]; omega
        · have hlk : ¬ (j : Int) < (fs.length : Int) := by omega
          go_wp2_with fail
          refine (HAW.out _).mono ?_
          rintro x w7 ⟨rfl, ho⟩
          have HO7 := hide (o2 (o2 HO6.out HW.out) ho)
          clear ho
          go_wp2_with fail
          go_ret
          exact ⟨rfl, HO7.out⟩
end Go.Proofs.Ythhlmhghiknnkaa
