/- Walk of NodeHolds. -/
import Derived.Test.YthhlmhghiknnkaaNLawR
namespace Go.Proofs.Ythhlmhghiknnkaa
open Go.RowKit

theorem insE_len (es : List En) (e : En) : (insE es e).length = es.length + 1 := by
  unfold insE
  simp only [List.length_append, List.length_cons, List.length_take, List.length_drop]
  omega
theorem insE_get (es : List En) (e : En) (j : Nat) : (insE es e)[j]? = if j < plE es e then es[j]? else if j = plE es e then some e else es[j - 1]? := by
  have hp := plE_le es e
  have hlt : (es.take (plE es e)).length = plE es e := by rw [List.length_take]; omega
  unfold insE
  by_cases h1 : j < plE es e
  · rw [if_pos h1, List.getElem?_append_left (by omega), List.getElem?_take_of_lt h1]
  · rw [if_neg h1, List.getElem?_append_right (by omega), hlt]
    by_cases h2 : j = plE es e
    · rw [if_pos h2, h2, Nat.sub_self]
      rfl
    · obtain ⟨d, hd⟩ : ∃ d, j - plE es e = d + 1 := ⟨j - plE es e - 1, by omega⟩
      rw [if_neg h2, hd, List.getElem?_cons_succ, List.getElem?_drop]
      congr 1
      omega
theorem insE_at (es : List En) (e : En) (j : Nat) (hj : j < (insE es e).length) : (j < plE es e ∧ ∃ h : j < es.length, (insE es e)[j] = es[j]) ∨ (j = plE es e ∧ (insE es e)[j] = e) ∨ (plE es e < j ∧ ∃ h : j - 1 < es.length, (insE es e)[j] = es[j - 1]) := by
  have hl := insE_len es e
  have hp := plE_le es e
  have hg := insE_get es e j
  rw [List.getElem?_eq_getElem hj] at hg
  by_cases h1 : j < plE es e
  · rw [if_pos h1, List.getElem?_eq_getElem (by omega)] at hg
    exact .inl ⟨h1, by omega, Option.some.inj hg⟩
  · rw [if_neg h1] at hg
    by_cases h2 : j = plE es e
    · rw [if_pos h2] at hg
      exact .inr (.inl ⟨h2, Option.some.inj hg⟩)
    · rw [if_neg h2, List.getElem?_eq_getElem (by omega)] at hg
      exact .inr (.inr ⟨by omega, by omega, Option.some.inj hg⟩)
theorem insE_pl {es : List En} {e : En} (hr : Rise es) (hn : e ∉ es) : plE (insE es e) e = plE es e := by
  have hl := insE_len es e
  have hp := plE_le es e
  have hj : plE es e < (insE es e).length := by omega
  rcases insE_at es e (plE es e) hj with ⟨h, _⟩ | ⟨_, h⟩ | ⟨h, _⟩
  · omega
  · have := plE_at (insE_rise hr hn) (plE es e) hj
    rwa [h] at this
  · omega
theorem ins_out (l : List ByteArray) (es : List En) (e : En) (h : plE es e ≤ l.length) : (insI l es e).take (plE es e) ++ (insI l es e).drop (plE es e + 1) = l := by
  unfold insI
  have hlt : (l.take (plE es e)).length = plE es e := by rw [List.length_take]; omega
  have h1 : (l.take (plE es e) ++ e.enc :: l.drop (plE es e)).take (plE es e) = l.take (plE es e) := by
    rw [List.take_append_of_le_length (by omega), List.take_of_length_le (by omega)]
  have h2 : (l.take (plE es e) ++ e.enc :: l.drop (plE es e)).drop (plE es e + 1) = l.drop (plE es e) := by
    rw [List.drop_append, hlt, List.drop_of_length_le (by omega)]
    simp
  rw [h1, h2]
  exact List.take_append_drop _ _
set_option maxRecDepth 100000 in
set_option maxHeartbeats 6400000 in
theorem nodeHolds_law (w : World) (BL : Nat) (aL : Option Addr) (cL : Nat) (L : List En) (e : En) (hL : Els w BL aL L) (hn : L.length ≤ maxLen) : Calls Try.prog 4 #[.slice aL L.length cL, e.agg] w fun x w' => x = .returned (.bool true) ∧ Only (fun _ => False) w w' := by
  have HAW := hide nawake_any
  have HV0 := hide (Ev.new w e)
  have HO0 := hide (onlyA w (.cells #[.string e.key, .int .i64 e.page, .int .i64 e.slot] 23))
  have HGR := hide (grown_any _ BL aL cL L (hL.more HO0.out) hn)
  have HEN : Hid (∀ (W : World) (B cp : Nat) (ao : Option Addr) (l : List ByteArray) (es : List En), Lp W 0 ⟨#[]⟩ noE B ao l es → Calls Try.prog 21 #[.agg #[.int .i64 0, .int .i64 3, .int .i64 0, .int .i64 0, .string ⟨#[]⟩, .slice ao l.length cp]] W fun x w' => EnR W w' x es) := fun W B cp ao l es hP => entries_ok W 0 0 ⟨#[]⟩ noE B cp ao l es hP
  have HI : Hid (∀ (W : World) (B : Nat) (ao : Option Addr) (cp : Nat) (l : List ByteArray) (es : List En), Lp W 0 ⟨#[]⟩ noE B ao l es → Fit ao l.length cp → Calls Try.prog 22 #[.agg #[.int .i64 0, .int .i64 3, .int .i64 0, .int .i64 0, .string ⟨#[]⟩, .slice ao l.length cp], .agg #[.string e.key, .int .i64 e.page, .int .i64 e.slot]] W fun x w' => ∃ p k, Res W w' x p k ∧ ((k = 0 ∧ p = ⟨0, 3, 0, 0, ⟨#[]⟩, insI l es e⟩ ∧ e.ok = true ∧ byd noE e = false ∧ e ∉ es ∧ (insI l es e).length ≤ 255) ∨ (¬ k = 0 ∧ p = .none ∧ (e ∈ es → k = 140)))) := fun W B ao cp l es hP hF => (insert_ok W 0 0 ⟨#[]⟩ noE e B cp ao l es hP hF).mono (fun x w' q => q.any)
  have HRM : Hid (∀ (W : World) (B : Nat) (ao : Option Addr) (cp : Nat) (l : List ByteArray) (es : List En), Lp W 0 ⟨#[]⟩ noE B ao l es → Fit ao l.length cp → Calls Try.prog 23 #[.agg #[.int .i64 0, .int .i64 3, .int .i64 0, .int .i64 0, .string ⟨#[]⟩, .slice ao l.length cp], .agg #[.string e.key, .int .i64 e.page, .int .i64 e.slot]] W fun x w' => RemQ W w' x 0 0 ⟨#[]⟩ e l es) := fun W B ao cp l es hP hF => remove_ok W 0 0 ⟨#[]⟩ noE e B cp ao l es hP hF
  have HSM : Hid (∀ (W : World) (B B' cp cp' : Nat) (ao ao' : Option Addr) (l : List ByteArray), Strs W B ao l → Strs W B' ao' l → Calls Try.prog 24 #[.agg #[.int .i64 0, .int .i64 3, .int .i64 0, .int .i64 0, .string ⟨#[]⟩, .slice ao l.length cp], .agg #[.int .i64 0, .int .i64 3, .int .i64 0, .int .i64 0, .string ⟨#[]⟩, .slice ao' l.length cp']] W fun x w' => x = .returned (.bool true) ∧ Only (fun _ => False) W w') := fun W B B' cp cp' ao ao' l h1 h2 => by
    have := ysame_any W 0 3 0 0 0 3 0 0 ⟨#[]⟩ ⟨#[]⟩ B B' cp cp' ao ao' l l h1 h2
    rw [decide_eq_true ⟨rfl, rfl, rfl, rfl, rfl, rfl⟩] at this
    exact this
  clear hL hn
  unfold En.agg
  go_enter Try.func4, Try.ntmps4
  go_upto_region 1 with fail
  obtain ⟨W0, hW0⟩ : ∃ x, w.alloc (.cells #[.string e.key, .int .i64 e.page, .int .i64 e.slot] 23) = x := ⟨_, rfl⟩
  rw [hW0] at HV0 HO0 HGR ⊢
  clear hW0
  go_wp2_with fail
  refine HGR.out.mono ?_
  rintro x w1 ⟨l, es, B, ao, cp, rfl, hp, hf, h255, ho, _⟩
  have HP1 := hide hp
  have HF1 := hide hf
  have H255 := hide h255
  have HO1 := hide (o2 HO0.out ho)
  have HV1 := hide (HV0.out.more ho)
  clear hp hf h255 ho HGR HV0 HO0
  go_upto_region 2 with fail
  have HA := hide (onlyA w1 (.cells #[.int .i64 0, .int .i64 3, .int .i64 0, .int .i64 0, .string ⟨#[]⟩, .slice ao l.length cp] 38))
  have HG2 := hide (Pag.new w1 (.int .i64 0) (.int .i64 3) (.int .i64 0) (.int .i64 0) (.string ⟨#[]⟩) (.slice ao l.length cp))
  obtain ⟨b5, hb5⟩ : ∃ b, w1.heap.size = b := ⟨_, rfl⟩
  rw [hb5] at HG2 ⊢
  clear hb5
  obtain ⟨w2, hw2⟩ : ∃ x, w1.alloc (.cells #[.int .i64 0, .int .i64 3, .int .i64 0, .int .i64 0, .string ⟨#[]⟩, .slice ao l.length cp] 38) = x := ⟨_, rfl⟩
  rw [hw2] at HA HG2 ⊢
  clear hw2
  have HP2 := hide (HP1.out.more HA.out)
  have HV2 := hide (HV1.out.more HA.out)
  have HO2 := hide (o2 HO1.out HA.out)
  clear HA HP1 HO1 HV1
  obtain ⟨p0, p1, p2, p3, p4, p5, _⟩ := HG2.out
  go_wp2_with fail
  refine (HEN.out _ _ _ _ _ _ HP2.out).mono ?_
  rintro x w3 ⟨A, C, rfl, he, ho⟩
  obtain ⟨Be, hels, _⟩ := he.elsOf
  have HE3 := hide hels
  have HP3 := hide (HP2.out.more ho)
  have HV3 := hide (HV2.out.more ho)
  have HG3 := hide (HG2.out.more ho)
  have HO3 := hide (o2 HO2.out ho)
  have HLN : Hid (es.length ≤ 255) := by have := HP2.out.lf.len; have := H255.out; unfold Hid; omega
  clear he hels ho p0 p1 p2 p3 p4 p5 HP2 HG2 HO2 HV2
  obtain ⟨n, hn⟩ : ∃ n, es.length = n := ⟨_, rfl⟩
  rw [hn] at HLN ⊢
  have HNN := hide hn
  clear hn
  obtain ⟨p0, p1, p2, p3, p4, p5, _⟩ := HG3.out
  obtain ⟨d0, d1, d2, _⟩ := HV3.out
  go_wp2_with fail
  refine (HI.out _ _ _ _ _ _ HP3.out HF1.out).mono ?_
  rintro x w4 ⟨p, k, ⟨B5, ao5, cp5, rfl, hS5, hF5, ho, hB5⟩, hpk⟩
  have HE4 := hide (HE3.out.more ho)
  have HP4 := hide (HP3.out.more ho)
  have HV4 := hide (HV3.out.more ho)
  have HG4 := hide (HG3.out.more ho)
  have HO4 := hide (o2 HO3.out ho)
  have HS4 := hide (And.intro hS5 hF5)
  have HK := hide hpk
  clear ho p0 p1 p2 p3 p4 p5 d0 d1 d2 hS5 hF5 hB5 hpk HE3 HP3 HV3 HG3 HO3
  rcases HK.out with ⟨rfl, rfl, k1, k2, k3, k4⟩ | ⟨hk, -, -⟩
  · have HLI := hide (HP4.out.lf.ins k1 k2 k3)
    have HNI := hide k3
    have HLQ := hide k4
    have HIO : Hid ((insI l es e).take (plE es e) ++ (insI l es e).drop (plE es e + 1) = l) := ins_out l es e (by have := plE_le es e; have := HP4.out.lf.len; omega)
    have HPLQ : Hid (plE (insE es e) e = plE es e) := insE_pl HP4.out.lf.rise k3
    have HRI : Hid (Rise (insE es e)) := insE_rise HP4.out.lf.rise k3
    have HLE := hide (insE_len es e)
    have HATI := hide (insE_at es e)
    have HPLE := hide (plE_le es e)
    have HMI : Hid (e ∈ insE es e) := insE_mem.2 (.inl rfl)
    clear k1 k2 k3 k4 HK
    have hII : l.take (plE es e) ++ e.enc :: l.drop (plE es e) = insI l es e := rfl
    rw [hII] at HLI
    clear hII
    obtain ⟨P, hP⟩ : ∃ P, plE es e = P := ⟨_, rfl⟩
    obtain ⟨nl, hnl⟩ : ∃ nl, insI l es e = nl := ⟨_, rfl⟩
    obtain ⟨fs, hfs⟩ : ∃ fs, insE es e = fs := ⟨_, rfl⟩
    rw [hP] at HIO HPLQ HATI HPLE
    rw [hnl] at HS4 HLQ HLI HIO ⊢
    rw [hfs] at HLI HPLQ HRI HLE HATI HMI
    clear hP hnl hfs
    simp only [] at HS4
    simp only []
    go_upto_region 6 with fail
    have HA := hide (onlyA w4 (.cells #[.int .i64 0, .int .i64 3, .int .i64 0, .int .i64 0, .string ⟨#[]⟩, .slice ao5 nl.length cp5] 38))
    have HQ5 := hide (Pag.new w4 (.int .i64 0) (.int .i64 3) (.int .i64 0) (.int .i64 0) (.string ⟨#[]⟩) (.slice ao5 nl.length cp5))
    obtain ⟨b8, hb8⟩ : ∃ b, w4.heap.size = b := ⟨_, rfl⟩
    rw [hb8] at HQ5 ⊢
    clear hb8
    obtain ⟨w5, hw5⟩ : ∃ x, w4.alloc (.cells #[.int .i64 0, .int .i64 3, .int .i64 0, .int .i64 0, .string ⟨#[]⟩, .slice ao5 nl.length cp5] 38) = x := ⟨_, rfl⟩
    rw [hw5] at HA HQ5 ⊢
    clear hw5
    have HLQ5 : Hid (Lp w5 0 ⟨#[]⟩ noE B5 ao5 nl fs) := ⟨HS4.out.1.more HA.out, by decide, .inl ⟨rfl, rfl⟩, HLI.out, by have := HLQ.out; omega⟩
    have HFQ : Hid (Fit ao5 nl.length cp5) := HS4.out.2
    have HE5 := hide (HE4.out.more HA.out)
    have HP5 := hide (HP4.out.more HA.out)
    have HV5 := hide (HV4.out.more HA.out)
    have HG5 := hide (HG4.out.more HA.out)
    have HO5 := hide (o2 HO4.out HA.out)
    clear HA HE4 HP4 HV4 HG4 HO4 HS4 HLQ HLI
    obtain ⟨p0, p1, p2, p3, p4, p5, _⟩ := HQ5.out
    go_wp2_with fail
    refine (HEN.out _ _ _ _ _ _ HLQ5.out).mono ?_
    rintro x w6 ⟨A6, C6, rfl, he, ho⟩
    obtain ⟨Bf, hfl, _⟩ := he.elsOf
    have HX6 := hide hfl
    have HE6 := hide (HE5.out.more ho)
    have HP6 := hide (HP5.out.more ho)
    have HV6 := hide (HV5.out.more ho)
    have HG6 := hide (HG5.out.more ho)
    have HQ6 := hide (HQ5.out.more ho)
    have HLQ6 := hide (HLQ5.out.more ho)
    have HO6 := hide (o2 HO5.out ho)
    clear he hfl ho p0 p1 p2 p3 p4 p5 HE5 HP5 HV5 HG5 HQ5 HLQ5 HO5
    obtain ⟨m, hm⟩ : ∃ m, fs.length = m := ⟨_, rfl⟩
    rw [hm] at HLE ⊢
    have HMM := hide hm
    clear hm
    have hmn : (n : Int) + 1 = (m : Int) := by have := HLE.out; have := HNN.out; omega
    have hwm : IntKind.i64.wrap (m : Int) = (m : Int) := by have := HLN.out; rw [IntKind.wrap_i64]; omega
    go_upto_region 13 with fail
    clear hmn hwm
    go_loopw [12, 13] (fun t i wr => ∃ (j : Nat) (s : Nat), j ≤ m ∧ i = .int .i64 (j : Int) ∧ t = .int .i64 (s : Int) ∧ Hid (s = if j ≤ P then j else j - 1) ∧ Hid (Only (fun _ => False) w6 wr)) (fun _ i _ => m - (intOf i).toNat)
    case atStart => exact ⟨0, 0, Nat.zero_le _, rfl, rfl, hide (by simp), hide (Only.refl _ _)⟩
    case round =>
      obtain ⟨j, s, hj, rfl, rfl, HSJ, HW⟩ := hrel
      have hm256 : m ≤ 256 := by have := HLE.out; have := HNN.out; have := HLN.out; omega
      by_cases hlt : j < m
      · have hlk : (j : Int) < (m : Int) := by omega
        have hlk2 : ¬ (m : Int) ≤ (j : Int) := by omega
        have hjf : j < fs.length := by have := HMM.out; omega
        obtain ⟨of, rfl, hbf⟩ := (HX6.out.more HW.out).of j hjf
        have HB1 := hide hbf
        clear hbf
        have HLTJ : Hid (∀ i (hi : i + 1 = j), (fs[i]'(by omega)).lt fs[j]) := fun i hi => List.pairwise_iff_getElem.1 HRI.out i j (by omega) hjf (by omega)
        obtain ⟨g, hg⟩ : ∃ g, fs[j] = g := ⟨_, rfl⟩
        have HATJ := hide (HATI.out j hjf)
        rw [hg] at HB1 HLTJ HATJ
        clear hg
        go_upto_region 15 with fail
        go_cut [73] (fun t wx => t = .bool false ∧ Hid (Only (fun _ => False) wr wx))
        case first =>
          by_cases hj0 : j = 0
          · subst hj0
            -- {r15a
            refine wp_region_noPanic ?_
            refine wp_region_held_drew (S := fun W => Only (fun _ => False) wr W) (by kernel_rfl) (Only.drew _ _) (fun hHeld => ?_)
            refine wpAnyH_take (i := 0) (oi := { dst := some 59, op := Op.move (Operand.tmp 13), type := 3, pos := "law.go:129", after := #[], guard := none }) (v := .int .i64 0) rfl (by kernel_rfl) (by kernel_rfl) (by kernel_rfl) (fun _ _ _ h => h) (Or.inl ⟨by rfl, fun w' hSw => by clear hSw; go_simp⟩) (by assumption) ?_
            simp only [Act.put, List.setIfInBounds_toArray, List.set_cons_zero, List.set_cons_succ]
            refine wpAnyH_take (i := 1) (oi := { dst := some 60, op := Op.binOp BinOp.gtr 3 (Operand.tmp 59) (Operand.const (Value.int IntKind.i64 0)) 3, type := 4, pos := "law.go:129", after := #[{ on := 0, ground := Ground.data }], guard := none }) (v := .bool false) rfl (by kernel_rfl) (by kernel_rfl) (by kernel_rfl) (fun _ _ _ h => h) (Or.inl ⟨by rfl, fun w' hSw => by clear hSw; go_simp⟩) (by assumption) ?_
            simp only [Act.put, List.setIfInBounds_toArray, List.set_cons_zero, List.set_cons_succ]
            refine wpAnyH_take (i := 2) (oi := { dst := some 61, op := Op.move (Operand.tmp 60), type := 4, pos := "law.go:129", after := #[{ on := 1, ground := Ground.data }], guard := none }) (v := .bool false) rfl (by kernel_rfl) (by kernel_rfl) (by kernel_rfl) (fun _ _ _ h => h) (Or.inl ⟨by rfl, fun w' hSw => by clear hSw; go_simp⟩) (by assumption) ?_
            simp only [Act.put, List.setIfInBounds_toArray, List.set_cons_zero, List.set_cons_succ]
            refine wpAnyH_take (i := 3) (oi := { dst := some 62, op := Op.move (Operand.tmp 10), type := 35, pos := "law.go:129", after := #[{ on := 2, ground := Ground.guard }], guard := some (2, true) }) (v := undef) rfl (by kernel_rfl) (by kernel_rfl) (by kernel_rfl) (fun _ _ _ h => h) (Or.inr ⟨by rfl, rfl⟩) (by assumption) ?_
            simp only [Act.put, List.setIfInBounds_toArray, List.set_cons_zero, List.set_cons_succ]
            refine wpAnyH_take (i := 4) (oi := { dst := some 63, op := Op.move (Operand.tmp 13), type := 3, pos := "law.go:129", after := #[{ on := 2, ground := Ground.guard }], guard := some (2, true) }) (v := undef) rfl (by kernel_rfl) (by kernel_rfl) (by kernel_rfl) (fun _ _ _ h => h) (Or.inr ⟨by rfl, rfl⟩) (by assumption) ?_
            simp only [Act.put, List.setIfInBounds_toArray, List.set_cons_zero, List.set_cons_succ]
            refine wpAnyH_take (i := 8) (oi := { dst := some 67, op := Op.move (Operand.tmp 10), type := 35, pos := "law.go:129", after := #[{ on := 2, ground := Ground.guard }], guard := some (2, true) }) (v := undef) rfl (by kernel_rfl) (by kernel_rfl) (by kernel_rfl) (fun _ _ _ h => h) (Or.inr ⟨by rfl, rfl⟩) (by assumption) ?_
            simp only [Act.put, List.setIfInBounds_toArray, List.set_cons_zero, List.set_cons_succ]
            refine wpAnyH_take (i := 9) (oi := { dst := some 68, op := Op.move (Operand.tmp 13), type := 3, pos := "law.go:129", after := #[{ on := 2, ground := Ground.guard }], guard := some (2, true) }) (v := undef) rfl (by kernel_rfl) (by kernel_rfl) (by kernel_rfl) (fun _ _ _ h => h) (Or.inr ⟨by rfl, rfl⟩) (by assumption) ?_
            simp only [Act.put, List.setIfInBounds_toArray, List.set_cons_zero, List.set_cons_succ]
            refine wpAnyH_take (i := 5) (oi := { dst := some 64, op := Op.binOp BinOp.sub 3 (Operand.tmp 63) (Operand.const (Value.int IntKind.i64 1)) 3, type := 3, pos := "law.go:129", after := #[{ on := 4, ground := Ground.data }, { on := 2, ground := Ground.guard }], guard := some (2, true) }) (v := undef) rfl (by kernel_rfl) (by kernel_rfl) (by kernel_rfl) (fun _ _ _ h => h) (Or.inr ⟨by rfl, rfl⟩) (by assumption) ?_
            simp only [Act.put, List.setIfInBounds_toArray, List.set_cons_zero, List.set_cons_succ]
            refine wpAnyH_take (i := 10) (oi := { dst := some 69, op := Op.indexAddr 35 (Operand.tmp 67) (Operand.tmp 68), type := 0, pos := "law.go:129", after := #[{ on := 8, ground := Ground.data }, { on := 9, ground := Ground.data }, { on := 2, ground := Ground.guard }], guard := some (2, true) }) (v := undef) rfl (by kernel_rfl) (by kernel_rfl) (by kernel_rfl) (fun _ _ _ h => h) (Or.inr ⟨by rfl, rfl⟩) (by assumption) ?_
            simp only [Act.put, List.setIfInBounds_toArray, List.set_cons_zero, List.set_cons_succ]
            refine wpAnyH_take (i := 6) (oi := { dst := some 65, op := Op.indexAddr 35 (Operand.tmp 62) (Operand.tmp 64), type := 0, pos := "law.go:129", after := #[{ on := 3, ground := Ground.data }, { on := 5, ground := Ground.data }, { on := 2, ground := Ground.guard }], guard := some (2, true) }) (v := undef) rfl (by kernel_rfl) (by kernel_rfl) (by kernel_rfl) (fun _ _ _ h => h) (Or.inr ⟨by rfl, rfl⟩) (by assumption) ?_
            simp only [Act.put, List.setIfInBounds_toArray, List.set_cons_zero, List.set_cons_succ]
            refine wpAnyH_take (i := 11) (oi := { dst := some 70, op := Op.load 23 (Operand.tmp 69), type := 23, pos := "law.go:129", after := #[{ on := 10, ground := Ground.data }, { on := 2, ground := Ground.guard }], guard := some (2, true) }) (v := undef) rfl (by kernel_rfl) (by kernel_rfl) (by kernel_rfl) (fun _ _ _ h => h) (Or.inr ⟨by rfl, rfl⟩) (by assumption) ?_
            simp only [Act.put, List.setIfInBounds_toArray, List.set_cons_zero, List.set_cons_succ]
            refine wpAnyH_take (i := 7) (oi := { dst := some 66, op := Op.load 23 (Operand.tmp 65), type := 23, pos := "law.go:129", after := #[{ on := 6, ground := Ground.data }, { on := 2, ground := Ground.guard }], guard := some (2, true) }) (v := undef) rfl (by kernel_rfl) (by kernel_rfl) (by kernel_rfl) (fun _ _ _ h => h) (Or.inr ⟨by rfl, rfl⟩) (by assumption) ?_
            simp only [Act.put, List.setIfInBounds_toArray, List.set_cons_zero, List.set_cons_succ]
            refine wpAnyH_take (i := 12) (oi := { dst := some 71, op := Op.call { callee := Callee.value (Operand.func 17), args := #[Operand.tmp 66, Operand.tmp 70], argTypes := #[23, 23] }, type := 3, pos := "law.go:129", after := #[{ on := 7, ground := Ground.data }, { on := 11, ground := Ground.data }, { on := 2, ground := Ground.chain }, { on := 2, ground := Ground.guard }], guard := some (2, true) }) (v := undef) rfl (by kernel_rfl) (by kernel_rfl) (by kernel_rfl) (fun _ _ _ h => h) (Or.inr ⟨by rfl, rfl⟩) (by assumption) ?_
            simp only [Act.put, List.setIfInBounds_toArray, List.set_cons_zero, List.set_cons_succ]
            refine wpAnyH_take (i := 13) (oi := { dst := some 72, op := Op.binOp BinOp.neq 3 (Operand.tmp 71) (Operand.const (Value.int IntKind.i64 (-1))) 3, type := 4, pos := "law.go:129", after := #[{ on := 12, ground := Ground.data }, { on := 2, ground := Ground.guard }], guard := some (2, true) }) (v := undef) rfl (by kernel_rfl) (by kernel_rfl) (by kernel_rfl) (fun _ _ _ h => h) (Or.inr ⟨by rfl, rfl⟩) (by assumption) ?_
            simp only [Act.put, List.setIfInBounds_toArray, List.set_cons_zero, List.set_cons_succ]
            refine wpAnyH_take (i := 14) (oi := { dst := some 73, op := Op.pick (Operand.tmp 61) (Operand.tmp 72) (Operand.const (Value.bool false)), type := 4, pos := "law.go:129", after := #[{ on := 2, ground := Ground.data }, { on := 13, ground := Ground.data }], guard := none }) (v := .bool false) rfl (by kernel_rfl) (by kernel_rfl) (by kernel_rfl) (fun _ _ _ h => h) (Or.inl ⟨by rfl, fun w' hSw => by clear hSw; go_simp⟩) (by assumption) ?_
            simp only [Act.put, List.setIfInBounds_toArray, List.set_cons_zero, List.set_cons_succ]
            refine wpAnyH_done (by kernel_rfl) ?_ _
            refine NoPanic.normal ?_
            -- r15a}
            go_wp2_with fail
            go_meet
            exact ⟨rfl, hide (Only.drew _ _)⟩
          · obtain ⟨i, hi⟩ : ∃ i, i + 1 = j := ⟨j - 1, by omega⟩
            have hif : i < fs.length := by omega
            obtain ⟨of2, hof2, hbi⟩ := (HX6.out.more HW.out).of i hif
            injection hof2 with hof3
            injection hof3 with _ hof4
            subst hof4
            have hlt2 := HLTJ.out i hi
            have HBI := hide hbi
            obtain ⟨f, hf⟩ : ∃ f, fs[i] = f := ⟨_, rfl⟩
            rw [hf] at HBI hlt2
            have HCM : Hid (∀ W, Calls Try.prog 17 #[.agg #[.string f.key, .int .i64 f.page, .int .i64 f.slot], .agg #[.string g.key, .int .i64 g.page, .int .i64 g.slot]] W fun x w' => x = .returned (.int .i64 (-1)) ∧ Only (fun _ => False) W w') := fun W => by
              have := compare_any f g W
              rw [show cmpE f g = -1 by unfold cmpE; rw [if_neg (En.lt_ne hlt2), if_pos hlt2]] at this
              exact this
            have hj1 : (0 : Int) < (j : Int) := by omega
            have hj2 : 0 < j := by omega
            have hji : (j : Int) - 1 = (i : Int) := by omega
            have hwi : IntKind.i64.wrap (i : Int) = (i : Int) := by rw [IntKind.wrap_i64]; omega
            have hb1 : ¬ (m : Int) ≤ (i : Int) := by omega
            have hb2 : (i : Int) < (m : Int) := by omega
            clear hbi hf hlt2 hj0 hi hif
            -- {r15b
            refine wp_region_noPanic ?_
            refine wp_region_held_drew (S := fun W => Only (fun _ => False) wr W) (by kernel_rfl) (Only.drew _ _) (fun hHeld => ?_)
            refine wpAnyH_take (i := 0) (oi := { dst := some 59, op := Op.move (Operand.tmp 13), type := 3, pos := "law.go:129", after := #[], guard := none }) (v := .int .i64 (j : Int)) rfl (by kernel_rfl) (by kernel_rfl) (by kernel_rfl) (fun _ _ _ h => h) (Or.inl ⟨by rfl, fun w' hSw => by clear hSw; go_simp⟩) (by assumption) ?_
            simp only [Act.put, List.setIfInBounds_toArray, List.set_cons_zero, List.set_cons_succ]
            refine wpAnyH_take (i := 1) (oi := { dst := some 60, op := Op.binOp BinOp.gtr 3 (Operand.tmp 59) (Operand.const (Value.int IntKind.i64 0)) 3, type := 4, pos := "law.go:129", after := #[{ on := 0, ground := Ground.data }], guard := none }) (v := .bool true) rfl (by kernel_rfl) (by kernel_rfl) (by kernel_rfl) (fun _ _ _ h => h) (Or.inl ⟨by rfl, fun w' hSw => by clear hSw; go_simp⟩) (by assumption) ?_
            simp only [Act.put, List.setIfInBounds_toArray, List.set_cons_zero, List.set_cons_succ]
            refine wpAnyH_take (i := 2) (oi := { dst := some 61, op := Op.move (Operand.tmp 60), type := 4, pos := "law.go:129", after := #[{ on := 1, ground := Ground.data }], guard := none }) (v := .bool true) rfl (by kernel_rfl) (by kernel_rfl) (by kernel_rfl) (fun _ _ _ h => h) (Or.inl ⟨by rfl, fun w' hSw => by clear hSw; go_simp⟩) (by assumption) ?_
            simp only [Act.put, List.setIfInBounds_toArray, List.set_cons_zero, List.set_cons_succ]
            refine wpAnyH_take (i := 3) (oi := { dst := some 62, op := Op.move (Operand.tmp 10), type := 35, pos := "law.go:129", after := #[{ on := 2, ground := Ground.guard }], guard := some (2, true) }) (v := .slice (some ⟨Bf, of, none⟩) m C6) rfl (by kernel_rfl) (by kernel_rfl) (by kernel_rfl) (fun _ _ _ h => h) (Or.inl ⟨by rfl, fun w' hSw => by clear hSw; go_simp⟩) (by assumption) ?_
            simp only [Act.put, List.setIfInBounds_toArray, List.set_cons_zero, List.set_cons_succ]
            refine wpAnyH_take (i := 4) (oi := { dst := some 63, op := Op.move (Operand.tmp 13), type := 3, pos := "law.go:129", after := #[{ on := 2, ground := Ground.guard }], guard := some (2, true) }) (v := .int .i64 (j : Int)) rfl (by kernel_rfl) (by kernel_rfl) (by kernel_rfl) (fun _ _ _ h => h) (Or.inl ⟨by rfl, fun w' hSw => by clear hSw; go_simp⟩) (by assumption) ?_
            simp only [Act.put, List.setIfInBounds_toArray, List.set_cons_zero, List.set_cons_succ]
            refine wpAnyH_take (i := 8) (oi := { dst := some 67, op := Op.move (Operand.tmp 10), type := 35, pos := "law.go:129", after := #[{ on := 2, ground := Ground.guard }], guard := some (2, true) }) (v := .slice (some ⟨Bf, of, none⟩) m C6) rfl (by kernel_rfl) (by kernel_rfl) (by kernel_rfl) (fun _ _ _ h => h) (Or.inl ⟨by rfl, fun w' hSw => by clear hSw; go_simp⟩) (by assumption) ?_
            simp only [Act.put, List.setIfInBounds_toArray, List.set_cons_zero, List.set_cons_succ]
            refine wpAnyH_take (i := 9) (oi := { dst := some 68, op := Op.move (Operand.tmp 13), type := 3, pos := "law.go:129", after := #[{ on := 2, ground := Ground.guard }], guard := some (2, true) }) (v := .int .i64 (j : Int)) rfl (by kernel_rfl) (by kernel_rfl) (by kernel_rfl) (fun _ _ _ h => h) (Or.inl ⟨by rfl, fun w' hSw => by clear hSw; go_simp⟩) (by assumption) ?_
            simp only [Act.put, List.setIfInBounds_toArray, List.set_cons_zero, List.set_cons_succ]
            refine wpAnyH_take (i := 5) (oi := { dst := some 64, op := Op.binOp BinOp.sub 3 (Operand.tmp 63) (Operand.const (Value.int IntKind.i64 1)) 3, type := 3, pos := "law.go:129", after := #[{ on := 4, ground := Ground.data }, { on := 2, ground := Ground.guard }], guard := some (2, true) }) (v := .int .i64 (i : Int)) rfl (by kernel_rfl) (by kernel_rfl) (by kernel_rfl) (fun _ _ _ h => h) (Or.inl ⟨by rfl, fun w' hSw => by clear hSw; go_simp⟩) (by assumption) ?_
            simp only [Act.put, List.setIfInBounds_toArray, List.set_cons_zero, List.set_cons_succ]
            refine wpAnyH_take (i := 10) (oi := { dst := some 69, op := Op.indexAddr 35 (Operand.tmp 67) (Operand.tmp 68), type := 0, pos := "law.go:129", after := #[{ on := 8, ground := Ground.data }, { on := 9, ground := Ground.data }, { on := 2, ground := Ground.guard }], guard := some (2, true) }) (v := .pointer (some ⟨Bf, of + j * 3, none⟩)) rfl (by kernel_rfl) (by kernel_rfl) (by kernel_rfl) (fun _ _ _ h => h) (Or.inl ⟨by rfl, fun w' hSw => by clear hSw; go_simp⟩) (by assumption) ?_
            simp only [Act.put, List.setIfInBounds_toArray, List.set_cons_zero, List.set_cons_succ]
            refine wpAnyH_take (i := 6) (oi := { dst := some 65, op := Op.indexAddr 35 (Operand.tmp 62) (Operand.tmp 64), type := 0, pos := "law.go:129", after := #[{ on := 3, ground := Ground.data }, { on := 5, ground := Ground.data }, { on := 2, ground := Ground.guard }], guard := some (2, true) }) (v := .pointer (some ⟨Bf, of + i * 3, none⟩)) rfl (by kernel_rfl) (by kernel_rfl) (by kernel_rfl) (fun _ _ _ h => h) (Or.inl ⟨by rfl, fun w' hSw => by clear hSw; go_simp⟩) (by assumption) ?_
            simp only [Act.put, List.setIfInBounds_toArray, List.set_cons_zero, List.set_cons_succ]
            refine wpAnyH_take (i := 11) (oi := { dst := some 70, op := Op.load 23 (Operand.tmp 69), type := 23, pos := "law.go:129", after := #[{ on := 10, ground := Ground.data }, { on := 2, ground := Ground.guard }], guard := some (2, true) }) (v := .agg #[.string g.key, .int .i64 g.page, .int .i64 g.slot]) rfl (by kernel_rfl) (by kernel_rfl) (by kernel_rfl) (fun _ _ _ h => h) (yieldsIf_load_eb (by rfl) _ rfl rfl (fun W hW => HB1.out.more hW)) (by assumption) ?_
            simp only [Act.put, List.setIfInBounds_toArray, List.set_cons_zero, List.set_cons_succ]
            refine wpAnyH_take (i := 7) (oi := { dst := some 66, op := Op.load 23 (Operand.tmp 65), type := 23, pos := "law.go:129", after := #[{ on := 6, ground := Ground.data }, { on := 2, ground := Ground.guard }], guard := some (2, true) }) (v := .agg #[.string f.key, .int .i64 f.page, .int .i64 f.slot]) rfl (by kernel_rfl) (by kernel_rfl) (by kernel_rfl) (fun _ _ _ h => h) (yieldsIf_load_eb (by rfl) _ rfl rfl (fun W hW => HBI.out.more hW)) (by assumption) ?_
            simp only [Act.put, List.setIfInBounds_toArray, List.set_cons_zero, List.set_cons_succ]
            refine wpAnyH_ready (rs := [12]) (by kernel_rfl) (by simp) ?_
            refine AllReadyH.cons (o := { dst := some 71, op := Op.call { callee := Callee.value (Operand.func 17), args := #[Operand.tmp 66, Operand.tmp 70], argTypes := #[23, 23] }, type := 3, pos := "law.go:129", after := #[{ on := 7, ground := Ground.data }, { on := 11, ground := Ground.data }, { on := 2, ground := Ground.chain }, { on := 2, ground := Ground.guard }], guard := some (2, true) }) rfl (fun K hK => ?_) (AllReadyH.nil)
            go_simp
            refine (HCM.out _).mono ?_
            rintro x x1 ⟨rfl, hx1⟩
            have HX1 := hide (o2 hHeld hx1)
            clear hx1
            refine hK.out _ _ (HX1.out) (fun hHeld => ?_)
            clear hK K
            try simp only [Act.put, List.setIfInBounds_toArray, List.set_cons_zero, List.set_cons_succ]
            refine wpAnyH_take (i := 13) (oi := { dst := some 72, op := Op.binOp BinOp.neq 3 (Operand.tmp 71) (Operand.const (Value.int IntKind.i64 (-1))) 3, type := 4, pos := "law.go:129", after := #[{ on := 12, ground := Ground.data }, { on := 2, ground := Ground.guard }], guard := some (2, true) }) (v := .bool false) rfl (by kernel_rfl) (by kernel_rfl) (by kernel_rfl) (fun _ _ _ h => h) (Or.inl ⟨by rfl, fun w' hSw => by clear hSw; go_simp⟩) (by assumption) ?_
            simp only [Act.put, List.setIfInBounds_toArray, List.set_cons_zero, List.set_cons_succ]
            refine wpAnyH_take (i := 14) (oi := { dst := some 73, op := Op.pick (Operand.tmp 61) (Operand.tmp 72) (Operand.const (Value.bool false)), type := 4, pos := "law.go:129", after := #[{ on := 2, ground := Ground.data }, { on := 13, ground := Ground.data }], guard := none }) (v := .bool false) rfl (by kernel_rfl) (by kernel_rfl) (by kernel_rfl) (fun _ _ _ h => h) (Or.inl ⟨by rfl, fun w' hSw => by clear hSw; go_simp⟩) (by assumption) ?_
            simp only [Act.put, List.setIfInBounds_toArray, List.set_cons_zero, List.set_cons_succ]
            refine wpAnyH_done (by kernel_rfl) ?_ _
            refine NoPanic.normal ?_
            -- r15b}
            go_wp2_with fail
            go_meet
            exact ⟨rfl, HX1⟩
        case rest =>
          obtain ⟨rfl, HC⟩ := hcut
          have HW2 := hide (o2 HW.out HC.out)
          have HB2 := hide (HB1.out.more HC.out)
          have HV7 := hide (HV6.out.more HW2.out)
          clear HB1 HC HLTJ
          have hq := eqE_run g e
          by_cases hjP : j = P
          · have hge : g = e := by
              rcases HATJ.out with ⟨h1, _⟩ | ⟨_, h⟩ | ⟨h1, _⟩
              · omega
              · exact h
              · omega
            rw [decide_eq_true hge] at hq
            have HJP := hide hjP
            clear hge HATJ hjP
            go_upto_region 17 with fail
            -- {r17a
            refine wp_region_noPanic ?_
            refine wp_region_held_drew (S := fun W => Only (fun _ => False) wc W) (by kernel_rfl) (Only.drew _ _) (fun hHeld => ?_)
            refine wpAnyH_take (i := 0) (oi := { dst := some 74, op := Op.move (Operand.tmp 10), type := 35, pos := "law.go:132", after := #[], guard := none }) (v := .slice (some ⟨Bf, of, none⟩) m C6) rfl (by kernel_rfl) (by kernel_rfl) (by kernel_rfl) (fun _ _ _ h => h) (Or.inl ⟨by rfl, fun w' hSw => by clear hSw; go_simp⟩) (by assumption) ?_
            simp only [Act.put, List.setIfInBounds_toArray, List.set_cons_zero, List.set_cons_succ]
            refine wpAnyH_take (i := 1) (oi := { dst := some 75, op := Op.move (Operand.tmp 13), type := 3, pos := "law.go:132", after := #[], guard := none }) (v := .int .i64 (j : Int)) rfl (by kernel_rfl) (by kernel_rfl) (by kernel_rfl) (fun _ _ _ h => h) (Or.inl ⟨by rfl, fun w' hSw => by clear hSw; go_simp⟩) (by assumption) ?_
            simp only [Act.put, List.setIfInBounds_toArray, List.set_cons_zero, List.set_cons_succ]
            refine wpAnyH_take (i := 4) (oi := { dst := some 78, op := Op.load 23 (Operand.tmp 3), type := 23, pos := "law.go:132", after := #[], guard := none }) (v := .agg #[.string e.key, .int .i64 e.page, .int .i64 e.slot]) rfl (by kernel_rfl) (by kernel_rfl) (by kernel_rfl) (fun _ _ _ h => h) (yieldsIf_load_ev (by rfl) _ rfl rfl (fun W hW => HV7.out.more hW)) (by assumption) ?_
            simp only [Act.put, List.setIfInBounds_toArray, List.set_cons_zero, List.set_cons_succ]
            refine wpAnyH_take (i := 2) (oi := { dst := some 76, op := Op.indexAddr 35 (Operand.tmp 74) (Operand.tmp 75), type := 0, pos := "law.go:132", after := #[{ on := 0, ground := Ground.data }, { on := 1, ground := Ground.data }], guard := none }) (v := .pointer (some ⟨Bf, of + j * 3, none⟩)) rfl (by kernel_rfl) (by kernel_rfl) (by kernel_rfl) (fun _ _ _ h => h) (Or.inl ⟨by rfl, fun w' hSw => by clear hSw; go_simp⟩) (by assumption) ?_
            simp only [Act.put, List.setIfInBounds_toArray, List.set_cons_zero, List.set_cons_succ]
            refine wpAnyH_take (i := 3) (oi := { dst := some 77, op := Op.load 23 (Operand.tmp 76), type := 23, pos := "law.go:132", after := #[{ on := 2, ground := Ground.data }], guard := none }) (v := .agg #[.string g.key, .int .i64 g.page, .int .i64 g.slot]) rfl (by kernel_rfl) (by kernel_rfl) (by kernel_rfl) (fun _ _ _ h => h) (yieldsIf_load_eb (by rfl) _ rfl rfl (fun W hW => HB2.out.more hW)) (by assumption) ?_
            simp only [Act.put, List.setIfInBounds_toArray, List.set_cons_zero, List.set_cons_succ]
            refine wpAnyH_take (i := 5) (oi := { dst := some 79, op := Op.binOp BinOp.eql 23 (Operand.tmp 77) (Operand.tmp 78) 23, type := 4, pos := "law.go:132", after := #[{ on := 3, ground := Ground.data }, { on := 4, ground := Ground.data }], guard := none }) (v := .bool true) rfl (by kernel_rfl) (by kernel_rfl) (by kernel_rfl) (fun _ _ _ h => h) (Or.inl ⟨by rfl, fun w' hSw => by clear hSw; go_simp⟩) (by assumption) ?_
            simp only [Act.put, List.setIfInBounds_toArray, List.set_cons_zero, List.set_cons_succ]
            refine wpAnyH_done (by kernel_rfl) ?_ _
            refine NoPanic.normal ?_
            -- r17a}
            clear hq
            go_wp2_with fail
            go_roundw
            case rel => exact ⟨j + 1, s, by omega, by go_num, rfl, hide (by have h1 := HSJ.out; have h2 := HJP.out; rw [h1, if_pos (show j ≤ P by omega), if_neg (show ¬ j + 1 ≤ P by omega)]; omega), hide (o2 HW2.out (Only.drew _ _))⟩
            case measure => simp [intOf]; omega
          · have HST : Hid (∃ h : s < es.length, es[s] = g) := by
              rcases HATJ.out with ⟨h1, h2, h3⟩ | ⟨h1, _⟩ | ⟨h1, h2, h3⟩
              · have hs : s = j := by rw [HSJ.out, if_pos (by omega)]
                subst hs
                exact ⟨h2, h3.symm⟩
              · exact absurd h1 hjP
              · have hs : s = j - 1 := by rw [HSJ.out, if_neg (by omega)]
                subst hs
                exact ⟨h2, h3.symm⟩
            obtain ⟨hse, hsg⟩ := HST.out
            have hge : ¬ g = e := fun h => HNI.out (by rw [← h, ← hsg]; exact List.getElem_mem _)
            rw [decide_eq_false hge] at hq
            obtain ⟨oe, rfl, hbe⟩ := (HE6.out.more HW2.out).of s hse
            rw [hsg] at hbe
            have HBE := hide hbe
            have HSL : Hid (s + 1 = if j + 1 ≤ P then j + 1 else j + 1 - 1) := by
              unfold Hid
              rw [HSJ.out]
              by_cases h1 : j < P
              · rw [if_pos (by omega), if_pos (by omega)]
              · rw [if_neg (by omega), if_neg (by omega)]
                omega
            have hsn : s < n := by have := HNN.out; omega
            have hn255 : n ≤ 255 := HLN.out
            clear hge hbe hsg HST HATJ hse
            go_upto_region 17 with fail
            -- {r17b
            refine wp_region_noPanic ?_
            refine wp_region_held_drew (S := fun W => Only (fun _ => False) wc W) (by kernel_rfl) (Only.drew _ _) (fun hHeld => ?_)
            refine wpAnyH_take (i := 0) (oi := { dst := some 74, op := Op.move (Operand.tmp 10), type := 35, pos := "law.go:132", after := #[], guard := none }) (v := .slice (some ⟨Bf, of, none⟩) m C6) rfl (by kernel_rfl) (by kernel_rfl) (by kernel_rfl) (fun _ _ _ h => h) (Or.inl ⟨by rfl, fun w' hSw => by clear hSw; go_simp⟩) (by assumption) ?_
            simp only [Act.put, List.setIfInBounds_toArray, List.set_cons_zero, List.set_cons_succ]
            refine wpAnyH_take (i := 1) (oi := { dst := some 75, op := Op.move (Operand.tmp 13), type := 3, pos := "law.go:132", after := #[], guard := none }) (v := .int .i64 (j : Int)) rfl (by kernel_rfl) (by kernel_rfl) (by kernel_rfl) (fun _ _ _ h => h) (Or.inl ⟨by rfl, fun w' hSw => by clear hSw; go_simp⟩) (by assumption) ?_
            simp only [Act.put, List.setIfInBounds_toArray, List.set_cons_zero, List.set_cons_succ]
            refine wpAnyH_take (i := 4) (oi := { dst := some 78, op := Op.load 23 (Operand.tmp 3), type := 23, pos := "law.go:132", after := #[], guard := none }) (v := .agg #[.string e.key, .int .i64 e.page, .int .i64 e.slot]) rfl (by kernel_rfl) (by kernel_rfl) (by kernel_rfl) (fun _ _ _ h => h) (yieldsIf_load_ev (by rfl) _ rfl rfl (fun W hW => HV7.out.more hW)) (by assumption) ?_
            simp only [Act.put, List.setIfInBounds_toArray, List.set_cons_zero, List.set_cons_succ]
            refine wpAnyH_take (i := 2) (oi := { dst := some 76, op := Op.indexAddr 35 (Operand.tmp 74) (Operand.tmp 75), type := 0, pos := "law.go:132", after := #[{ on := 0, ground := Ground.data }, { on := 1, ground := Ground.data }], guard := none }) (v := .pointer (some ⟨Bf, of + j * 3, none⟩)) rfl (by kernel_rfl) (by kernel_rfl) (by kernel_rfl) (fun _ _ _ h => h) (Or.inl ⟨by rfl, fun w' hSw => by clear hSw; go_simp⟩) (by assumption) ?_
            simp only [Act.put, List.setIfInBounds_toArray, List.set_cons_zero, List.set_cons_succ]
            refine wpAnyH_take (i := 3) (oi := { dst := some 77, op := Op.load 23 (Operand.tmp 76), type := 23, pos := "law.go:132", after := #[{ on := 2, ground := Ground.data }], guard := none }) (v := .agg #[.string g.key, .int .i64 g.page, .int .i64 g.slot]) rfl (by kernel_rfl) (by kernel_rfl) (by kernel_rfl) (fun _ _ _ h => h) (yieldsIf_load_eb (by rfl) _ rfl rfl (fun W hW => HB2.out.more hW)) (by assumption) ?_
            simp only [Act.put, List.setIfInBounds_toArray, List.set_cons_zero, List.set_cons_succ]
            refine wpAnyH_take (i := 5) (oi := { dst := some 79, op := Op.binOp BinOp.eql 23 (Operand.tmp 77) (Operand.tmp 78) 23, type := 4, pos := "law.go:132", after := #[{ on := 3, ground := Ground.data }, { on := 4, ground := Ground.data }], guard := none }) (v := .bool false) rfl (by kernel_rfl) (by kernel_rfl) (by kernel_rfl) (fun _ _ _ h => h) (Or.inl ⟨by rfl, fun w' hSw => by clear hSw; go_simp⟩) (by assumption) ?_
            simp only [Act.put, List.setIfInBounds_toArray, List.set_cons_zero, List.set_cons_succ]
            refine wpAnyH_done (by kernel_rfl) ?_ _
            refine NoPanic.normal ?_
            -- r17b}
            clear hq
            have HBE2 := hide (HBE.out.more (Only.drew _ wc))
            have HB3 := hide (HB2.out.more (Only.drew _ wc))
            obtain ⟨W9, hW9⟩ : ∃ x, wc.drew = x := ⟨_, rfl⟩
            have HW3 := hide (o2 HW2.out (Only.drew _ wc))
            rw [hW9] at HBE2 HB3 HW3
            go_upto_region 18 with fail
            try rw [hW9]
            clear hW9 HBE HB2 HW2
            have hq2 := neE_run g g
            rw [decide_eq_true rfl] at hq2
            have hc1 : ¬ (n : Int) ≤ (s : Int) := by omega
            have hc2 : (s : Int) < (n : Int) := by omega
            -- {r18
            refine wp_region_noPanic ?_
            refine wp_region_held_drew (S := fun W => Only (fun _ => False) W9 W) (by kernel_rfl) (Only.drew _ _) (fun hHeld => ?_)
            refine wpAnyH_take (i := 0) (oi := { dst := some 80, op := Op.move (Operand.tmp 12), type := 3, pos := "law.go:135", after := #[], guard := none }) (v := .int .i64 (s : Int)) rfl (by kernel_rfl) (by kernel_rfl) (by kernel_rfl) (fun _ _ _ h => h) (Or.inl ⟨by rfl, fun w' hSw => by clear hSw; go_simp⟩) (by assumption) ?_
            simp only [Act.put, List.setIfInBounds_toArray, List.set_cons_zero, List.set_cons_succ]
            refine wpAnyH_take (i := 1) (oi := { dst := some 81, op := Op.move (Operand.tmp 6), type := 35, pos := "law.go:135", after := #[], guard := none }) (v := .slice (some ⟨Be, oe, none⟩) n C) rfl (by kernel_rfl) (by kernel_rfl) (by kernel_rfl) (fun _ _ _ h => h) (Or.inl ⟨by rfl, fun w' hSw => by clear hSw; go_simp⟩) (by assumption) ?_
            simp only [Act.put, List.setIfInBounds_toArray, List.set_cons_zero, List.set_cons_succ]
            refine wpAnyH_take (i := 2) (oi := { dst := some 82, op := Op.call { callee := Callee.builtin Builtin.len, args := #[Operand.tmp 81], argTypes := #[35] }, type := 3, pos := "law.go:135", after := #[{ on := 1, ground := Ground.data }], guard := none }) (v := .int .i64 (n : Int)) rfl (by kernel_rfl) (by kernel_rfl) (by kernel_rfl) (fun _ _ _ h => h) (Or.inl ⟨by rfl, fun w' hSw => by clear hSw; go_simp⟩) (by assumption) ?_
            simp only [Act.put, List.setIfInBounds_toArray, List.set_cons_zero, List.set_cons_succ]
            refine wpAnyH_take (i := 3) (oi := { dst := some 83, op := Op.binOp BinOp.geq 3 (Operand.tmp 80) (Operand.tmp 82) 3, type := 4, pos := "law.go:135", after := #[{ on := 0, ground := Ground.data }, { on := 2, ground := Ground.data }], guard := none }) (v := .bool false) rfl (by kernel_rfl) (by kernel_rfl) (by kernel_rfl) (fun _ _ _ h => h) (Or.inl ⟨by rfl, fun w' hSw => by clear hSw; go_simp⟩) (by assumption) ?_
            simp only [Act.put, List.setIfInBounds_toArray, List.set_cons_zero, List.set_cons_succ]
            refine wpAnyH_take (i := 4) (oi := { dst := some 84, op := Op.move (Operand.tmp 83), type := 4, pos := "law.go:135", after := #[{ on := 3, ground := Ground.data }], guard := none }) (v := .bool false) rfl (by kernel_rfl) (by kernel_rfl) (by kernel_rfl) (fun _ _ _ h => h) (Or.inl ⟨by rfl, fun w' hSw => by clear hSw; go_simp⟩) (by assumption) ?_
            simp only [Act.put, List.setIfInBounds_toArray, List.set_cons_zero, List.set_cons_succ]
            refine wpAnyH_take (i := 5) (oi := { dst := some 85, op := Op.move (Operand.tmp 6), type := 35, pos := "law.go:135", after := #[{ on := 4, ground := Ground.guard }], guard := some (4, false) }) (v := .slice (some ⟨Be, oe, none⟩) n C) rfl (by kernel_rfl) (by kernel_rfl) (by kernel_rfl) (fun _ _ _ h => h) (Or.inl ⟨by rfl, fun w' hSw => by clear hSw; go_simp⟩) (by assumption) ?_
            simp only [Act.put, List.setIfInBounds_toArray, List.set_cons_zero, List.set_cons_succ]
            refine wpAnyH_take (i := 6) (oi := { dst := some 86, op := Op.move (Operand.tmp 12), type := 3, pos := "law.go:135", after := #[{ on := 4, ground := Ground.guard }], guard := some (4, false) }) (v := .int .i64 (s : Int)) rfl (by kernel_rfl) (by kernel_rfl) (by kernel_rfl) (fun _ _ _ h => h) (Or.inl ⟨by rfl, fun w' hSw => by clear hSw; go_simp⟩) (by assumption) ?_
            simp only [Act.put, List.setIfInBounds_toArray, List.set_cons_zero, List.set_cons_succ]
            refine wpAnyH_take (i := 9) (oi := { dst := some 89, op := Op.move (Operand.tmp 10), type := 35, pos := "law.go:135", after := #[{ on := 4, ground := Ground.guard }], guard := some (4, false) }) (v := .slice (some ⟨Bf, of, none⟩) m C6) rfl (by kernel_rfl) (by kernel_rfl) (by kernel_rfl) (fun _ _ _ h => h) (Or.inl ⟨by rfl, fun w' hSw => by clear hSw; go_simp⟩) (by assumption) ?_
            simp only [Act.put, List.setIfInBounds_toArray, List.set_cons_zero, List.set_cons_succ]
            refine wpAnyH_take (i := 10) (oi := { dst := some 90, op := Op.move (Operand.tmp 13), type := 3, pos := "law.go:135", after := #[{ on := 4, ground := Ground.guard }], guard := some (4, false) }) (v := .int .i64 (j : Int)) rfl (by kernel_rfl) (by kernel_rfl) (by kernel_rfl) (fun _ _ _ h => h) (Or.inl ⟨by rfl, fun w' hSw => by clear hSw; go_simp⟩) (by assumption) ?_
            simp only [Act.put, List.setIfInBounds_toArray, List.set_cons_zero, List.set_cons_succ]
            refine wpAnyH_take (i := 7) (oi := { dst := some 87, op := Op.indexAddr 35 (Operand.tmp 85) (Operand.tmp 86), type := 0, pos := "law.go:135", after := #[{ on := 5, ground := Ground.data }, { on := 6, ground := Ground.data }, { on := 4, ground := Ground.guard }], guard := some (4, false) }) (v := .pointer (some ⟨Be, oe + s * 3, none⟩)) rfl (by kernel_rfl) (by kernel_rfl) (by kernel_rfl) (fun _ _ _ h => h) (Or.inl ⟨by rfl, fun w' hSw => by clear hSw; go_simp⟩) (by assumption) ?_
            simp only [Act.put, List.setIfInBounds_toArray, List.set_cons_zero, List.set_cons_succ]
            refine wpAnyH_take (i := 11) (oi := { dst := some 91, op := Op.indexAddr 35 (Operand.tmp 89) (Operand.tmp 90), type := 0, pos := "law.go:135", after := #[{ on := 9, ground := Ground.data }, { on := 10, ground := Ground.data }, { on := 4, ground := Ground.guard }], guard := some (4, false) }) (v := .pointer (some ⟨Bf, of + j * 3, none⟩)) rfl (by kernel_rfl) (by kernel_rfl) (by kernel_rfl) (fun _ _ _ h => h) (Or.inl ⟨by rfl, fun w' hSw => by clear hSw; go_simp⟩) (by assumption) ?_
            simp only [Act.put, List.setIfInBounds_toArray, List.set_cons_zero, List.set_cons_succ]
            refine wpAnyH_take (i := 8) (oi := { dst := some 88, op := Op.load 23 (Operand.tmp 87), type := 23, pos := "law.go:135", after := #[{ on := 7, ground := Ground.data }, { on := 4, ground := Ground.guard }], guard := some (4, false) }) (v := .agg #[.string g.key, .int .i64 g.page, .int .i64 g.slot]) rfl (by kernel_rfl) (by kernel_rfl) (by kernel_rfl) (fun _ _ _ h => h) (yieldsIf_load_eb (by rfl) _ rfl rfl (fun W hW => HBE2.out.more hW)) (by assumption) ?_
            simp only [Act.put, List.setIfInBounds_toArray, List.set_cons_zero, List.set_cons_succ]
            refine wpAnyH_take (i := 12) (oi := { dst := some 92, op := Op.load 23 (Operand.tmp 91), type := 23, pos := "law.go:135", after := #[{ on := 11, ground := Ground.data }, { on := 4, ground := Ground.guard }], guard := some (4, false) }) (v := .agg #[.string g.key, .int .i64 g.page, .int .i64 g.slot]) rfl (by kernel_rfl) (by kernel_rfl) (by kernel_rfl) (fun _ _ _ h => h) (yieldsIf_load_eb (by rfl) _ rfl rfl (fun W hW => HB3.out.more hW)) (by assumption) ?_
            simp only [Act.put, List.setIfInBounds_toArray, List.set_cons_zero, List.set_cons_succ]
            refine wpAnyH_take (i := 13) (oi := { dst := some 93, op := Op.binOp BinOp.neq 23 (Operand.tmp 88) (Operand.tmp 92) 23, type := 4, pos := "law.go:135", after := #[{ on := 8, ground := Ground.data }, { on := 12, ground := Ground.data }, { on := 4, ground := Ground.guard }], guard := some (4, false) }) (v := .bool false) rfl (by kernel_rfl) (by kernel_rfl) (by kernel_rfl) (fun _ _ _ h => h) (Or.inl ⟨by rfl, fun w' hSw => by clear hSw; go_simp⟩) (by assumption) ?_
            simp only [Act.put, List.setIfInBounds_toArray, List.set_cons_zero, List.set_cons_succ]
            refine wpAnyH_take (i := 14) (oi := { dst := some 94, op := Op.pick (Operand.tmp 84) (Operand.const (Value.bool true)) (Operand.tmp 93), type := 4, pos := "law.go:135", after := #[{ on := 4, ground := Ground.data }, { on := 13, ground := Ground.data }], guard := none }) (v := .bool false) rfl (by kernel_rfl) (by kernel_rfl) (by kernel_rfl) (fun _ _ _ h => h) (Or.inl ⟨by rfl, fun w' hSw => by clear hSw; go_simp⟩) (by assumption) ?_
            simp only [Act.put, List.setIfInBounds_toArray, List.set_cons_zero, List.set_cons_succ]
            refine wpAnyH_done (by kernel_rfl) ?_ _
            refine NoPanic.normal ?_
            -- r18}
            clear hq2 hc1 hc2
            go_wp2_with fail
            go_roundw
            case rel => exact ⟨j + 1, s + 1, by omega, by go_num, by go_num, HSL, hide (o2 HW3.out (Only.drew _ _))⟩
            case measure => simp [intOf]; omega
      · have hlk : ¬ (j : Int) < (m : Int) := by omega
        have hs : s = n := by
          have h1 := HSJ.out
          have h2 := HPLE.out
          have h3 := HNN.out
          have h4 := HLE.out
          rw [if_neg (show ¬ j ≤ P by omega)] at h1
          omega
        subst hs
        have HV7 := hide (HV6.out.more HW.out)
        have HG7 := hide (HG6.out.more HW.out)
        have HQ7 := hide (HQ6.out.more HW.out)
        have HLQ7 := hide (HLQ6.out.more HW.out)
        have HP7 := hide (HP6.out.more HW.out)
        have HO7 := hide (o2 HO6.out HW.out)
        clear HV6 HG6 HQ6 HLQ6 HP6 HO6 HW HE6 HX6 HSJ HATI
        obtain ⟨p0, p1, p2, p3, p4, p5, _⟩ := HQ7.out
        obtain ⟨d0, d1, d2, _⟩ := HV7.out
        go_upto_region 21 with fail
        go_wp2_with fail
        refine (HRM.out _ _ _ _ _ _ HLQ7.out HFQ.out).mono ?_
        rintro x w8 hrq
        obtain ⟨Br, aor, cpr, rfl, hSr, hFr, ho, hBr⟩ := hrq.good HMI.out
        rw [HPLQ.out] at hSr hFr hBr ⊢
        simp only [HIO.out] at hSr hFr hBr ⊢
        have HSr := hide hSr
        have HFr := hide hFr
        have HV8 := hide (HV7.out.more ho)
        have HG8 := hide (HG7.out.more ho)
        have HQ8 := hide (HQ7.out.more ho)
        have HLQ8 := hide (HLQ7.out.more ho)
        have HP8 := hide (HP7.out.more ho)
        have HO8 := hide (o2 HO7.out ho)
        clear hrq hSr hFr ho hBr p0 p1 p2 p3 p4 p5 d0 d1 d2 HV7 HG7 HQ7 HLQ7 HP7 HO7
        go_upto_region 22 with fail
        have HA := hide (onlyA w8 (.cells #[.int .i64 0, .int .i64 3, .int .i64 0, .int .i64 0, .string ⟨#[]⟩, .slice aor l.length cpr] 38))
        have HR9 := hide (Pag.new w8 (.int .i64 0) (.int .i64 3) (.int .i64 0) (.int .i64 0) (.string ⟨#[]⟩) (.slice aor l.length cpr))
        obtain ⟨b14, hb14⟩ : ∃ b, w8.heap.size = b := ⟨_, rfl⟩
        rw [hb14] at HR9 ⊢
        clear hb14
        obtain ⟨w9, hw9⟩ : ∃ x, w8.alloc (.cells #[.int .i64 0, .int .i64 3, .int .i64 0, .int .i64 0, .string ⟨#[]⟩, .slice aor l.length cpr] 38) = x := ⟨_, rfl⟩
        rw [hw9] at HA HR9 ⊢
        clear hw9
        have HLR9 : Hid (Lp w9 0 ⟨#[]⟩ noE Br aor l es) := ⟨HSr.out.more HA.out, by decide, .inl ⟨rfl, rfl⟩, HP8.out.lf, HP8.out.few⟩
        have HV9 := hide (HV8.out.more HA.out)
        have HG9 := hide (HG8.out.more HA.out)
        have HQ9 := hide (HQ8.out.more HA.out)
        have HLQ9 := hide (HLQ8.out.more HA.out)
        have HP9 := hide (HP8.out.more HA.out)
        have HO9 := hide (o2 HO8.out HA.out)
        clear HA HSr HV8 HG8 HQ8 HLQ8 HP8 HO8
        obtain ⟨p0, p1, p2, p3, p4, p5, _⟩ := HQ9.out
        obtain ⟨d0, d1, d2, _⟩ := HV9.out
        go_wp2_with fail
        refine (HI.out _ _ _ _ _ _ HLQ9.out HFQ.out).mono ?_
        rintro x w10 ⟨pp, k, ⟨B5b, ao5b, cp5b, rfl, _, _, ho, _⟩, hpk⟩
        have hk140 : k = 140 := by
          rcases hpk with ⟨_, _, _, _, h, _⟩ | ⟨_, _, h⟩
          · exact absurd HMI.out h
          · exact h HMI.out
        subst hk140
        have HV10 := hide (HV9.out.more ho)
        have HG10 := hide (HG9.out.more ho)
        have HR10 := hide (HR9.out.more ho)
        have HLR10 := hide (HLR9.out.more ho)
        have HP10 := hide (HP9.out.more ho)
        have HO10 := hide (o2 HO9.out ho)
        clear hpk ho p0 p1 p2 p3 p4 p5 d0 d1 d2 HV9 HG9 HR9 HLR9 HP9 HO9 HQ9 HLQ9
        go_upto_region 23 with fail
        have HA := hide (onlyA w10 (.cells #[.int .i64 pp.lsn, .int .i64 pp.kind, .int .i64 pp.level, .int .i64 pp.right, .string pp.high, .slice ao5b pp.items.length cp5b] 38))
        obtain ⟨w11, hw11⟩ : ∃ x, w10.alloc (.cells #[.int .i64 pp.lsn, .int .i64 pp.kind, .int .i64 pp.level, .int .i64 pp.right, .string pp.high, .slice ao5b pp.items.length cp5b] 38) = x := ⟨_, rfl⟩
        rw [hw11] at HA ⊢
        clear hw11
        have HV11 := hide (HV10.out.more HA.out)
        have HG11 := hide (HG10.out.more HA.out)
        have HR11 := hide (HR10.out.more HA.out)
        have HLR11 := hide (HLR10.out.more HA.out)
        have HP11 := hide (HP10.out.more HA.out)
        have HO11 := hide (o2 HO10.out HA.out)
        clear HA HV10 HG10 HR10 HLR10 HP10 HO10
        obtain ⟨p0, p1, p2, p3, p4, p5, _⟩ := HR11.out
        obtain ⟨d0, d1, d2, _⟩ := HV11.out
        go_wp2_with fail
        refine (HRM.out _ _ _ _ _ _ HLR11.out HFr.out).mono ?_
        rintro x w12 hrq
        obtain ⟨Bz, aoz, cpz, rfl, _, _, ho, _⟩ := hrq.bad HNI.out
        have HG12 := hide (HG11.out.more ho)
        have HR12 := hide (HR11.out.more ho)
        have HLR12 := hide (HLR11.out.more ho)
        have HP12 := hide (HP11.out.more ho)
        have HO12 := hide (o2 HO11.out ho)
        clear hrq ho p0 p1 p2 p3 p4 p5 d0 d1 d2 HV11 HG11 HR11 HLR11 HP11 HO11
        unfold Pg.none
        simp only [List.length_nil]
        go_upto_region 24 with fail
        have HA := hide (onlyA w12 (.cells #[.int .i64 0, .int .i64 0, .int .i64 0, .int .i64 0, .string ⟨#[]⟩, .slice aoz 0 cpz] 38))
        obtain ⟨w13, hw13⟩ : ∃ x, w12.alloc (.cells #[.int .i64 0, .int .i64 0, .int .i64 0, .int .i64 0, .string ⟨#[]⟩, .slice aoz 0 cpz] 38) = x := ⟨_, rfl⟩
        rw [hw13] at HA ⊢
        clear hw13
        have HG13 := hide (HG12.out.more HA.out)
        have HR13 := hide (HR12.out.more HA.out)
        have HLR13 := hide (HLR12.out.more HA.out)
        have HP13 := hide (HP12.out.more HA.out)
        have HO13 := hide (o2 HO12.out HA.out)
        clear HA HG12 HR12 HLR12 HP12 HO12
        obtain ⟨p0, p1, p2, p3, p4, p5, _⟩ := HR13.out
        obtain ⟨r0, r1, r2, r3, r4, r5, _⟩ := HG13.out
        go_wp2_with fail
        refine (HSM.out _ _ _ _ _ _ _ _ HLR13.out.strs HP13.out.strs).mono ?_
        rintro x w14 ⟨rfl, ho⟩
        have HO14 := hide (o2 HO13.out ho)
        clear ho p0 p1 p2 p3 p4 p5 r0 r1 r2 r3 r4 r5
        go_wp2_with fail
        refine (HAW.out _).mono ?_
        rintro x w15 ⟨rfl, ho⟩
        have HO15 := hide (o2 HO14.out ho)
        clear ho
        go_wp2_with fail
        go_ret
        exact ⟨rfl, HO15.out⟩
  · have hk' : (k != 0) = true := by simpa using hk
    clear hk HK
    go_upto_region 6 with fail
    have HO5 := hide (o2 HO4.out (onlyA w4 (.cells #[.int .i64 p.lsn, .int .i64 p.kind, .int .i64 p.level, .int .i64 p.right, .string p.high, .slice ao5 p.items.length cp5] 38)))
    obtain ⟨w5, hw5⟩ : ∃ x, w4.alloc (.cells #[.int .i64 p.lsn, .int .i64 p.kind, .int .i64 p.level, .int .i64 p.right, .string p.high, .slice ao5 p.items.length cp5] 38) = x := ⟨_, rfl⟩
    rw [hw5] at HO5 ⊢
    clear hw5
    go_wp2_with fail
    refine (HAW.out _).mono ?_
    rintro x w6 ⟨rfl, ho⟩
    have HO6 := hide (o2 HO5.out ho)
    clear ho
    go_wp2_with fail
    go_ret
    exact ⟨rfl, HO6.out⟩
end Go.Proofs.Ythhlmhghiknnkaa
