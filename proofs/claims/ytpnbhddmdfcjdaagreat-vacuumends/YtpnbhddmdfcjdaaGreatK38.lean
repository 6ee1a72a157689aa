/- Parts. -/
import Derived.Test.YtpnbhddmdfcjdaaGreatK17
import Derived.Test.YtpnbhddmdfcjdaaGreatK36
import Derived.Test.YtpnbhddmdfcjdaaGreatK18
set_option maxRecDepth 100000
namespace Go.Proofs.YtpnbhddmdfcjdaaGreat
open Go.RowKit
theorem kts_made2 (n : Nat) (hn : n ≤ 8796093021952) : ∃ O : Obj, (∀ W : World, (Instr.makeSlice 25 (.int .i64 0) (.int .i64 (n : Int))).run Tryz.prog W = .ok (.slice (some ⟨W.heap.size, 0, none⟩) 0 n) (W.alloc O)) ∧
    (∀ (W : World) (base : Nat), base ≤ W.heap.size → Kts (W.alloc O) base (.slice (some ⟨W.heap.size, 0, none⟩) 0 n) []) := by
  obtain ⟨i0, hi, hz0, hz1, hz2⟩ := info_parts Tryz.infoIn
  refine ⟨.cells (madeCells (Value.int .i64 0).cells ((n : Int).toNat * i0.size)) 3, fun W => ?_, fun W base hb => ?_⟩
  · have h := run_make (P := Tryz.prog) W 25 3 i0 (.int .i64 0) Tryz.underlying25 hi hz0 .i64 .i64 0 (n : Int) (by omega) (by omega) (by rw [hz2]; omega) (by omega)
    simpa using h
  · obtain ⟨w', hmk, hown, hgr⟩ := run_make_own (P := Tryz.prog) W base 25 3 i0 (.int .i64 0) 1 Tryz.underlying25 hi hz0 hz1 .i64 .i64 n (by rw [hz2]; omega) (by unfold maxLen; omega) hb
    have h := run_make (P := Tryz.prog) W 25 3 i0 (.int .i64 0) Tryz.underlying25 hi hz0 .i64 .i64 0 (n : Int) (by omega) (by omega) (by rw [hz2]; omega) (by omega)
    rw [hmk] at h
    simp at h
    subst h
    exact hown
/-- A number more, where there is room. -/
theorem kts_room (w : World) (base g n C : Nat) (es : List Int) (h : Kts w base (.slice (some ⟨g, 0, none⟩) n C) es) (hn : es.length = n) (hr : n + 1 ≤ C) (k : Int) (B : Nat) (hf : w.cell? ⟨B, 0, none⟩ = some (.int .i64 k)) :
    ∃ w', (Builtin.append_ #[25, 25] 25 #[.slice (some ⟨g, 0, none⟩) n C, .slice (some ⟨B, 0, none⟩) 1 1]).run Tryz.prog w = .ok (.slice (some ⟨g, 0, none⟩) (n + 1) C) w' ∧ Kts w' base (.slice (some ⟨g, 0, none⟩) (n + 1) C) (es ++ [k]) ∧ Only (fun j => (Value.slice (some ⟨g, 0, none⟩) n C).ownBlock = some j) w w' := by
  obtain ⟨i0, hi, hz0, hz1, hz2⟩ := info_parts Tryz.infoIn
  subst hn
  obtain ⟨w', hr', h2, h3⟩ := run_append_own_spare (P := Tryz.prog) w base 25 25 3 i0 1 Tryz.underlying25 hi hz1 g es.length C (ncs es) h ⟨B, 0, none⟩ 1 1 (ncs [k]) rfl
    (fun j u hu => by
      have hj : j < 1 := by
        have := (List.getElem?_eq_some_iff.1 hu).1
        rwa [ncs_len] at this
      obtain rfl : j = 0 := by omega
      have e : u = .int .i64 k := by
        simp [ncs] at hu
        exact hu.symm
      rw [e, add_at]
      exact hf) (fun u hu => by
      simp [ncs] at hu
      subst hu
      rfl) hr
  refine ⟨w', hr', ?_, Only.grown h3 (fun j hj => hj)⟩
  unfold Kts
  rw [show ncs (es ++ [k]) = ncs es ++ ncs [k] by simp [ncs], List.length_append]
  exact h2
theorem readInner_no (w : World) (a k v r : Int) (h : ByteArray) (ao : Option Addr) (n cp : Nat) (hb : hdO k v r h = none ∨ v = 0 ∨ n = 0) :
    Calls Tryz.prog 174 #[pgv a k v r h ao n cp] w fun e w' => CvR e false ∧ Only (fun _ => False) w w' := by
  have HX := hide (lf_new w (.int .i64 a) (.int .i64 k) (.int .i64 v) (.int .i64 r) (.string h) (.slice ao n cp))
  have HRH := hide (fun W => readHead_any W a k v r h ao n cp)
  obtain ⟨H, hH⟩ : ∃ H, (hdO k v r h).getD noE = H := ⟨_, rfl⟩
  obtain ⟨b, hB⟩ : ∃ b, (hdO k v r h).isSome = b := ⟨_, rfl⟩
  rw [hH, hB] at HRH
  have hc : b = false ∨ (b = true ∧ (v == 0) = true) ∨ (b = true ∧ (v == 0) = false ∧ n = 0) := by
    cases b with
    | false => exact .inl rfl
    | true =>
      refine .inr ?_
      by_cases q : v = 0
      · exact .inl ⟨rfl, by simpa using q⟩
      · refine .inr ⟨rfl, by simpa using q, ?_⟩
        rcases hb with z | z | z
        · rw [z] at hB
          cases hB
        · exact absurd z q
        · exact z
  clear hb hH hB
  unfold pgv at HRH ⊢
  unfold En.agg at HRH
  go_enter Tryz.func174, Tryz.ntmps174
  go_upto_region 1 with fail
  obtain ⟨W0, hW0⟩ : ∃ x, (w.alloc (.cells #[.int .i64 a, .int .i64 k, .int .i64 v, .int .i64 r, .string h, .slice ao n cp] 30)).alloc (.cells #[.slice none 0 0, .slice none 0 0, .string ⟨#[]⟩, .int .i64 0, .int .i64 0] 200) = x := ⟨_, rfl⟩
  rw [hW0] at HX ⊢
  clear hW0
  obtain ⟨p0, p1, p2, p3, p4, p5, _⟩ := HX.out.1
  go_wp2_with fail
  refine (HRH.out _).mono ?_
  rintro e w1 ⟨rfl, ho⟩
  have HP1 := hide (HX.out.1.more ho)
  have HC1 := hide (HX.out.2.1.more ho)
  have HO1 := hide (o2 HX.out.2.2 ho)
  clear ho p0 p1 p2 p3 p4 p5 HX HRH
  go_upto_region 2 with fail
  have HA := hide (onlyA w1 (.cells #[.string H.key, .int .i64 H.page, .int .i64 H.slot] 74))
  obtain ⟨w2, hw2⟩ : ∃ x, w1.alloc (.cells #[.string H.key, .int .i64 H.page, .int .i64 H.slot] 74) = x := ⟨_, rfl⟩
  rw [hw2] at HA ⊢
  clear hw2
  have HP2 := hide (HP1.out.more HA.out)
  have HC2 := hide (HC1.out.more HA.out)
  have HO2 := hide (o2 HO1.out HA.out)
  clear HA HP1 HC1 HO1
  have p2 := HP2.out.c2
  have p5 := HP2.out.c5
  obtain ⟨r0, r1, r2, r3, r4, f0, f1, f2, f3, f4, _⟩ := HC2.out
  have hfive := Only.five w2 (w.heap.size + 1) (.slice none 0 0) (.slice none 0 0) (.string ⟨#[]⟩) (.int .i64 0) (.int .i64 0)
  have HO3 : Hid (Only (fun _ => False) w _) := HO2.out.trans hfive (fun i hi e => by omega)
  clear hfive
  rcases hc with rfl | ⟨rfl, hv⟩ | ⟨rfl, hv, rfl⟩
  · go_wp2_with fail
    refine bodyPost_ret (results_cv rfl rfl (HC2.out.all _ _ noE)) rfl ?_
    exact ⟨⟨_, _, _, _, _, _, _, rfl⟩, HO3.out⟩
  · go_wp2_with fail
    refine bodyPost_ret (results_cv rfl rfl (HC2.out.all _ _ noE)) rfl ?_
    exact ⟨⟨_, _, _, _, _, _, _, rfl⟩, HO3.out⟩
  · go_wp2_with fail
    refine bodyPost_ret (results_cv rfl rfl (HC2.out.all _ _ noE)) rfl ?_
    exact ⟨⟨_, _, _, _, _, _, _, rfl⟩, HO3.out⟩
end Go.Proofs.YtpnbhddmdfcjdaaGreat
