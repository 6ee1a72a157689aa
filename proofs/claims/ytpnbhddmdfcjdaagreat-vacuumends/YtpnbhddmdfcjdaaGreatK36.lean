/- Parts. -/
import Derived.Test.YtpnbhddmdfcjdaaGreatK15
import Derived.Test.YtpnbhddmdfcjdaaGreatK13
import Derived.Deep.DeepAppendRoom
set_option maxRecDepth 100000
namespace Go.Proofs.YtpnbhddmdfcjdaaGreat
open Go.RowKit
/-- What was read, and whether it could be. -/
def CvR (e : Ending) (b : Bool) : Prop := ∃ a1 n1 c1 a2 n2 c2 H, e = .returned (.tuple #[cvv (.slice a1 n1 c1) (.slice a2 n2 c2) H, .bool b])
/-- A list of entries made empty, however many are to come. -/
theorem ets_made2 (n : Nat) (hn : n ≤ 8796093021952) : ∃ O : Obj, (∀ W : World, (Instr.makeSlice 37 (.int .i64 0) (.int .i64 (n : Int))).run Tryz.prog W = .ok (.slice (some ⟨W.heap.size, 0, none⟩) 0 n) (W.alloc O)) ∧
    (∀ (W : World) (base : Nat), base ≤ W.heap.size → Ets (W.alloc O) base (.slice (some ⟨W.heap.size, 0, none⟩) 0 n) []) := by
  obtain ⟨i0, hi, hz0, hz1, hz2⟩ := info_parts Tryz.infoEn
  refine ⟨.cells (madeCells (Value.agg #[.string ⟨#[]⟩, .int .i64 0, .int .i64 0]).cells ((n : Int).toNat * i0.size)) 74, fun W => ?_, fun W base hb => ?_⟩
  · have h := run_make (P := Tryz.prog) W 37 74 i0 (.agg #[.string ⟨#[]⟩, .int .i64 0, .int .i64 0]) Tryz.underlying37 hi hz0 .i64 .i64 0 (n : Int) (by omega) (by omega) (by rw [hz2]; omega) (by omega)
    simpa using h
  · obtain ⟨w', hmk, hown, hgr⟩ := run_make_own (P := Tryz.prog) W base 37 74 i0 (.agg #[.string ⟨#[]⟩, .int .i64 0, .int .i64 0]) 3 Tryz.underlying37 hi hz0 hz1 .i64 .i64 n (by rw [hz2]; omega) (by unfold maxLen; omega) hb
    have h := run_make (P := Tryz.prog) W 37 74 i0 (.agg #[.string ⟨#[]⟩, .int .i64 0, .int .i64 0]) Tryz.underlying37 hi hz0 .i64 .i64 0 (n : Int) (by omega) (by omega) (by rw [hz2]; omega) (by omega)
    rw [hmk] at h
    simp at h
    subst h
    exact hown
/-- An entry more, where there is room. -/
theorem ets_room (w : World) (base g n C : Nat) (es : List En) (h : Ets w base (.slice (some ⟨g, 0, none⟩) n C) es) (hn : es.length = n) (hr : n + 1 ≤ C) (e : En) (B o : Nat) (hE : Eb w B o e) :
    ∃ w', (Builtin.append_ #[37, 37] 37 #[.slice (some ⟨g, 0, none⟩) n C, .slice (some ⟨B, o, none⟩) 1 1]).run Tryz.prog w = .ok (.slice (some ⟨g, 0, none⟩) (n + 1) C) w' ∧ Ets w' base (.slice (some ⟨g, 0, none⟩) (n + 1) C) (es ++ [e]) ∧ Only (fun k => (Value.slice (some ⟨g, 0, none⟩) n C).ownBlock = some k) w w' := by
  obtain ⟨i0, hi, hz0, hz1, hz2⟩ := info_parts Tryz.infoEn
  subst hn
  obtain ⟨w', hr', h2, h3⟩ := run_append_own_spare (P := Tryz.prog) w base 37 37 74 i0 3 Tryz.underlying37 hi hz1 g es.length C (ecs es) h ⟨B, o, none⟩ 1 1 (ecs [e]) (by rw [ecs_len]; rfl)
    (fun j u hu => by
      have hj : j < 1 * 3 := by
        have := (List.getElem?_eq_some_iff.1 hu).1
        rwa [ecs_len] at this
      obtain ⟨a1, a2, a3⟩ := ecs_get [e] 0 (by simp)
      rw [add_at]
      match j, hj with
      | 0, _ =>
        rw [show (0 : Nat) = 0 * 3 from rfl, a1] at hu
        cases hu
        exact hE.c0
      | 1, _ =>
        rw [show (1 : Nat) = 0 * 3 + 1 from rfl, a2] at hu
        cases hu
        exact hE.c1
      | 2, _ =>
        rw [show (2 : Nat) = 0 * 3 + 2 from rfl, a3] at hu
        cases hu
        exact hE.c2) (ecs_one [e]) hr
  refine ⟨w', hr', ?_, Only.grown h3 (fun j hj => hj)⟩
  unfold Ets
  rw [ecs_app, List.length_append]
  exact h2
theorem readLeaf_no (w : World) (a k v r : Int) (h : ByteArray) (ao : Option Addr) (n cp : Nat) (hb : hdO k v r h = none ∨ ¬ v = 0) :
    Calls Tryz.prog 168 #[pgv a k v r h ao n cp] w fun e w' => CvR e false ∧ Only (fun _ => False) w w' := by
  have HX := hide (lf_new w (.int .i64 a) (.int .i64 k) (.int .i64 v) (.int .i64 r) (.string h) (.slice ao n cp))
  have HRH := hide (fun W => readHead_any W a k v r h ao n cp)
  obtain ⟨H, hH⟩ : ∃ H, (hdO k v r h).getD noE = H := ⟨_, rfl⟩
  obtain ⟨b, hB⟩ : ∃ b, (hdO k v r h).isSome = b := ⟨_, rfl⟩
  rw [hH, hB] at HRH
  have hc : b = false ∨ (b = true ∧ (v == 0) = false) := by
    rcases hb with q | q
    · rw [q] at hB
      exact .inl hB.symm
    · cases b with
      | false => exact .inl rfl
      | true => exact .inr ⟨rfl, by simpa using q⟩
  clear hb hH hB
  unfold pgv at HRH ⊢
  unfold En.agg at HRH
  go_enter Tryz.func168, Tryz.ntmps168
  go_upto_region 1 with fail
  obtain ⟨W0, hW0⟩ : ∃ x, (w.alloc (.cells #[.int .i64 a, .int .i64 k, .int .i64 v, .int .i64 r, .string h, .slice ao n cp] 30)).alloc (.cells #[.slice none 0 0, .slice none 0 0, .string ⟨#[]⟩, .int .i64 0, .int .i64 0] 200) = x := ⟨_, rfl⟩
  rw [hW0] at HX ⊢
  clear hW0
  obtain ⟨p0, p1, p2, p3, p4, p5, _⟩ := HX.out.1
  go_wp2_with fail
  refine (HRH.out _).mono ?_
  rintro e w1 ⟨rfl, ho⟩
  have HP1 := hide (HX.out.1.more ho)
  have HC1 := hide (HX.out.2.1.more ho)
  have HO1 := hide (o2 HX.out.2.2 ho)
  clear ho p0 p1 p2 p3 p4 p5 HX HRH
  go_upto_region 2 with fail
  have HA := hide (onlyA w1 (.cells #[.string H.key, .int .i64 H.page, .int .i64 H.slot] 74))
  obtain ⟨w2, hw2⟩ : ∃ x, w1.alloc (.cells #[.string H.key, .int .i64 H.page, .int .i64 H.slot] 74) = x := ⟨_, rfl⟩
  rw [hw2] at HA ⊢
  clear hw2
  have HP2 := hide (HP1.out.more HA.out)
  have HC2 := hide (HC1.out.more HA.out)
  have HO2 := hide (o2 HO1.out HA.out)
  clear HA HP1 HC1 HO1
  have p2 := HP2.out.c2
  obtain ⟨r0, r1, r2, r3, r4, f0, f1, f2, f3, f4, _⟩ := HC2.out
  have hfive := Only.five w2 (w.heap.size + 1) (.slice none 0 0) (.slice none 0 0) (.string ⟨#[]⟩) (.int .i64 0) (.int .i64 0)
  have HO3 : Hid (Only (fun _ => False) w _) := HO2.out.trans hfive (fun i hi e => by omega)
  clear hfive
  rcases hc with rfl | ⟨rfl, hv⟩
  · go_wp2_with fail
    refine bodyPost_ret (results_cv rfl rfl (HC2.out.all _ _ noE)) rfl ?_
    exact ⟨⟨_, _, _, _, _, _, _, rfl⟩, HO3.out⟩
  · go_wp2_with fail
    refine bodyPost_ret (results_cv rfl rfl (HC2.out.all _ _ noE)) rfl ?_
    exact ⟨⟨_, _, _, _, _, _, _, rfl⟩, HO3.out⟩
theorem hdO_kind {k v r : Int} {h : ByteArray} {hi : En} (q : hdO k v r h = some hi) : k = 3 ∧ 0 ≤ v ∧ v ≤ 255 ∧ 0 ≤ r ∧ r ≤ 65535 := by
  unfold hdO at q
  by_cases c : k = 3 ∧ 0 ≤ v ∧ v ≤ 255 ∧ 0 ≤ r ∧ r ≤ 65535
  · exact c
  · rw [if_neg c] at q
    cases q
end Go.Proofs.YtpnbhddmdfcjdaaGreat
