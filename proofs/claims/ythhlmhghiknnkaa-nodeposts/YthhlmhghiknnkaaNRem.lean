/- A leaf with an entry less: Remove; an empty leaf: Leaf of package node. -/
import Derived.Test.YthhlmhghiknnkaaNChg
namespace Go.Proofs.Ythhlmhghiknnkaa
open Go.RowKit

/-- What Remove answers of a leaf. -/
structure RemQ (w w' : World) (x : Ending) (a r : Int) (h : ByteArray) (e : En) (l : List ByteArray) (es : List En) : Prop where
  bad : e ∉ es → Res w w' x .none 140
  good : e ∈ es → Res w w' x ⟨a, 3, 0, r, h, l.take (plE es e) ++ l.drop (plE es e + 1)⟩ 0
theorem pl_mem {es : List En} {e : En} (hr : Rise es) (h : e ∈ es) : plE es e < es.length := by
  obtain ⟨k, hk, rfl⟩ := List.mem_iff_getElem.1 h
  rw [plE_at hr k hk]
  exact hk
set_option maxRecDepth 100000 in
set_option maxHeartbeats 3200000 in
theorem remove_ok (w : World) (a r : Int) (h : ByteArray) (hi e : En) (B cp : Nat) (ao : Option Addr) (l : List ByteArray) (es : List En) (hP : Lp w r h hi B ao l es) (hF : Fit ao l.length cp) :
    Calls Try.prog 23 #[.agg #[.int .i64 a, .int .i64 3, .int .i64 0, .int .i64 r, .string h, .slice ao l.length cp], e.agg] w fun x w' => RemQ w w' x a r h e l es := by
  have HX := hide (ins_new w (.int .i64 a) (.int .i64 3) (.int .i64 0) (.int .i64 r) (.string h) (.slice ao l.length cp) e)
  have HR := hide ((hP.more HX.out.2.2.2).read a cp)
  have HIX : Hid (∀ (W : World) (A1 : Option Addr) (n1 C1 : Nat) (base : Nat), Ets W base (.slice A1 n1 C1) es → Calls Try.prog 53 #[.slice A1 n1 C1, .agg #[.string e.key, .int .i64 e.page, .int .i64 e.slot]] W fun x w' => x = .returned (.int .i64 (idxE es e)) ∧ Only (fun _ => False) W w') := fun W A1 n1 C1 base hE => by
    obtain ⟨B1, hels, hln⟩ := hE.elsOf
    exact indexE_any W B1 n1 C1 A1 es e hels hln (by have := hP.len; omega) hP.lf.rise
  have HPT : Hid (e ∈ es → ∀ W, Only (fun _ => False) w W → Calls Try.prog 54 #[.agg #[.int .i64 a, .int .i64 3, .int .i64 0, .int .i64 r, .string h, .slice ao l.length cp], .int .i64 (plE es e : Int)] W fun x w' => Res W w' x ⟨a, 3, 0, r, h, l.take (plE es e) ++ l.drop (plE es e + 1)⟩ 0) := fun he W ho => by
    have h1 := pl_mem hP.lf.rise he
    have h2 := hP.lf.len
    have hs := hP.strs.more ho
    obtain ⟨o, rfl, _⟩ := hs.at_ (by omega)
    exact out_some W a 3 0 r h B B o cp l (plE es e) hs hF (by omega)
  clear hP hF
  unfold En.agg
  go_enter Try.func23, Try.ntmps23
  go_upto_region 1 with fail
  obtain ⟨W0, hW0⟩ : ∃ x, ((w.alloc (.cells #[.int .i64 a, .int .i64 3, .int .i64 0, .int .i64 r, .string h, .slice ao l.length cp] 38)).alloc (.cells #[.string e.key, .int .i64 e.page, .int .i64 e.slot] 23)).alloc (.cells #[.int .i64 0, .int .i64 0, .int .i64 0, .int .i64 0, .string ⟨#[]⟩, .slice none 0 0] 38) = x := ⟨_, rfl⟩
  rw [hW0] at HX HR ⊢
  clear hW0
  obtain ⟨p0, p1, p2, p3, p4, p5, _⟩ := HX.out.1
  go_wp2_with fail
  refine HR.out.mono ?_
  rintro x w1 ⟨A, C, rfl, he, ho⟩
  unfold cvv
  have HP1 := hide (HX.out.1.more ho)
  have HV1 := hide (HX.out.2.1.more ho)
  have HQ1 := hide (HX.out.2.2.1.more ho)
  have HO1 := hide (o2 HX.out.2.2.2 ho)
  have HE1 := hide he
  clear he ho p0 p1 p2 p3 p4 p5 HR HX
  go_upto_region 2 with fail
  have HA := hide (onlyA w1 (.cells #[.slice A es.length C, .slice none 0 0, .string hi.key, .int .i64 hi.page, .int .i64 hi.slot] 78))
  have HC := hide (Cv.new w1 (.slice A es.length C) (.slice none 0 0) hi)
  obtain ⟨cb, hcb⟩ : ∃ b, w1.heap.size = b := ⟨_, rfl⟩
  rw [hcb] at HC ⊢
  clear hcb
  obtain ⟨w2, hw2⟩ : ∃ x, w1.alloc (.cells #[.slice A es.length C, .slice none 0 0, .string hi.key, .int .i64 hi.page, .int .i64 hi.slot] 78) = x := ⟨_, rfl⟩
  rw [hw2] at HA HC ⊢
  clear hw2
  have HP2 := hide (HP1.out.more HA.out)
  have HV2 := hide (HV1.out.more HA.out)
  have HQ2 := hide (HQ1.out.more HA.out)
  have HO2 := hide (o2 HO1.out HA.out)
  have HE2 := hide (HE1.out.more HA.out)
  clear HA HP1 HV1 HQ1 HO1 HE1
  obtain ⟨d0, d1, d2, _⟩ := HV2.out
  have c0 := HC.out.c0
  have HIX1 := hide (HIX.out w2 A es.length C _ HE2.out)
  obtain ⟨I, hI⟩ : ∃ I, idxE es e = I := ⟨_, rfl⟩
  rw [hI] at HIX1
  have HI := hide hI
  clear HIX hI
  go_wp2_with fail
  refine HIX1.out.mono ?_
  rintro x w3 ⟨rfl, ho⟩
  have HP3 := hide (HP2.out.more ho)
  have HQ3 := hide (HQ2.out.more ho)
  have HO3 := hide (o2 HO2.out ho)
  clear ho d0 d1 d2 c0 HP2 HV2 HQ2 HC HO2 HE2 HIX1
  by_cases hm : e ∈ es
  · have hI : I = (plE es e : Int) := by rw [← HI.out]; unfold idxE; rw [if_pos hm]
    have HPT0 := hide (HPT.out hm)
    rw [← hI] at HPT0
    have hI0 : ¬ I < 0 := by omega
    have HM := hide hm
    clear hI hm HPT HI
    obtain ⟨p0, p1, p2, p3, p4, p5, _⟩ := HP3.out
    go_wp2_with fail
    refine (HPT0.out _ HO3.out).mono ?_
    rintro x w4 ⟨B5, ao5, cp5, rfl, hS5, hF5, ho5, hB5⟩
    have HX2 := hide ho5
    have HS7 := hide (And.intro hS5 (And.intro hF5 hB5))
    have HQ7 := hide (HQ3.out.more ho5)
    have HZ7 : Hid (w.heap.size + 1 + 1 < w3.heap.size) := HQ3.out.lt
    clear hS5 hF5 ho5 hB5 p0 p1 p2 p3 p4 p5
    obtain ⟨nl, hnl⟩ : ∃ nl, l.take (plE es e) ++ l.drop (plE es e + 1) = nl := ⟨_, rfl⟩
    rw [hnl] at HS7 ⊢
    have HNL := hide hnl
    clear hnl
    simp only [] at HS7
    obtain ⟨q0, q1, q2, q3, q4, q5, g0, g1, g2, g3, g4, g5, ql⟩ := HQ7.out
    go_wp2_with fail
    refine bodyPost_ret (results_page rfl rfl (Pag.six HQ7.out _ _ _ _ _ _)) rfl ?_
    have hres := resSix (p := ⟨a, 3, 0, r, h, nl⟩) (k := 0) HS7.out.1 HS7.out.2.1 HX2.out HS7.out.2.2 HO3.out (w.heap.size + 1 + 1) (by omega) HZ7.out (.int .i64 a) (.int .i64 3) (.int .i64 0) (.int .i64 r) (.string h) (.slice ao5 nl.length cp5)
    exact ⟨fun h1 => absurd HM.out h1, fun _ => by rw [HNL.out]; exact hres⟩
  · have hI : I = -1 := by rw [← HI.out]; unfold idxE; rw [if_neg hm]
    have hI0 : I < 0 := by omega
    have HM := hide hm
    clear hI hm HPT HI
    obtain ⟨q0, q1, q2, q3, q4, q5, g0, g1, g2, g3, g4, g5, ql⟩ := HQ3.out
    go_wp2_with fail
    refine bodyPost_ret (results_page rfl rfl (Pag.six HQ3.out _ _ _ _ _ _)) rfl ?_
    exact ⟨fun _ => resErr _ HO3.out (by omega), fun h1 => absurd h1 HM.out⟩
theorem results_page1 {fn : Func} {p : Tmp} (h : fn.results = #[.cell p 38]) {tmps : Array Value} {w : World} {b : Nat} {v0 v1 v2 v3 v4 v5 : Value} (hp : tmps.getD p undef = .pointer (some ⟨b, 0, none⟩)) (hP : Pag w b v0 v1 v2 v3 v4 v5) :
    (results fn tmps).run Try.prog w = .ok (.agg #[v0, v1, v2, v3, v4, v5]) w := by
  have e : (asAddr (.pointer (some ⟨b, 0, none⟩))).run Try.prog w = .ok ⟨b, 0, none⟩ w := rfl
  have hp' : tmps[p]?.getD undef = .pointer (some ⟨b, 0, none⟩) := by simpa using hp
  simp only [results, h]
  simp [Sem.run_bind, Result.andThen, hp', e, load_page hP]
theorem leaf_any (w : World) : Calls Try.prog 48 #[] w fun x w' => x = .returned (.agg #[.int .i64 0, .int .i64 3, .int .i64 0, .int .i64 0, .string ⟨#[]⟩, .slice none 0 0]) ∧ Only (fun _ => False) w w' := by
  have HP := hide (Pag.new w (.int .i64 0) (.int .i64 3) (.int .i64 0) (.int .i64 0) (.string ⟨#[]⟩) (.slice none 0 0))
  have HO := hide (onlyA w (.cells #[.int .i64 0, .int .i64 3, .int .i64 0, .int .i64 0, .string ⟨#[]⟩, .slice none 0 0] 38))
  go_enter Try.func48, Try.ntmps48
  go_wp2_with fail
  refine bodyPost_ret (results_page1 rfl rfl HP.out) rfl ?_
  exact ⟨rfl, HO.out⟩
end Go.Proofs.Ythhlmhghiknnkaa
