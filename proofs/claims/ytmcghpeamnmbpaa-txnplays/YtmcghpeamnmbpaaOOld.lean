/- What first and Oldest do. -/
import Derived.Test.YtmcghpeamnmbpaaOTake
namespace Go.Proofs.Ytmcghpeamnmbpaa
open Go.RowKit Go.Maps

/-- The least first record of those met so far. -/
structure OlSo (f : Tt) (left : Lit → Bool) (n : Int) : Prop where
  no : n = 0 → ∀ a t, f a = some t → left (.int .i64 a) = false → t.fst = 0
  is : n ≠ 0 → (∃ a t, f a = some t ∧ t.fst = n) ∧ ∀ a t, f a = some t → left (.int .i64 a) = false → t.fst ≠ 0 → n ≤ t.fst
theorem OlSo.done {f : Tt} {left : Lit → Bool} {n : Int} (h : OlSo f left n) (hl : ∀ kl, left kl = false) : OlIs f n :=
  ⟨fun e a t ha => h.no e a t ha (hl _), fun e => ⟨(h.is e).1, fun a t ha => (h.is e).2 a t ha (hl _)⟩⟩
theorem OlSo.skip {f : Tt} {left : Lit → Bool} {n : Int} (h : OlSo f left n) {a : Int} {t : Tx} (hf : f a = some t) (hn : ¬ (t.fst ≠ 0 ∧ (n = 0 ∨ t.fst < n))) : OlSo f (fun z => left z && !z.sameKey (.int .i64 a)) n := by
  refine ⟨fun e b s hb hl => ?_, fun e => ⟨(h.is e).1, fun b s hb hl h0 => ?_⟩⟩
  · rcases (left_step (kl := .int .i64 a) trivial _).1 hl with l | l
    · exact h.no e b s hb l
    · injection l with _ l
      subst l
      rw [hf] at hb
      cases hb
      by_cases h0 : t.fst = 0
      · exact h0
      · exact absurd ⟨h0, .inl e⟩ hn
  · rcases (left_step (kl := .int .i64 a) trivial _).1 hl with l | l
    · exact (h.is e).2 b s hb l h0
    · injection l with _ l
      subst l
      rw [hf] at hb
      cases hb
      by_cases h1 : t.fst < n
      · exact absurd ⟨h0, .inr h1⟩ hn
      · omega
theorem OlSo.take {f : Tt} {left : Lit → Bool} {n : Int} (h : OlSo f left n) {a : Int} {t : Tx} (hf : f a = some t) (hn : t.fst ≠ 0 ∧ (n = 0 ∨ t.fst < n)) : OlSo f (fun z => left z && !z.sameKey (.int .i64 a)) t.fst := by
  refine ⟨fun e => absurd e hn.1, fun _ => ⟨⟨a, t, hf, rfl⟩, fun b s hb hl h0 => ?_⟩⟩
  rcases (left_step (kl := .int .i64 a) trivial _).1 hl with l | l
  · by_cases e : n = 0
    · exact absurd (h.no e b s hb l) h0
    · have := (h.is e).2 b s hb l h0
      rcases hn.2 with e2 | e2
      · exact absurd e2 e
      · omega
  · injection l with _ l
    subst l
    rw [hf] at hb
    cases hb
    exact Int.le_refl _
/-- A number was returned, of which Q. -/
structure RN (e : Ending) (Q : Int → Prop) : Prop where
  ex : ∃ x : Int, e = .returned (.int .i64 x) ∧ Q x
set_option maxRecDepth 100000 in
set_option maxHeartbeats 1600000 in
theorem first_any (w : World) (Z : Nat → Prop) (t m n : Nat) (g : Gm) (f : Tt) (H : Tabg w Z t m n g f) : Calls Try.prog 44 #[.map (some m)] w fun e w' => RN e (OlIs f) ∧ Only (fun _ => False) w w' := by
  have hml := H.own.lt
  obtain ⟨D, hown, hD⟩ := H.own
  have HD := hide hD
  have HH := hide H
  clear H hD
  go_enter Try.func44, Try.ntmps44
  go_wp2_with (first
    | (at_range; refine wpList_range_own _ rfl _ 61 rfl 3 67 keyedI Try.underlying61 _ m _ _ rfl hown ?_; intro w0 hrg0 hg0 hs0))
  go_frame
  obtain ⟨r, hr⟩ : ∃ r, w.heap.size = r := ⟨_, rfl⟩
  have HR0 : Hid (w0.ranges Try.prog 3 ptrElem m r n D (has D) (Maps.size D)) := by rw [← hr]; exact hrg0
  have HO0 : Hid (Only (fun _ => False) w w0) := Only.grown (S := fun _ => False) hg0 (fun k hk => by cases hk)
  have hs02 := hg0.size
  rw [hr] at hs02 hs0 hml ⊢
  have HRE := hide hr
  clear hr hrg0 hg0 hown
  go_loopw [3] (fun v wr => ∃ (left : Lit → Bool) (cnt : Nat) (n0 : Int), v = .int .i64 n0 ∧ Hid (wr.ranges Try.prog 3 ptrElem m r n D left cnt) ∧ Hid (OlSo f left n0) ∧ Hid (Only (fun _ => False) w wr) ∧ r < wr.heap.size)
    (fun _ wr => wr.rangeLeft m r)
  case atStart =>
    refine ⟨_, _, 0, rfl, HR0, ⟨fun _ a t' e l => ?_, fun h => absurd rfl h⟩, HO0, by omega⟩
    rw [HD.out.has, HH.out.dom a, e] at l
    cases l
  case round =>
    obtain ⟨left, cnt, n0, rfl, HR, HF, HO, hrs⟩ := hrel
    go_wp2_with (first
      | (at_next; refine wpList_next_ranges _ rfl _ rfl 3 keyedI ptrElem iv id inv_keyI inv_ptr m r _ _ _ _ rfl HR.out ?_ ?_))
    · intro hc0 hl0
      have HL := hide hl0
      clear hl0
      go_wp2_with fail
      go_ret
      exact ⟨⟨n0, rfl, HF.out.done (fun kl => by rw [HL.out])⟩, HO.out⟩
    · intro a c kl yd yp w2 cnt2 hkey hlk hv hat hrg2 hcl hg2 hs2 hen
      obtain ⟨rfl, b, hgb, rfl⟩ := entry_is HD.out hkey hv hat
      obtain ⟨s, tx, hf, hx, _⟩ := HH.out.at_ a b hgb
      have hO2 : Only (fun i => i = r) wr w2 := Only.grown hg2 (fun i hi => by cases hi; rfl)
      have HR2 := hide hrg2
      have HO2 : Hid (Only (fun _ => False) w w2) := HO.out.trans hO2 (fun i hi e => by have := HRE.out; omega)
      have HM : Hid (cnt2 < cnt) := hcl
      have HFX := hide hf
      have hgs := hg2.size
      have c3 := (hx.kept HO2.out id).c3
      obtain ⟨xi, hxi⟩ : ∃ z, tx.fst = z := ⟨_, rfl⟩
      rw [hxi] at c3
      have HXI := hide hxi
      unfold iv at hen
      unfold iv
      clear hkey hlk hv hat hrg2 hg2 hs2 hO2 hcl hf hx hxi hgb
      by_cases h0 : xi = 0
      · have hb : (xi != 0) = false := by simp [h0]
        have HF2 := hide (HF.out.skip HFX.out (fun e => e.1 (by rw [HXI.out]; exact h0)))
        clear h0
        go_wp2_with fail
        refine ⟨⟨_, cnt2, n0, rfl, HR2, HF2, HO2, by omega⟩, ?_⟩
        rw [HR2.out.left_eq, HR.out.left_eq]; exact HM.out
      · have hb : (xi != 0) = true := by simp [h0]
        have H0 := hide h0
        clear h0
        by_cases h1 : n0 = 0
        · have hb2 : (n0 == 0) = true := by simp [h1]
          have HF2 : Hid (OlSo f (fun z => left z && !z.sameKey (.int .i64 a)) xi) := by
            have := HF.out.take HFX.out ⟨by rw [HXI.out]; exact H0.out, .inl h1⟩
            rw [HXI.out] at this
            exact this
          clear h1
          go_wp2_with fail
          refine ⟨⟨_, cnt2, xi, rfl, HR2, HF2, HO2, by omega⟩, ?_⟩
          rw [HR2.out.left_eq, HR.out.left_eq]; exact HM.out
        · have hb2 : (n0 == 0) = false := by simp [h1]
          have H1 := hide h1
          clear h1
          by_cases h2 : xi < n0
          · have HF2 : Hid (OlSo f (fun z => left z && !z.sameKey (.int .i64 a)) xi) := by
              have := HF.out.take HFX.out ⟨by rw [HXI.out]; exact H0.out, .inr (by rw [HXI.out]; exact h2)⟩
              rw [HXI.out] at this
              exact this
            go_wp2_with fail
            refine ⟨⟨_, cnt2, xi, rfl, HR2, HF2, HO2, by omega⟩, ?_⟩
            rw [HR2.out.left_eq, HR.out.left_eq]; exact HM.out
          · have HF2 := hide (HF.out.skip HFX.out (fun e => e.2.elim H1.out (by rw [HXI.out]; exact h2)))
            go_wp2_with fail
            refine ⟨⟨_, cnt2, n0, rfl, HR2, HF2, HO2, by omega⟩, ?_⟩
            rw [HR2.out.left_eq, HR.out.left_eq]; exact HM.out
theorem oldest_nil (w : World) : Calls Try.prog 26 #[.pointer none] w fun e w' => e = .returned (.int .i64 0) ∧ w' = w := by
  go_enter Try.func26, Try.ntmps26
  go_wp2_with fail
  go_ret
  exact ⟨rfl, rfl⟩
theorem oldest_any (w : World) (Z : Nat → Prop) (t m n : Nat) (f : Tt) (H : Tab w Z t m n f) : Calls Try.prog 26 #[.pointer (some ⟨t, 0, none⟩)] w fun e w' => RN e (OlIs f) ∧ Only (fun _ => False) w w' := by
  obtain ⟨g, H⟩ := H
  have HC := hide (first_any w Z t m n g f H)
  have c0 := H.c0
  clear H
  go_enter Try.func26, Try.ntmps26
  go_wp2_with fail
  refine HC.out.mono ?_
  rintro e w1 ⟨⟨x, rfl, hx⟩, hO⟩
  have HX := hide hx
  have HO := hide hO
  clear hx hO HC
  go_wp2_with fail
  go_ret
  exact ⟨⟨x, rfl, HX.out⟩, HO.out⟩
end Go.Proofs.Ytmcghpeamnmbpaa
