/- What taken and Take do. -/
import Derived.Test.YtmcghpeamnmbpaaOFind
namespace Go.Proofs.Ytmcghpeamnmbpaa
open Go.RowKit Go.Maps

theorem inv_keyI : ∀ key kl, keyOf Try.prog 3 key = some kl → ∃ x : Int, key = iv x := fun key kl hk => by
  obtain ⟨x, rfl, _⟩ := Maps.keyOf_int_inv Try.underlying3 hk
  exact ⟨x, rfl⟩
theorem inv_ptr : ∀ v y, ptrElem v = some y → ∃ c : Value, v = id c := fun v _ _ => ⟨v, rfl⟩
theorem entry_is {D : DataW Value} {g : Gm} (hD : OpD D g) {x : Int} {c : Value} {kl : Lit} {y : DataW Value × List MemPlace} (hkey : keyOf Try.prog 3 (iv x) = some kl) (hv : ptrElem c = some y) (hat : ∀ zd, D.atKey kl zd = y.1) :
    kl = .int .i64 x ∧ ∃ b, g x = some b ∧ c = .pointer (some ⟨b, 0, none⟩) := by
  obtain ⟨x', ex, rfl, _⟩ := Maps.keyOf_int_inv Try.underlying3 hkey
  unfold iv at ex
  cases ex
  have hh := Maps.has_true_of_atKey hat
  have hs : (g x).isSome = true := by rw [← hD.has x]; exact hh
  obtain ⟨b, hb⟩ := Option.isSome_iff_exists.1 hs
  have h1 := hD.at_ x b hb (.held .nilFunc)
  unfold ptrElem at hv
  cases hv
  rw [hat] at h1
  injection h1 with h1
  exact ⟨rfl, b, hb, h1⟩
theorem left_step {left : Lit → Bool} {kl : Lit} (hk : WideAt.IsKeyLit kl) (z : Lit) : (left z && !z.sameKey kl) = false ↔ (left z = false ∨ z = kl) := by
  by_cases e : z = kl
  · subst e
    rw [WideAt.sameKey_self hk]
    simp
  · rw [sameKey_ne e]
    simp [e]
/-- None of those met so far has that id. -/
def NoYet (f : Tt) (x : Int) (left : Lit → Bool) : Prop := ∀ a t, f a = some t → left (.int .i64 a) = false → t.xid ≠ x
theorem NoYet.step {f : Tt} {x a : Int} {t : Tx} {left : Lit → Bool} (h : NoYet f x left) (hf : f a = some t) (hx : t.xid ≠ x) : NoYet f x (fun z => left z && !z.sameKey (.int .i64 a)) := fun c s e l => by
  rcases (left_step (kl := .int .i64 a) trivial _).1 l with l | l
  · exact h c s e l
  · injection l with _ l
    subst l
    rw [hf] at e
    cases e
    exact hx
set_option maxRecDepth 100000 in
set_option maxHeartbeats 1600000 in
open Classical in
theorem taken_any (w : World) (Z : Nat → Prop) (t m n : Nat) (g : Gm) (f : Tt) (H : Tabg w Z t m n g f) (x : Int) : Calls Try.prog 35 #[.map (some m), .int .i64 x] w fun e w' =>
    e = .returned (.bool (decide (f.Has x))) ∧ Only (fun _ => False) w w' := by
  have hml := H.own.lt
  obtain ⟨D, hown, hD⟩ := H.own
  have HD := hide hD
  have HH := hide H
  clear H hD
  go_enter Try.func35, Try.ntmps35
  go_wp2_with (first
    | (at_range; refine wpList_range_own _ rfl _ 61 rfl 3 67 keyedI Try.underlying61 _ m _ _ rfl hown ?_; intro w0 hrg0 hg0 hs0))
  go_frame
  obtain ⟨r, hr⟩ : ∃ r, w.heap.size = r := ⟨_, rfl⟩
  have HR0 : Hid (w0.ranges Try.prog 3 ptrElem m r n D (has D) (Maps.size D)) := by rw [← hr]; exact hrg0
  have HO0 : Hid (Only (fun _ => False) w w0) := Only.grown (S := fun _ => False) hg0 (fun k hk => by cases hk)
  have hs02 := hg0.size
  rw [hr] at hs02 hs0 hml ⊢
  have HRE := hide hr
  clear hr hrg0 hg0 hown
  go_loopw [9] (fun _ wr => ∃ (left : Lit → Bool) (cnt : Nat), Hid (wr.ranges Try.prog 3 ptrElem m r n D left cnt) ∧ Hid (NoYet f x left) ∧ Hid (Only (fun _ => False) w wr) ∧ r < wr.heap.size)
    (fun _ wr => wr.rangeLeft m r)
  case atStart => exact ⟨_, _, HR0, hide (fun a t' e l => by rw [HD.out.has, HH.out.dom a, e] at l; cases l), HO0, by omega⟩
  case round =>
    obtain ⟨left, cnt, HR, HF, HO, hrs⟩ := hrel
    go_wp2_with (first
      | (at_next; refine wpList_next_ranges _ rfl _ rfl 3 keyedI ptrElem iv id inv_keyI inv_ptr m r _ _ _ _ rfl HR.out ?_ ?_))
    · intro hc0 hl0
      have HL := hide hl0
      clear hl0
      go_wp2_with fail
      go_ret
      have hno : ¬ f.Has x := by
        rintro ⟨a, t', e, ex⟩
        exact HF.out a t' e (by rw [HL.out]) ex
      rw [decide_eq_false hno]
      exact ⟨rfl, HO.out⟩
    · intro a c kl yd yp w2 cnt2 hkey hlk hv hat hrg2 hcl hg2 hs2 hen
      obtain ⟨rfl, b, hgb, rfl⟩ := entry_is HD.out hkey hv hat
      obtain ⟨s, tx, hf, hx, _⟩ := HH.out.at_ a b hgb
      have hO2 : Only (fun i => i = r) wr w2 := Only.grown hg2 (fun i hi => by cases hi; rfl)
      have HR2 := hide hrg2
      have HO2 : Hid (Only (fun _ => False) w w2) := HO.out.trans hO2 (fun i hi e => by have := HRE.out; omega)
      have HM : Hid (cnt2 < cnt) := hcl
      have HFX := hide hf
      have hgs := hg2.size
      have c2 := (hx.kept HO2.out id).c2
      obtain ⟨xi, hxi⟩ : ∃ z, tx.xid = z := ⟨_, rfl⟩
      rw [hxi] at c2
      have HXI := hide hxi
      unfold iv at hen
      unfold iv
      clear hkey hlk hv hat hrg2 hg2 hs2 hO2 hcl hf hx hxi hgb
      by_cases he : xi = x
      · have hb : (xi == x) = true := by simp [he]
        have HE := hide he
        clear he
        go_wp2_with fail
        go_ret
        have hyes : f.Has x := ⟨a, tx, HFX.out, HXI.out.trans HE.out⟩
        rw [decide_eq_true hyes]
        exact ⟨rfl, HO2.out⟩
      · have hb : (xi == x) = false := by simp [he]
        have HF2 := hide (HF.out.step HFX.out (by rw [HXI.out]; exact he))
        clear he
        go_wp2_with fail
        refine ⟨⟨_, cnt2, HR2, HF2, HO2, by omega⟩, ?_⟩
        rw [HR2.out.left_eq, HR.out.left_eq]; exact HM.out
theorem take_nil (w : World) (a x : Int) : Calls Try.prog 12 #[.pointer none, .int .i64 a, .int .i64 x] w fun e w' => e = .returned (.int .i64 2) ∧ w' = w := by
  go_enter Try.func12, Try.ntmps12
  go_wp2_with fail
  refine (find_nil _ a).mono ?_
  rintro e w1 ⟨rfl, rfl⟩
  go_wp2_with fail
  go_ret
  exact ⟨rfl, rfl⟩
set_option maxRecDepth 100000 in
set_option maxHeartbeats 800000 in
open Classical in
theorem take_any (w : World) (Z : Nat → Prop) (t m n : Nat) (g : Gm) (f : Tt) (H : Tabg w Z t m n g f) (a : Int) (ha : N64 a) (x : Int) : Calls Try.prog 12 #[.pointer (some ⟨t, 0, none⟩), .int .i64 a, .int .i64 x] w fun e w' =>
    e = .returned (.int .i64 (takeE f a x)) ∧ Tab w' Z t m n (takeF f a x) ∧ Only Z w w' := by
  unfold takeE takeF
  cases hf : f a with
  | none =>
    have HC := hide (find_no _ Z t m n g f H a ha hf)
    have HH := hide H
    clear H ha hf
    simp only
    go_enter Try.func12, Try.ntmps12
    go_wp2_with fail
    refine HC.out.mono ?_
    rintro e w1 ⟨rfl, rfl⟩
    go_wp2_with fail
    go_ret
    exact ⟨rfl, ⟨g, HH.out⟩, Only.refl _ _⟩
  | some tx =>
    simp only
    obtain ⟨b, s, hg, hx, hnm, hz, hbt, hbm⟩ := H.yes hf
    have HC := hide (find_yes _ Z t m n g f H a ha b hg)
    have HX := hide (hasXid_any w b s tx hx)
    have HT := hide (taken_any w Z t m n g f H x)
    have hc0 := H.c0
    have HH := hide H
    have HXX := hide hx
    have HK : Hid (¬ (x < 1 ∨ tx.xid ≠ 0 ∨ f.Has x) → ∀ w1 w', Only (fun _ => False) w w1 → Txm w' b s (tx.take x) → Only (fun i => i = b) w1 w' → Tab w' Z t m n (f.set a (tx.take x))) := fun hc w1 w' h1 hy ho => by
      refine ⟨g, (H.more h1).mod (Nat.le_refl n) hf hg ho hy rfl (hnm.more h1) ?_⟩
      have := takeF_ok H.ok a x
      unfold takeF at this
      rw [hf] at this
      simp only [if_neg hc] at this
      exact this
    have HZ := hide hz
    clear H ha hf hg hx hnm hz hbt hbm
    by_cases h1 : x < 1
    · have hc : x < 1 ∨ tx.xid ≠ 0 ∨ f.Has x := .inl h1
      simp only [if_pos hc]
      clear hc HK HXX
      go_enter Try.func12, Try.ntmps12
      go_wp2_with fail
      refine HC.out.mono ?_
      rintro e w1 ⟨rfl, rfl⟩
      go_wp2_with fail
      go_ret
      exact ⟨rfl, ⟨g, HH.out⟩, Only.refl _ _⟩
    · by_cases h0 : tx.xid = 0
      · have hb : (tx.xid != 0) = false := by simp [h0]
        simp only [hb] at HX
        by_cases hh : f.Has x
        · have hc : x < 1 ∨ tx.xid ≠ 0 ∨ f.Has x := .inr (.inr hh)
          simp only [if_pos hc]
          rw [decide_eq_true hh] at HT
          clear hc HK HXX hb h0 hh
          go_enter Try.func12, Try.ntmps12
          go_wp2_with fail
          refine HC.out.mono ?_
          rintro e w1 ⟨rfl, rfl⟩
          go_wp2_with fail
          refine HX.out.mono ?_
          rintro e w1 ⟨rfl, rfl⟩
          go_wp2_with fail
          refine HT.out.mono ?_
          rintro e w1 ⟨rfl, hO⟩
          have HO := hide hO
          clear hO
          go_wp2_with fail
          go_ret
          exact ⟨rfl, ⟨g, HH.out.more HO.out⟩, HO.out.mono (fun _ _ h => h.elim)⟩
        · have hc : ¬ (x < 1 ∨ tx.xid ≠ 0 ∨ f.Has x) := by
            rintro (e | e | e)
            · exact h1 e
            · exact e h0
            · exact hh e
          simp only [if_neg hc]
          have HHC := hide hc
          rw [decide_eq_false hh] at HT
          clear hc hb h0 hh
          go_enter Try.func12, Try.ntmps12
          go_wp2_with fail
          refine HC.out.mono ?_
          rintro e w1 ⟨rfl, rfl⟩
          go_wp2_with fail
          refine HX.out.mono ?_
          rintro e w1 ⟨rfl, rfl⟩
          go_wp2_with fail
          refine HT.out.mono ?_
          rintro e w1 ⟨rfl, hO⟩
          have HO := hide hO
          have hx1 := HXX.out.kept hO id
          have HX1 := hide hx1
          have c2 := hx1.c2
          have f2 := Cb.f hx1 2
          clear hO hx1 hc0
          go_wp2_with fail
          go_ret
          exact ⟨rfl, HK.out HHC.out _ _ HO.out (Cb.set HX1.out 2 _) (Only.put _ _ _ _), (HO.out.mono (T := Z) (fun _ _ h => h.elim)).trans (Only.put _ _ _ _) (fun i _ e => by rw [e]; exact HZ.out)⟩
      · have hb : (tx.xid != 0) = true := by simp [h0]
        simp only [hb] at HX
        have hc : x < 1 ∨ tx.xid ≠ 0 ∨ f.Has x := .inr (.inl h0)
        simp only [if_pos hc]
        clear hc HK HXX hb h0
        go_enter Try.func12, Try.ntmps12
        go_wp2_with fail
        refine HC.out.mono ?_
        rintro e w1 ⟨rfl, rfl⟩
        go_wp2_with fail
        refine HX.out.mono ?_
        rintro e w1 ⟨rfl, rfl⟩
        go_wp2_with fail
        go_ret
        exact ⟨rfl, ⟨g, HH.out⟩, Only.refl _ _⟩
end Go.Proofs.Ytmcghpeamnmbpaa
