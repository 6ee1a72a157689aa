/- What Find does. -/
import Derived.Test.YtahmmhmahglonaaEWalkA
namespace Go.Proofs.Ytahmmhmahglonaa
open Go.RowKit Go.Maps

def iv (x : Int) : Value := .int .i64 x
theorem inv_keyI : ∀ key kl, keyOf Try.prog 3 key = some kl → ∃ x : Int, key = iv x := fun key kl hk => by
  obtain ⟨x, rfl, _⟩ := Maps.keyOf_int_inv Try.underlying3 hk
  exact ⟨x, rfl⟩
theorem inv_intElem : ∀ v y, intElem v = some y → ∃ c : Int, v = iv c := fun v y hv => by
  obtain ⟨c, rfl, _⟩ := intElem_inv hv
  exact ⟨c, rfl⟩
theorem eentry_is {D : DataW Unit} {f : Kn} (hD : SpD D f) {x c : Int} {kl : Lit} {y : DataW Unit × List MemPlace} (hkey : keyOf Try.prog 3 (iv x) = some kl) (hv : intElem (iv c) = some y) (hat : ∀ zd, D.atKey kl zd = y.1) :
    kl = .int .i64 x ∧ f x = some c := by
  obtain ⟨x', ex, rfl, _⟩ := Maps.keyOf_int_inv Try.underlying3 hkey
  unfold iv at ex
  cases ex
  have hh := Maps.has_true_of_atKey hat
  obtain ⟨n, e1, rfl⟩ := intElem_inv hv
  unfold iv at e1
  cases e1
  have hs : (f x).isSome = true := by rw [← hD.has x]; exact hh
  obtain ⟨b, hb⟩ := Option.isSome_iff_exists.1 hs
  have h1 := hD.at_ x b hb (.lit (.string []))
  rw [hat] at h1
  simp only [DataW.lit.injEq, Lit.int.injEq, true_and] at h1
  exact ⟨rfl, by rw [hb, h1]⟩
theorem left_step {left : Lit → Bool} {kl : Lit} (hk : WideAt.IsKeyLit kl) (z : Lit) : (left z && !z.sameKey kl) = false ↔ (left z = false ∨ z = kl) := by
  by_cases e : z = kl
  · subst e
    rw [WideAt.sameKey_self hk]
    simp
  · rw [sameKey_ne e]
    simp [e]
/-- The least of the pages met so far that have so much room. -/
structure FdSo (f : Kn) (room : Int) (left : Lit → Bool) (p : Int) (ok : Bool) : Prop where
  no : ok = false → p = 0 ∧ ∀ x b, f x = some b → left (.int .i64 x) = false → b < room
  is : ok = true → (∃ b, f p = some b ∧ room ≤ b) ∧ ∀ x b, f x = some b → left (.int .i64 x) = false → room ≤ b → p ≤ x
/-- The least page that has so much room. -/
structure FdIs (f : Kn) (room : Int) (p : Int) (ok : Bool) : Prop where
  no : ok = false → p = 0 ∧ ∀ x b, f x = some b → b < room
  is : ok = true → (∃ b, f p = some b ∧ room ≤ b) ∧ ∀ x b, f x = some b → room ≤ b → p ≤ x
theorem FdIs.one {f : Kn} {room p q : Int} {ok also : Bool} (h : FdIs f room p ok) (k : FdIs f room q also) : q = p ∧ also = ok := by
  cases ok with
  | false =>
    cases also with
    | false => exact ⟨by rw [(h.no rfl).1, (k.no rfl).1], rfl⟩
    | true =>
      obtain ⟨⟨b, h1, h2⟩, _⟩ := k.is rfl
      have := (h.no rfl).2 _ _ h1
      omega
  | true =>
    obtain ⟨⟨b, h1, h2⟩, h3⟩ := h.is rfl
    cases also with
    | false =>
      have := (k.no rfl).2 _ _ h1
      omega
    | true =>
      obtain ⟨⟨c, k1, k2⟩, k3⟩ := k.is rfl
      have a1 := h3 _ _ k1 k2
      have a2 := k3 _ _ h1 h2
      exact ⟨by omega, rfl⟩
theorem FdSo.start {D : DataW Unit} {f : Kn} (hD : SpD D f) (room : Int) : FdSo f room (Maps.has D) 0 false :=
  ⟨fun _ => ⟨rfl, fun x b h1 h2 => by rw [hD.has, h1] at h2; cases h2⟩, (fun h => by cases h)⟩
theorem FdSo.done {f : Kn} {room p : Int} {ok : Bool} {left : Lit → Bool} (h : FdSo f room left p ok) (hl : ∀ kl, left kl = false) : FdIs f room p ok :=
  ⟨fun e => ⟨(h.no e).1, fun x b h1 => (h.no e).2 x b h1 (hl _)⟩, fun e => ⟨(h.is e).1, fun x b h1 h2 => (h.is e).2 x b h1 (hl _) h2⟩⟩
theorem FdSo.skip {f : Kn} {room p : Int} {ok : Bool} {left : Lit → Bool} (h : FdSo f room left p ok) {x c : Int} (hf : f x = some c) (hn : ¬ (room ≤ c ∧ (ok = false ∨ x < p))) : FdSo f room (fun z => left z && !z.sameKey (.int .i64 x)) p ok := by
  refine ⟨fun e => ⟨(h.no e).1, fun y b h1 h2 => ?_⟩, fun e => ⟨(h.is e).1, fun y b h1 h2 h3 => ?_⟩⟩
  · rcases (left_step (kl := .int .i64 x) trivial _).1 h2 with h2 | h2
    · exact (h.no e).2 y b h1 h2
    · injection h2 with _ h2
      subst h2
      rw [hf] at h1
      cases h1
      by_cases hr : room ≤ c
      · exact absurd ⟨hr, .inl e⟩ hn
      · omega
  · rcases (left_step (kl := .int .i64 x) trivial _).1 h2 with h2 | h2
    · exact (h.is e).2 y b h1 h2 h3
    · injection h2 with _ h2
      subst h2
      rw [hf] at h1
      cases h1
      by_cases hr : y < p
      · exact absurd ⟨h3, .inr hr⟩ hn
      · omega
theorem FdSo.take {f : Kn} {room p : Int} {ok : Bool} {left : Lit → Bool} (h : FdSo f room left p ok) {x c : Int} (hf : f x = some c) (hn : room ≤ c ∧ (ok = false ∨ x < p)) : FdSo f room (fun z => left z && !z.sameKey (.int .i64 x)) x true := by
  refine ⟨(fun e => by cases e), fun e => ⟨⟨c, hf, hn.1⟩, fun y b h1 h2 h3 => ?_⟩⟩
  rcases (left_step (kl := .int .i64 x) trivial _).1 h2 with h2 | h2
  · cases ok with
    | false =>
      have := (h.no rfl).2 y b h1 h2
      omega
    | true =>
      have := (h.is rfl).2 y b h1 h2 h3
      rcases hn.2 with e | e
      · cases e
      · omega
  · injection h2 with _ h2
    omega
set_option maxRecDepth 100000 in
set_option maxHeartbeats 1600000 in
theorem efind_any (w : World) (t m n : Nat) (f : Kn) (H : Spm w t m n f) (room : Int) : Calls Try.prog 13 #[.pointer (some ⟨t, 0, none⟩), .int .i64 room] w fun e w' =>
    ∃ p ok, e = .returned (.tuple #[.int .i64 p, .bool ok]) ∧ FdIs f room p ok ∧ Only (fun _ => False) w w' := by
  have c0 := H.c0
  have hml := H.sizes.2
  obtain ⟨D, hown, hD⟩ := H.own
  have HD := hide hD
  clear H hD
  go_enter Try.func13, Try.ntmps13
  go_wp2_with (first
    | (at_range; refine wpList_range_own _ rfl _ 41 rfl 3 3 keyedI Try.underlying41 _ m _ _ rfl hown ?_; intro w0 hrg0 hg0 hs0))
  go_frame
  obtain ⟨r, hr⟩ : ∃ r, w.heap.size = r := ⟨_, rfl⟩
  have HR0 : Hid (w0.ranges Try.prog 3 intElem m r n D (has D) (Maps.size D)) := by rw [← hr]; exact hrg0
  have HO0 : Hid (Only (fun _ => False) w w0) := Only.grown (S := fun _ => False) hg0 (fun k hk => by cases hk)
  have hs02 := hg0.size
  rw [hr] at hs02 hs0 hml ⊢
  have HRE := hide hr
  clear hr hrg0 hg0 c0 hown
  go_loopw [6, 7] (fun v6 v7 wr => ∃ (left : Lit → Bool) (cnt : Nat) (p : Int) (ok : Bool), v6 = .int .i64 p ∧ v7 = .bool ok ∧ Hid (wr.ranges Try.prog 3 intElem m r n D left cnt) ∧
      Hid (FdSo f room left p ok) ∧ Hid (Only (fun _ => False) w wr) ∧ r < wr.heap.size)
    (fun _ _ wr => wr.rangeLeft m r)
  case atStart => exact ⟨_, _, 0, false, rfl, rfl, HR0, hide (FdSo.start HD.out room), HO0, by omega⟩
  case round =>
    obtain ⟨left, cnt, p, ok, rfl, rfl, HR, HF, HO, hrs⟩ := hrel
    go_wp2_with (first
      | (at_next; refine wpList_next_ranges _ rfl _ rfl 3 keyedI intElem iv iv inv_keyI inv_intElem m r _ _ _ _ rfl HR.out ?_ ?_))
    · intro hc0 hl0
      have HL := hide hl0
      clear hl0
      go_wp2_with fail
      go_ret2
      refine ⟨_, _, rfl, HF.out.done (fun kl => ?_), HO.out⟩
      rw [HL.out]
    · intro x c kl yd yp w2 cnt2 hkey hlk hv hat hrg2 hcl hg2 hs2 hen
      obtain ⟨rfl, hf⟩ := eentry_is HD.out hkey hv hat
      have hO2 : Only (fun i => i = r) wr w2 := Only.grown hg2 (fun i hi => by cases hi; rfl)
      have HR2 := hide hrg2
      have HO2 : Hid (Only (fun _ => False) w w2) := HO.out.trans hO2 (fun i hi e => by have := HRE.out; omega)
      have HM : Hid (cnt2 < cnt) := hcl
      have HFX := hide hf
      have hgs := hg2.size
      unfold iv at hen
      unfold iv
      clear hkey hlk hv hat hrg2 hg2 hs2 hO2 hcl hf
      by_cases hr : room ≤ c
      · cases ok with
        | false =>
          have HF2 := hide (HF.out.take HFX.out ⟨hr, .inl rfl⟩)
          go_wp2_with fail
          refine ⟨⟨_, cnt2, x, true, rfl, rfl, HR2, HF2, HO2, by omega⟩, ?_⟩
          rw [HR2.out.left_eq, HR.out.left_eq]; exact HM.out
        | true =>
          by_cases hx : x < p
          · have HF2 := hide (HF.out.take HFX.out ⟨hr, .inr hx⟩)
            go_wp2_with fail
            refine ⟨⟨_, cnt2, x, true, rfl, rfl, HR2, HF2, HO2, by omega⟩, ?_⟩
            rw [HR2.out.left_eq, HR.out.left_eq]; exact HM.out
          · have HF2 := hide (HF.out.skip HFX.out (by rintro ⟨_, e | e⟩; cases e; exact hx e))
            go_wp2_with fail
            refine ⟨⟨_, cnt2, p, true, rfl, rfl, HR2, HF2, HO2, by omega⟩, ?_⟩
            rw [HR2.out.left_eq, HR.out.left_eq]; exact HM.out
      · have HF2 := hide (HF.out.skip HFX.out (fun e => hr e.1))
        go_wp2_with fail
        refine ⟨⟨_, cnt2, p, ok, rfl, rfl, HR2, HF2, HO2, by omega⟩, ?_⟩
        rw [HR2.out.left_eq, HR.out.left_eq]; exact HM.out
end Go.Proofs.Ytahmmhmahglonaa
