/- What the document's Of, Take and Oldest do. -/
import Derived.Test.YtmcghpeamnmbpaaORef
namespace Go.Proofs.Ytmcghpeamnmbpaa
open Go.RowKit Go.Maps

/-- What the document's Of and End answer. -/
structure TxS (e : Ending) (w' : World) (x : Tx) (v : Value) : Prop where
  ex : ∃ a2 c2, e = .returned (.tuple #[txv x a2 c2, v]) ∧ Nm w' (fun _ => True) a2 x.act
set_option maxRecDepth 100000 in
set_option maxHeartbeats 1600000 in
theorem rof_any (w : World) (Y : Nat → Prop) (r n : Nat) (f : Tt) (ao : Option Addr) (cp : Nat) (R : List Rw) (H : Rm w Y r n f ao cp R) (hn : n ≤ 4398046511104) (a : Int) : Calls Try.prog 20 #[.pointer (some ⟨r, 0, none⟩), .int .i64 a] w fun e w' => TxS e w' (ofT f a) (.bool (f a).isSome) ∧ Only (fun _ => False) w w' := by
  have HO := hide (onlyA w #[.int .i64 0, .slice none 0 0, .int .i64 0, .int .i64 0, .int .i64 0, .int .i64 0] 37)
  have HZ := hide (zero_cb w)
  obtain ⟨W1, hW1⟩ : ∃ x, w.alloc (.cells #[.int .i64 0, .slice none 0 0, .int .i64 0, .int .i64 0, .int .i64 0, .int .i64 0] 37) = x := ⟨_, rfl⟩
  obtain ⟨sz, hsz⟩ : ∃ z, w.heap.size = z := ⟨_, rfl⟩
  rw [hW1] at HO HZ
  rw [hsz] at HZ
  have HW1 := hide hW1
  have HSZ := hide hsz
  have hH := H.more HO.out
  have HH := hide hH
  have hlen := H.hn
  have HC := hide (rat_any W1 Y r n f ao cp R hH hn a)
  have HOK := hide H.hi
  have HH0 := hide H
  clear H hH hW1 hsz
  go_enter Try.func20, Try.ntmps20
  go_upto_region 1 with fail
  rw [HW1.out, HSZ.out]
  go_wp2_with fail
  refine HC.out.mono ?_
  rintro e w2 ⟨⟨i, has, rfl, hA⟩, hO⟩
  have HA := hide hA
  have hz := HZ.out.more hO
  have HZ2 := hide hz
  have HO2 := hide (o2 HO.out hO)
  have hr := HH.out.more hO
  have HR2 := hide hr
  have z0 := hz.c 0 _ rfl
  have z1 := hz.c 1 _ rfl
  have z2 := hz.c 2 _ rfl
  have z3 := hz.c 3 _ rfl
  have z4 := hz.c 4 _ rfl
  have z5 := hz.c 5 _ rfl
  have y0 := hz.f 0
  have y1 := hz.f 1
  have y2 := hz.f 2
  have y3 := hz.f 3
  have y4 := hz.f 4
  have y5 := hz.f 5
  have c0 := hr.c0
  clear hA hz hO hr HC
  have hdone : ∀ v0 v1 v2 v3 v4 v5, Only (fun _ => False) w ((((((w2.setCell ⟨sz, 0, none⟩ v0).setCell ⟨sz, 1, none⟩ v1).setCell ⟨sz, 2, none⟩ v2).setCell ⟨sz, 3, none⟩ v3).setCell ⟨sz, 4, none⟩ v4).setCell ⟨sz, 5, none⟩ v5) := fun v0 v1 v2 v3 v4 v5 => HO2.out.trans (Only.six w2 sz v0 v1 v2 v3 v4 v5) (fun i hi e => by have := HSZ.out; omega)
  have HDONE := hide hdone
  clear hdone
  cases has with
  | false =>
    have hf := HOK.out.none HA.out
    have HF := hide hf
    clear hf
    go_wp2_with fail
    refine bodyPost_ret (results_tx rfl rfl (Cb.six HZ2.out _ _ _ _ _ _)) rfl ?_
    unfold ofT
    rw [HF.out]
    exact ⟨⟨none, 0, rfl, Nm.none _ _ _⟩, HDONE.out _ _ _ _ _ _⟩
  | true =>
    obtain ⟨hi, _, hf⟩ := HOK.out.some HA.out
    obtain ⟨g, rfl, _, _, _, hcp, _, k1, k2, k3, k4, k5, k6⟩ := HR2.out.row hi
    have hnm := HH0.out.nm R[i] (List.getElem_mem hi)
    obtain ⟨x, hx⟩ : ∃ x, R[i] = x := ⟨_, rfl⟩
    rw [hx] at k1 k2 k3 k4 k5 k6 hnm hf
    obtain ⟨xw, ⟨nx, xa, xc, act⟩, xi, fi, la, un⟩ := x
    simp only at k1 k2 k3 k4 k5 k6 hnm
    have HF := hide hf
    have HNM := hide hnm
    have hj0 : (0 : Int) ≤ (i : Int) := by omega
    have hj1 : (i : Int) < (R.length : Int) := by omega
    clear hx hf hnm
    go_wp2_with fail
    refine bodyPost_ret (results_tx rfl rfl (Cb.six HZ2.out _ _ _ _ _ _)) rfl ?_
    unfold ofT
    rw [HF.out]
    have hsz := HSZ.out
    have h9 := (HO2.out.mono (T := fun k => k = sz) (fun _ _ h => h.elim)).trans (Only.six w2 sz (.int .i64 nx) (.slice xa act.length xc) (.int .i64 xi) (.int .i64 fi) (.int .i64 la) (.int .i64 un)) (fun _ _ h => h)
    have hkept := (HNM.out.kept h9 (fun k hk _ e => by omega)).mono (R := fun _ => True) (fun _ _ _ => trivial)
    exact ⟨⟨xa, xc, rfl, hkept⟩, HDONE.out _ _ _ _ _ _⟩
set_option maxRecDepth 100000 in
set_option maxHeartbeats 1600000 in
theorem roldest_any (w : World) (Y : Nat → Prop) (r n : Nat) (f : Tt) (ao : Option Addr) (cp : Nat) (R : List Rw) (H : Rm w Y r n f ao cp R) (hn : n ≤ 4398046511104) : Calls Try.prog 41 #[.pointer (some ⟨r, 0, none⟩)] w fun e w' => RN e (OlIs f) ∧ Only (fun _ => False) w w' := by
  have c0 := H.c0
  have hlen := H.hn
  have HH := hide H
  clear H
  go_enter Try.func41, Try.ntmps41
  go_wp2_with fail
  go_loopw [3, 4] (fun v y wr => ∃ (j : Nat) (m : Int), j ≤ R.length ∧ v = .int .i64 m ∧ y = .int .i64 (j : Int) ∧ Hid (m = 0 → ∀ q (hq : q < R.length), q < j → R[q].fst = 0) ∧ Hid (m ≠ 0 → (∃ q, ∃ hq : q < R.length, R[q].fst = m) ∧ ∀ q (hq : q < R.length), q < j → R[q].fst ≠ 0 → m ≤ R[q].fst) ∧ Hid (Only (fun _ => False) w wr)) (fun _ y _ => R.length - (intOf y).toNat)
  case atStart => exact ⟨0, 0, by omega, rfl, rfl, (fun _ q _ h => by omega), (fun h => absurd rfl h), Only.refl _ _⟩
  case round =>
    obtain ⟨j, m, hj, rfl, rfl, HQ, HP, HO⟩ := hrel
    have hr := HH.out.more HO.out
    have c0r := hr.c0
    by_cases hlt : j < R.length
    · obtain ⟨g, rfl, _, _, _, hcp, _, k1, k2, k3, k4, k5, k6⟩ := hr.row hlt
      have hj0 : (0 : Int) ≤ (j : Int) := by omega
      have hj1 : (j : Int) < (R.length : Int) := by omega
      obtain ⟨x, hx⟩ : ∃ x, R[j] = x := ⟨_, rfl⟩
      rw [hx] at k1 k2 k3 k4 k5 k6
      obtain ⟨xw, ⟨nx, xa, xc, act⟩, xi, fi, la, un⟩ := x
      simp only at k1 k2 k3 k4 k5 k6
      have HX : Hid (R[j].fst = fi) := by unfold Hid; rw [hx]
      have HO2 : Hid (Only (fun _ => False) w (wr.alloc (.cells #[.int .i64 nx, .slice xa act.length xc, .int .i64 xi, .int .i64 fi, .int .i64 la, .int .i64 un] 37))) := o2 HO.out (onlyA _ _ _)
      clear hx hr
      by_cases h0 : fi = 0
      · have hb : (fi != 0) = false := by simp [h0]
        have H1 : Hid (m = 0 → ∀ q (hq : q < R.length), q < j + 1 → R[q].fst = 0) := fun e q hq hqj => by
          by_cases eq : q = j
          · subst eq; rw [HX.out, h0]
          · exact HQ.out e q hq (by omega)
        have H2 : Hid (m ≠ 0 → (∃ q, ∃ hq : q < R.length, R[q].fst = m) ∧ ∀ q (hq : q < R.length), q < j + 1 → R[q].fst ≠ 0 → m ≤ R[q].fst) := fun e => ⟨(HP.out e).1, fun q hq hqj h1 => by
          by_cases eq : q = j
          · subst eq; rw [HX.out] at h1; exact absurd h0 h1
          · exact (HP.out e).2 q hq (by omega) h1⟩
        clear h0
        go_wp2_with fail
        exact ⟨⟨j + 1, m, by omega, rfl, by go_num, H1, H2, HO2⟩, by simp [intOf]; omega⟩
      · have hb : (fi != 0) = true := by simp [h0]
        have HF0 := hide h0
        clear h0
        have H1 : Hid (fi = 0 → ∀ q (hq : q < R.length), q < j + 1 → R[q].fst = 0) := fun e => absurd e HF0.out
        by_cases hm : m = 0
        · have hb2 : (m == 0) = true := by simp [hm]
          have H2 : Hid (fi ≠ 0 → (∃ q, ∃ hq : q < R.length, R[q].fst = fi) ∧ ∀ q (hq : q < R.length), q < j + 1 → R[q].fst ≠ 0 → fi ≤ R[q].fst) := fun _ => ⟨⟨j, hlt, HX.out⟩, fun q hq hqj h1 => by
            by_cases eq : q = j
            · subst eq; rw [HX.out]; omega
            · exact absurd (HQ.out hm q hq (by omega)) h1⟩
          clear hm
          go_wp2_with fail
          exact ⟨⟨j + 1, fi, by omega, rfl, by go_num, H1, H2, HO2⟩, by simp [intOf]; omega⟩
        · have hb2 : (m == 0) = false := by simp [hm]
          have HM := hide hm
          clear hm
          by_cases hl : fi < m
          · have H2 : Hid (fi ≠ 0 → (∃ q, ∃ hq : q < R.length, R[q].fst = fi) ∧ ∀ q (hq : q < R.length), q < j + 1 → R[q].fst ≠ 0 → fi ≤ R[q].fst) := fun _ => ⟨⟨j, hlt, HX.out⟩, fun q hq hqj h1 => by
              by_cases eq : q = j
              · subst eq; rw [HX.out]; omega
              · have := (HP.out HM.out).2 q hq (by omega) h1
                omega⟩
            go_wp2_with fail
            exact ⟨⟨j + 1, fi, by omega, rfl, by go_num, H1, H2, HO2⟩, by simp [intOf]; omega⟩
          · have H3 : Hid (m = 0 → ∀ q (hq : q < R.length), q < j + 1 → R[q].fst = 0) := fun e => absurd e HM.out
            have H2 : Hid (m ≠ 0 → (∃ q, ∃ hq : q < R.length, R[q].fst = m) ∧ ∀ q (hq : q < R.length), q < j + 1 → R[q].fst ≠ 0 → m ≤ R[q].fst) := fun e => ⟨(HP.out e).1, fun q hq hqj h1 => by
              by_cases eq : q = j
              · subst eq; rw [HX.out]; omega
              · exact (HP.out e).2 q hq (by omega) h1⟩
            go_wp2_with fail
            exact ⟨⟨j + 1, m, by omega, rfl, by go_num, H3, H2, HO2⟩, by simp [intOf]; omega⟩
    · have HE : Hid (OlIs f m) := by
        refine ⟨fun e a t h => ?_, fun e => ?_⟩
        · obtain ⟨x, hx, _, rfl⟩ := (HH.out.hi.mem a t).1 h
          obtain ⟨q, hq, rfl⟩ := List.getElem_of_mem hx
          exact HQ.out e q hq (by omega)
        · obtain ⟨⟨q, hq, h1⟩, h2⟩ := HP.out e
          refine ⟨⟨R[q].who, R[q].tx, (HH.out.hi.mem _ _).2 ⟨R[q], List.getElem_mem hq, rfl, rfl⟩, h1⟩, fun a t h h0 => ?_⟩
          obtain ⟨x, hx, _, rfl⟩ := (HH.out.hi.mem a t).1 h
          obtain ⟨q', hq', rfl⟩ := List.getElem_of_mem hx
          exact h2 q' hq' (by omega) h0
      clear hr
      go_wp2_with fail
      go_ret
      exact ⟨⟨m, rfl, HE.out⟩, HO.out⟩
end Go.Proofs.Ytmcghpeamnmbpaa
