/- The walk of DiskPlays. -/
import Derived.Test.YtachbonlakbjmaaDAlikeW
namespace Go.Proofs.Ytachbonlakbjmaa
open Go.RowKit

theorem Both.keep {S : Nat → Prop} {w w' : World} {d g m x a b c ka kb kc : Nat} {D : Dk} (h : Both w d g m x a b c ka kb kc D) (ho : Only S w w') (hS : ∀ k, bown d g m x a b c k → ¬ S k) : Both w' d g m x a b c ka kb kc D :=
  ⟨h.one.kept ho (hS _ (.inl (.inl rfl))) (hS _ (.inl (.inr (.inl rfl)))) (hS _ (.inl (.inr (.inr rfl)))), h.two.kept ho (hS _ (.inr (.inl rfl))) (hS _ (.inr (.inr (.inl rfl)))) (hS _ (.inr (.inr (.inr (.inl rfl))))) (hS _ (.inr (.inr (.inr (.inr rfl))))), h.off⟩
/-- Two disks, each with the document's one. -/
structure Run2 (w wr : World) (d g m x a b c ka kb kc d' g' m' x' a' b' c' ka' kb' kc' : Nat) (D C : Dk) : Prop where
  one : Both wr d g m x a b c ka kb kc D
  two : Both wr d' g' m' x' a' b' c' ka' kb' kc' C
  only : Only (fun k => w.heap.size ≤ k) w wr
/-- The blocks of the two lie apart, and all are new. -/
structure Far (s t d g m x a b c d' g' m' x' a' b' c' : Nat) : Prop where
  one : ∀ k, bown d g m x a b c k → s ≤ k ∧ k < t
  two : ∀ k, bown d' g' m' x' a' b' c' k → s ≤ k ∧ t ≤ k
theorem Run2.first {w wr w' : World} {t d g m x a b c ka kb kc d' g' m' x' a' b' c' ka' kb' kc' : Nat} {D C D' : Dk} (h : Run2 w wr d g m x a b c ka kb kc d' g' m' x' a' b' c' ka' kb' kc' D C) (hf : Far w.heap.size t d g m x a b c d' g' m' x' a' b' c') (hb : Both w' d g m x a b c ka kb kc D') (ho : Only (bown d g m x a b c) wr w') : Run2 w w' d g m x a b c ka kb kc d' g' m' x' a' b' c' ka' kb' kc' D' C :=
  ⟨hb, h.two.keep ho (fun k hk e => by have h1 := (hf.two k hk).2; have h2 := (hf.one k e).2; omega), h.only.trans ho (fun k _ hk => (hf.one k hk).1)⟩
theorem Run2.second {w wr w' : World} {t d g m x a b c ka kb kc d' g' m' x' a' b' c' ka' kb' kc' : Nat} {D C C' : Dk} (h : Run2 w wr d g m x a b c ka kb kc d' g' m' x' a' b' c' ka' kb' kc' D C) (hf : Far w.heap.size t d g m x a b c d' g' m' x' a' b' c') (hb : Both w' d' g' m' x' a' b' c' ka' kb' kc' C') (ho : Only (bown d' g' m' x' a' b' c') wr w') : Run2 w w' d g m x a b c ka kb kc d' g' m' x' a' b' c' ka' kb' kc' D C' :=
  ⟨h.one.keep ho (fun k hk e => by have h1 := (hf.one k hk).2; have h2 := (hf.two k e).2; omega), hb, h.only.trans ho (fun k _ hk => (hf.two k hk).1)⟩
theorem Run2.more {w wr w' : World} {d g m x a b c ka kb kc d' g' m' x' a' b' c' ka' kb' kc' : Nat} {D C : Dk} (h : Run2 w wr d g m x a b c ka kb kc d' g' m' x' a' b' c' ka' kb' kc' D C) (ho : Only (fun _ => False) wr w') : Run2 w w' d g m x a b c ka kb kc d' g' m' x' a' b' c' ka' kb' kc' D C :=
  ⟨h.one.same ho, h.two.same ho, h.only.trans ho (fun _ _ h => h.elim)⟩
theorem ints3 (w : World) : Ints (w.alloc (.cells #[.int .i64 1, .int .i64 2, .int .i64 5] 3)) w.heap.size (some ⟨w.heap.size, 0, none⟩) [1, 2, 5] := by
  refine ⟨fun _ => ⟨0, rfl, fun j hj => ?_⟩, fun j hj => ?_, fun _ => by simp, by simp⟩
  · match j, hj with
    | 0, _ => simp
    | 1, _ => simp
    | 2, _ => simp
  · match j, hj with
    | 0, _ => simp
    | 1, _ => simp
    | 2, _ => simp
set_option maxRecDepth 100000 in
set_option maxHeartbeats 3200000 in
theorem plays_ok (w : World) (n1 n2 : Nat) (h11 : 1 ≤ n1) (h12 : n1 ≤ 65536) (h21 : 1 ≤ n2) (h22 : n2 ≤ 65536) (BA cA : Nat) (aA : Option Addr) (q : List Ac) (hA : Acs w BA aA q) (BO cO : Nat) (aO : Option Addr) (r : List Ac) (hO : Acs w BO aO r) :
    Calls Try.prog 3 #[.agg #[.int .i64 (n1 : Int), .int .i64 (n2 : Int)], .slice aA q.length cA, .slice aO r.length cO] w fun e w' => e = .returned (.bool true) ∧ Only (fun _ => False) w w' := by
  have hql := hA.len
  have hrl := hO.len
  obtain ⟨W0, hW0⟩ : ∃ W0, w.alloc (.cells #[.int .i64 (n1 : Int), .int .i64 (n2 : Int)] 23) = W0 := ⟨_, rfl⟩
  have HO0 : Hid (Only (fun _ => False) w W0) := by rw [← hW0]; exact Only.alloc _ _ _
  have k0 : W0.cell? ⟨w.heap.size, 0, none⟩ = some (.int .i64 (n1 : Int)) := by rw [← hW0]; simp
  have k1 : W0.cell? ⟨w.heap.size, 1, none⟩ = some (.int .i64 (n2 : Int)) := by rw [← hW0]; simp
  have HAW := hide hA
  have HOW := hide hO
  have HW0 := hide hW0
  clear hA hO hW0
  go_enter Try.func3, Try.ntmps3
  go_upto_region 1 with fail
  rw [HW0.out]
  go_wp2_with fail
  clear k0 k1
  refine (new_ok W0 n1 h11 h12).mono ?_
  rintro e w1 ⟨rfl, hd1, ho1⟩
  have HD1 := hide hd1
  have HO1 := hide ho1
  have hs1 : W0.heap.size + 2 < w1.heap.size := hd1.lt
  clear hd1 ho1
  go_wp2_with fail
  refine (xnew_ok w1 n1 h11 h12).mono ?_
  rintro e w2 ⟨rfl, ⟨a, b, c, ka, kb, kc, hx2, hxa, hxb, hxc⟩, ho2⟩
  have HX2 := hide hx2
  have HO2 := hide ho2
  have hs2 : w1.heap.size < w2.heap.size := hx2.lt
  have ht2 := hx2.ra.lt
  have ht3 := hx2.rb.lt
  have ht4 := hx2.rc.lt
  clear hx2 ho2
  go_wp2_with fail
  refine (new_ok w2 n2 h21 h22).mono ?_
  rintro e w3 ⟨rfl, hd3, ho3⟩
  have HD3 := hide hd3
  have HO3 := hide ho3
  have hs3 : w2.heap.size + 2 < w3.heap.size := hd3.lt
  clear hd3 ho3
  go_wp2_with fail
  refine (xnew_ok w3 n2 h21 h22).mono ?_
  rintro e w4 ⟨rfl, ⟨a', b', c', ka', kb', kc', hx4, hya, hyb, hyc⟩, ho4⟩
  have HX4 := hide hx4
  have HO4 := hide ho4
  clear hx4 ho4
  have hs0 := HO0.out.size
  obtain ⟨d, hd⟩ : ∃ d, W0.heap.size + 2 = d := ⟨_, rfl⟩
  obtain ⟨m, hm⟩ : ∃ m, W0.heap.size + 1 = m := ⟨_, rfl⟩
  obtain ⟨g, hg⟩ : ∃ g, W0.heap.size = g := ⟨_, rfl⟩
  obtain ⟨x, hx⟩ : ∃ x, w1.heap.size = x := ⟨_, rfl⟩
  obtain ⟨d', hd'⟩ : ∃ d, w2.heap.size + 2 = d := ⟨_, rfl⟩
  obtain ⟨m', hm'⟩ : ∃ m, w2.heap.size + 1 = m := ⟨_, rfl⟩
  obtain ⟨g', hg'⟩ : ∃ g, w2.heap.size = g := ⟨_, rfl⟩
  obtain ⟨x', hx'⟩ : ∃ x, w3.heap.size = x := ⟨_, rfl⟩
  have HF : Hid (Far w.heap.size w2.heap.size d g m x a b c d' g' m' x' a' b' c') := by
    refine ⟨?_, ?_⟩
    · rintro k ((rfl | rfl | rfl) | (rfl | rfl | rfl | rfl)) <;> omega
    · rintro k ((rfl | rfl | rfl) | (rfl | rfl | rfl | rfl)) <;> omega
  have HR : Hid (Run2 w w4 d g m x a b c ka kb kc d' g' m' x' a' b' c' ka' kb' kc' (Dk.new n1) (Dk.new n2)) := by
    have h1 := HD1.out.same (oo (oo HO2.out HO3.out) HO4.out)
    have h2 := HX2.out.same (oo HO3.out HO4.out)
    have h3 := HD3.out.same HO4.out
    have h4 := HX4.out
    rw [hd, hm, hg] at h1
    rw [hx] at h2
    rw [hd', hm', hg'] at h3
    rw [hx'] at h4
    refine ⟨⟨h1, h2, ?_⟩, ⟨h3, h4, ?_⟩, (oo (oo (oo HO0.out HO1.out) (oo HO2.out HO3.out)) HO4.out).mono (fun _ _ h => h.elim)⟩
    · rintro k (rfl | rfl | rfl) (e | e | e | e) <;> omega
    · rintro k (rfl | rfl | rfl) (e | e | e | e) <;> omega
  rw [hd, hx, hd', hx']
  have HFT : Hid (∃ t, Far w.heap.size t d g m x a b c d' g' m' x' a' b' c') := ⟨_, HF.out⟩
  clear hd hm hg hx hd' hm' hg' hx' hxa hxb hxc hya hyb hyc hs0 hs1 hs2 hs3 ht2 ht3 ht4 HD1 HX2 HD3 HX4 HF HO1 HO2 HO3 HO4
  obtain ⟨t, hF⟩ := HFT.out
  have HF := hide hF
  clear hF HFT
  go_wp2_with fail
  go_loopw [17] (fun y wr => ∃ (i : Nat) (D C : Dk), i ≤ 17592186043904 ∧ y = .int .i64 (i : Int) ∧ Hid (Run2 w wr d g m x a b c ka kb kc d' g' m' x' a' b' c' ka' kb' kc' D C)) (fun y _ => (q.length + r.length) - (intOf y).toNat)
  case atStart => exact ⟨0, _, _, by omega, rfl, HR⟩
  case round =>
    obtain ⟨i, D, C, hi, rfl, HRr⟩ := hrel
    have HAr := hide (HAW.out.kept HRr.out.only)
    have HOr := hide (HOW.out.kept HRr.out.only)
    have hi0 : (0 : Int) ≤ (i : Int) := by omega
    by_cases hlt : i < q.length
    · have hi1 : (i : Int) < (q.length : Int) := by omega
      obtain ⟨o, e, hc⟩ := HAr.out.at_ (by omega)
      have hzok := HAr.out.ok q[i] (List.getElem_mem hlt)
      have hz0 := HAW.out.ok q[i] (List.getElem_mem hlt)
      obtain ⟨z, hz⟩ : ∃ z, q[i] = z := ⟨_, rfl⟩
      have k0 := hc i hlt 0 _ (by rw [hz]; rfl)
      rw [Nat.add_zero] at k0
      have k1 := hc i hlt 1 _ (by rw [hz]; rfl)
      have k2 := hc i hlt 2 _ (by rw [hz]; rfl)
      have k3 := hc i hlt 3 _ (by rw [hz]; rfl)
      have k4 := hc i hlt 4 _ (by rw [hz]; rfl)
      have k5 := hc i hlt 5 _ (by rw [hz]; rfl)
      rw [hz] at hzok hz0
      have HDO := hide (does_any _ d g m x a b c ka kb kc D HRr.out.one z hzok (fun h0 hb => by have h3 := (HF.out.one _ hb).1; have h4 := hz0.how.lt h0; omega))
      subst e
      clear hc hz hzok hz0
      by_cases hlt2 : i < r.length
      · have hj1 : (i : Int) < (r.length : Int) := by omega
        go_wp2_with fail
        refine HDO.out.mono ?_
        rintro e w3 ⟨rfl, ⟨D', hb', _⟩, ho3⟩
        have HR3 := hide (HRr.out.first HF.out hb' ho3)
        clear hb' ho3 k0 k1 k2 k3 k4 k5 HDO
        have HO3 := hide (HOW.out.kept HR3.out.only)
        obtain ⟨o2, e2, hc2⟩ := HO3.out.at_ (by omega)
        have hyok := HO3.out.ok r[i] (List.getElem_mem hlt2)
        have hy0 := HOW.out.ok r[i] (List.getElem_mem hlt2)
        obtain ⟨y, hy⟩ : ∃ y, r[i] = y := ⟨_, rfl⟩
        have j0 := hc2 i hlt2 0 _ (by rw [hy]; rfl)
        rw [Nat.add_zero] at j0
        have j1 := hc2 i hlt2 1 _ (by rw [hy]; rfl)
        have j2 := hc2 i hlt2 2 _ (by rw [hy]; rfl)
        have j3 := hc2 i hlt2 3 _ (by rw [hy]; rfl)
        have j4 := hc2 i hlt2 4 _ (by rw [hy]; rfl)
        have j5 := hc2 i hlt2 5 _ (by rw [hy]; rfl)
        rw [hy] at hyok hy0
        have HDY := hide (does_any _ d' g' m' x' a' b' c' ka' kb' kc' C HR3.out.two y hyok (fun h0 hb => by have h3 := (HF.out.two _ hb).1; have h4 := hy0.how.lt h0; omega))
        subst e2
        clear hc2 hy hyok hy0
        go_wp2_with fail
        refine HDY.out.mono ?_
        rintro e w5 ⟨rfl, ⟨C', hb5, _⟩, ho5⟩
        have HR5 := hide (HR3.out.second HF.out hb5 ho5)
        clear hb5 ho5 j0 j1 j2 j3 j4 j5 HDY
        go_wp2_with fail
        go_roundw
        case rel => exact ⟨i + 1, D', C', by omega, by go_num, HR5⟩
        case measure => simp [intOf]; omega
      · have hj1 : ¬ (i : Int) < (r.length : Int) := by omega
        go_wp2_with fail
        refine HDO.out.mono ?_
        rintro e w3 ⟨rfl, ⟨D', hb', _⟩, ho3⟩
        have HR3 := hide (HRr.out.first HF.out hb' ho3)
        clear hb' ho3 k0 k1 k2 k3 k4 k5 HDO
        go_wp2_with fail
        go_roundw
        case rel => exact ⟨i + 1, D', C, by omega, by go_num, HR3⟩
        case measure => simp [intOf]; omega
    · have hi1 : ¬ (i : Int) < (q.length : Int) := by omega
      by_cases hlt2 : i < r.length
      · have hj1 : (i : Int) < (r.length : Int) := by omega
        have HR3 := hide HRr.out
        have HO3 := hide HOr.out
        obtain ⟨o2, e2, hc2⟩ := HO3.out.at_ (by omega)
        have hyok := HO3.out.ok r[i] (List.getElem_mem hlt2)
        have hy0 := HOW.out.ok r[i] (List.getElem_mem hlt2)
        obtain ⟨y, hy⟩ : ∃ y, r[i] = y := ⟨_, rfl⟩
        have j0 := hc2 i hlt2 0 _ (by rw [hy]; rfl)
        rw [Nat.add_zero] at j0
        have j1 := hc2 i hlt2 1 _ (by rw [hy]; rfl)
        have j2 := hc2 i hlt2 2 _ (by rw [hy]; rfl)
        have j3 := hc2 i hlt2 3 _ (by rw [hy]; rfl)
        have j4 := hc2 i hlt2 4 _ (by rw [hy]; rfl)
        have j5 := hc2 i hlt2 5 _ (by rw [hy]; rfl)
        rw [hy] at hyok hy0
        have HDY := hide (does_any _ d' g' m' x' a' b' c' ka' kb' kc' C HR3.out.two y hyok (fun h0 hb => by have h3 := (HF.out.two _ hb).1; have h4 := hy0.how.lt h0; omega))
        subst e2
        clear hc2 hy hyok hy0
        go_wp2_with fail
        refine HDY.out.mono ?_
        rintro e w5 ⟨rfl, ⟨C', hb5, _⟩, ho5⟩
        have HR5 := hide (HR3.out.second HF.out hb5 ho5)
        clear hb5 ho5 j0 j1 j2 j3 j4 j5 HDY
        go_wp2_with fail
        go_roundw
        case rel => exact ⟨i + 1, D, C', by omega, by go_num, HR5⟩
        case measure => simp [intOf]; omega
      · have hj1 : ¬ (i : Int) < (r.length : Int) := by omega
        have HFO := hide (fun k hk => (HF.out.one k hk))
        have HFT := hide (fun k hk => (HF.out.two k hk))
        have HA1 := hide (alike_any _ d g m x a b c ka kb kc D HRr.out.one)
        go_wp2_with fail
        refine HA1.out.mono ?_
        rintro e w5 ⟨rfl, ho5⟩
        have HR5 := hide (HRr.out.more ho5)
        clear ho5
        go_wp2_with fail
        refine (alike_any w5 d' g' m' x' a' b' c' ka' kb' kc' C HR5.out.two).mono ?_
        rintro e w6 ⟨rfl, ho6⟩
        have HR6 := hide (HR5.out.more ho6)
        clear ho6
        go_wp2_with fail
        obtain ⟨W6, hW6⟩ : ∃ W6, w6.alloc (.cells #[.int .i64 1, .int .i64 2, .int .i64 5] 3) = W6 := ⟨_, rfl⟩
        have HI6 := hide (ints3 w6)
        have HR6a := hide (HR6.out.more (Only.alloc (fun _ => False) w6 (.cells #[.int .i64 1, .int .i64 2, .int .i64 5] 3)))
        rw [hW6] at HI6 HR6a ⊢
        have hl6 := HR6.out.one.lt
        have hl6' := HR6.out.two.lt
        clear hW6
        refine (crash_any W6 d g m D HR6a.out.one.one w6.heap.size (some ⟨w6.heap.size, 0, none⟩) 3 [1, 2, 5] HI6.out (fun _ hb => by have := hl6 _ (.inl hb); omega)).mono ?_
        rintro e w7 ⟨rfl, hd7, ho7⟩
        have HD7 := hide hd7
        have HX7 := hide (HR6a.out.one.xkept ho7)
        have HC7 := hide (HR6a.out.two.keep ho7 (fun k hk e => by have h1 := (HFT.out k hk).2; have h2 := (HFO.out k (.inl e)).2; omega))
        have HO7 : Hid (Only (fun k => w.heap.size ≤ k) w w7) := HR6a.out.only.trans ho7 (fun k _ hk => (HFO.out k (.inl hk)).1)
        have hl7 : ∀ k, bown d g m x a b c k → k < w7.heap.size := fun k hk => Nat.lt_of_lt_of_le (HR6a.out.one.lt k hk) ho7.size
        have HL7 := hide hl7
        clear hd7 ho7 hl6 hl6' hl7
        go_wp2_with fail
        obtain ⟨W7, hW7⟩ : ∃ W7, w7.alloc (.cells #[.int .i64 1, .int .i64 2, .int .i64 5] 3) = W7 := ⟨_, rfl⟩
        have HI7 := hide (ints3 w7)
        have HOA := hide (Only.alloc (fun _ => False) w7 (.cells #[.int .i64 1, .int .i64 2, .int .i64 5] 3))
        rw [hW7] at HI7 HOA ⊢
        clear hW7
        refine (xcrash_any W7 x a b c ka kb kc D (HX7.out.same HOA.out) w7.heap.size (some ⟨w7.heap.size, 0, none⟩) 3 [1, 2, 5] HI7.out (fun _ hb => by have := HL7.out _ (.inr hb); omega)).mono ?_
        rintro e w8 ⟨rfl, hx8, ho8⟩
        have HB8 : Hid (Both w8 d g m x a b c ka kb kc (D.crash [1, 2, 5])) := ⟨Both.dkept (HD7.out.same HOA.out) HRr.out.one.off ho8, hx8, HRr.out.one.off⟩
        have HC8 := hide ((HC7.out.same HOA.out).keep ho8 (fun k hk e => by have h1 := (HFT.out k hk).2; have h2 := (HFO.out k (.inr e)).2; omega))
        have HO8 : Hid (Only (fun k => w.heap.size ≤ k) w w8) := (HO7.out.trans HOA.out (fun _ _ h => h.elim)).trans ho8 (fun k _ hk => (HFO.out k (.inr hk)).1)
        clear hx8 ho8
        go_wp2_with fail
        refine (awake_any w8).mono ?_
        rintro e w9 ⟨rfl, ho9⟩
        have HO9 := hide ho9
        clear ho9
        go_wp2_with fail
        refine (alike_any w9 d g m x a b c ka kb kc _ (HB8.out.same HO9.out)).mono ?_
        rintro e wA ⟨rfl, hoA⟩
        have HOB := hide (oo HO9.out hoA)
        clear hoA
        go_wp2_with fail
        refine (alike_any wA d' g' m' x' a' b' c' ka' kb' kc' _ (HC8.out.same HOB.out)).mono ?_
        rintro e wB ⟨rfl, hoB⟩
        have HOE : Hid (Only (fun _ => False) w wB) := (HO8.out.trans (oo HOB.out hoB) (fun _ _ h => h.elim)).mono (fun i hi h => by omega)
        clear hoB
        go_wp2_with fail
        go_ret
        exact ⟨rfl, HOE.out⟩
set_option maxRecDepth 100000 in
set_option maxHeartbeats 1600000 in
theorem plays_bad (w : World) (n1 n2 : Int) (hb : (n1 < 1 ∨ 65536 < n1) ∨ (n2 < 1 ∨ 65536 < n2)) (v1 v2 : Value) (hv1 : ∃ ao n cp, v1 = .slice ao n cp) (hv2 : ∃ ao n cp, v2 = .slice ao n cp) :
    Calls Try.prog 3 #[.agg #[.int .i64 n1, .int .i64 n2], v1, v2] w fun e w' => e = .returned (.bool true) ∧ Only (fun _ => False) w w' := by
  obtain ⟨aA, nA, cA, rfl⟩ := hv1
  obtain ⟨aO, nO, cO, rfl⟩ := hv2
  obtain ⟨W0, hW0⟩ : ∃ W0, w.alloc (.cells #[.int .i64 n1, .int .i64 n2] 23) = W0 := ⟨_, rfl⟩
  have HO0 : Hid (Only (fun _ => False) w W0) := by rw [← hW0]; exact Only.alloc _ _ _
  have k0 : W0.cell? ⟨w.heap.size, 0, none⟩ = some (.int .i64 n1) := by rw [← hW0]; simp
  have k1 : W0.cell? ⟨w.heap.size, 1, none⟩ = some (.int .i64 n2) := by rw [← hW0]; simp
  have HW0 := hide hW0
  clear hW0
  -- what a pair of New answers
  have two : ∀ n : Int, Hid (∃ (p x : Option Addr) (e : Int), ((n < 1 ∨ 65536 < n) → p = none) ∧ (p = none ↔ x = none) ∧ (∀ W, Calls Try.prog 5 #[.int .i64 n] W fun r w' => ∃ p', r = .returned (.tuple #[.pointer p', .int .i64 e]) ∧ (p' = none ↔ p = none) ∧ Only (fun _ => False) W w') ∧ (∀ W, Calls Try.prog 6 #[.int .i64 n] W fun r w' => ∃ x', r = .returned (.tuple #[.pointer x', .int .i64 e]) ∧ (x' = none ↔ p = none) ∧ Only (fun _ => False) W w')) := fun n => by
    by_cases hn : n < 1 ∨ 65536 < n
    · refine ⟨none, none, 1, fun _ => rfl, Iff.rfl, fun W => ?_, fun W => ?_⟩
      · exact (new_bad W n hn).mono (by rintro r w' ⟨rfl, rfl⟩; exact ⟨none, rfl, Iff.rfl, Only.refl _ _⟩)
      · exact (xnew_bad W n hn).mono (by rintro r w' ⟨rfl, rfl⟩; exact ⟨none, rfl, Iff.rfl, Only.refl _ _⟩)
    · obtain ⟨k, rfl⟩ := Int.eq_ofNat_of_zero_le (show 0 ≤ n by omega)
      refine ⟨some ⟨0, 0, none⟩, some ⟨0, 0, none⟩, 0, fun h => absurd h hn, by simp, fun W => ?_, fun W => ?_⟩
      · exact (new_ok W k (by omega) (by omega)).mono (by rintro r w' ⟨rfl, _, ho⟩; exact ⟨_, rfl, by simp, ho⟩)
      · exact (xnew_ok W k (by omega) (by omega)).mono (by rintro r w' ⟨rfl, _, ho⟩; exact ⟨_, rfl, by simp, ho⟩)
  obtain ⟨p, x, e1, hp, _, hN1, hX1⟩ := two n1
  obtain ⟨p2, x2, e2, hp2, _, hN2, hX2⟩ := two n2
  have HN1 := hide hN1
  have HX1 := hide hX1
  have HN2 := hide hN2
  have HX2 := hide hX2
  have HBAD : Hid (p = none ∨ p2 = none) := hb.imp hp hp2
  clear two hN1 hX1 hN2 hX2 hb hp hp2
  have he1 : (e1 != e1) = false := by simp
  have he2 : (e2 != e2) = false := by simp
  go_enter Try.func3, Try.ntmps3
  go_upto_region 1 with fail
  rw [HW0.out]
  go_wp2_with fail
  clear k0 k1
  refine (HN1.out W0).mono ?_
  rintro r w1 ⟨p', rfl, hpp, ho1⟩
  have HO1 := hide (oo HO0.out ho1)
  have HPP := hide hpp
  clear ho1 hpp
  go_wp2_with fail
  refine (HX1.out w1).mono ?_
  rintro r w2 ⟨x', rfl, hxx, ho2⟩
  have HO2 := hide (oo HO1.out ho2)
  have HXX := hide hxx
  clear ho2 hxx
  go_wp2_with fail
  refine (HN2.out w2).mono ?_
  rintro r w3 ⟨p2', rfl, hpp, ho3⟩
  have HO3 := hide (oo HO2.out ho3)
  have HPP2 := hide hpp
  clear ho3 hpp
  go_wp2_with fail
  refine (HX2.out w3).mono ?_
  rintro r w4 ⟨x2', rfl, hxx, ho4⟩
  have HO4 := hide (oo HO3.out ho4)
  have HXX2 := hide hxx
  clear ho4 hxx
  rcases p' with _ | P1 <;> rcases x' with _ | Q1 <;> rcases p2' with _ | P2 <;> rcases x2' with _ | Q2
  all_goals first
    | (exfalso
       have a1 := HPP.out
       have a2 := HXX.out
       have a3 := HPP2.out
       have a4 := HXX2.out
       have a5 := HBAD.out
       clear HPP HXX HPP2 HXX2 HBAD
       simp at a1 a2 a3 a4 a5
       first
         | exact a2 a1
         | exact a1 a2
         | exact a4 a3
         | exact a3 a4
         | (rcases a5 with a5 | a5
            · exact a1 a5
            · exact a3 a5)
         | (rcases a5 with a5 | a5 <;> contradiction)
         | contradiction)
    | (clear HPP HXX HPP2 HXX2 HBAD
       go_wp2_with fail
       refine (awake_any w4).mono ?_
       rintro e w5 ⟨rfl, ho5⟩
       have HO5 := hide (oo HO4.out ho5)
       clear ho5
       go_wp2_with fail
       go_ret
       exact ⟨rfl, HO5.out⟩)
/-- Any sizes. -/
theorem plays_law (w : World) (n1 n2 : Int) (BA cA : Nat) (aA : Option Addr) (q : List Ac) (hA : Acs w BA aA q) (BO cO : Nat) (aO : Option Addr) (r : List Ac) (hO : Acs w BO aO r) :
    Calls Try.prog 3 #[.agg #[.int .i64 n1, .int .i64 n2], .slice aA q.length cA, .slice aO r.length cO] w fun e w' => e = .returned (.bool true) ∧ Only (fun _ => False) w w' := by
  by_cases hb : (n1 < 1 ∨ 65536 < n1) ∨ (n2 < 1 ∨ 65536 < n2)
  · exact plays_bad w n1 n2 hb _ _ ⟨_, _, _, rfl⟩ ⟨_, _, _, rfl⟩
  · obtain ⟨k1, rfl⟩ := Int.eq_ofNat_of_zero_le (show 0 ≤ n1 by omega)
    obtain ⟨k2, rfl⟩ := Int.eq_ofNat_of_zero_le (show 0 ≤ n2 by omega)
    exact plays_ok w k1 k2 (by omega) (by omega) (by omega) (by omega) BA cA aA q hA BO cO aO r hO
end Go.Proofs.Ytachbonlakbjmaa
