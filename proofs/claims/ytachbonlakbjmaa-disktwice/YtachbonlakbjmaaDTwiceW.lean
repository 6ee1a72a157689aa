/- The walk of DiskTwice. -/
import Derived.Test.YtachbonlakbjmaaDTwice
namespace Go.Proofs.Ytachbonlakbjmaa
open Go.RowKit

def bs (l : List UInt8) : ByteArray := ⟨l.toArray⟩
/-- Both disks over one plain disk, since w; all their blocks are new. -/
structure Run (w wr : World) (s d g m x a b c ka kb kc n : Nat) (D : Dk) : Prop where
  both : Both wr d g m x a b c ka kb kc D
  len : D.old.length = n
  only : Only (fun k => s ≤ k) w wr
theorem wh_only {S : Nat → Prop} {s : Nat} {w wr w' : World} (h : Only (fun k => s ≤ k) w wr) (ho : Only S wr w') (hs : ∀ k, S k → s ≤ k) : Only (fun k => s ≤ k) w w' := h.trans ho (fun k _ hk => hs k hk)
set_option maxRecDepth 100000 in
set_option maxHeartbeats 3200000 in
theorem twice_law (w : World) (BA cA : Nat) (aA : Option Addr) (q : List Ac) (hA : Acs w BA aA q) (B1 c1 : Nat) (a1 : Option Addr) (l1 : List Int) (h1 : Ints w B1 a1 l1) (B2 c2 : Nat) (a2 : Option Addr) (l2 : List Int) (h2 : Ints w B2 a2 l2) :
    Calls Try.prog 4 #[.slice aA q.length cA, .slice a1 l1.length c1, .slice a2 l2.length c2] w fun e w' => e = .returned (.bool true) ∧ Only (fun _ => False) w w' := by
  have hql := hA.len
  have HA := hide hA
  have H1 := hide h1
  have H2 := hide h2
  clear hA h1 h2
  go_enter Try.func4, Try.ntmps4
  go_wp2_with fail
  refine (new_ok w 12 (by omega) (by omega)).mono ?_
  rintro e w1 ⟨rfl, hd1, ho1⟩
  have HD1 := hide hd1
  have HO1 := hide ho1
  clear hd1 ho1
  go_wp2_with fail
  refine (xnew_ok w1 12 (by omega) (by omega)).mono ?_
  rintro e w2 ⟨rfl, ⟨a, b, c, ka, kb, kc, hx2, hxa, hxb, hxc⟩, ho2⟩
  have hw1 : w.heap.size + 2 < w1.heap.size := HD1.out.lt
  have HX2 := hide hx2
  have HO2 := hide ho2
  clear hx2 ho2
  obtain ⟨d, hd⟩ : ∃ d, w.heap.size + 2 = d := ⟨_, rfl⟩
  obtain ⟨g, hg⟩ : ∃ g, w.heap.size = g := ⟨_, rfl⟩
  obtain ⟨m, hm⟩ : ∃ m, w.heap.size + 1 = m := ⟨_, rfl⟩
  obtain ⟨x, hx⟩ : ∃ x, w1.heap.size = x := ⟨_, rfl⟩
  have HS : Hid (∀ k, bown d g m x a b c k → w.heap.size ≤ k) := by
    rintro k ((rfl | rfl | rfl) | (rfl | rfl | rfl | rfl)) <;> omega
  have HR : Hid (Run w w2 w.heap.size d g m x a b c ka kb kc 12 (Dk.new 12)) := by
    have h1 := HD1.out.same HO2.out
    have h2 := HX2.out
    rw [hd, hm, hg] at h1
    rw [hx] at h2
    refine ⟨⟨h1, h2, ?_⟩, rfl, (HO1.out.trans HO2.out (fun _ _ h => h)).mono (fun _ _ h => h.elim)⟩
    rintro k (rfl | rfl | rfl) (e | e | e | e) <;> omega
  rw [hd, hx]
  clear hd hg hm hx hxa hxb hxc hw1 HD1 HX2 HO1 HO2
  go_wp2_with fail
  go_loopw [11] (fun y wr => ∃ (i : Nat) (D : Dk), i ≤ q.length ∧ y = .int .i64 (i : Int) ∧ Hid (Run w wr w.heap.size d g m x a b c ka kb kc 12 D)) (fun y _ => q.length - (intOf y).toNat)
  case atStart => exact ⟨0, _, by omega, rfl, HR⟩
  case round =>
    obtain ⟨i, D, hi, rfl, HRr⟩ := hrel
    have HAr := hide (HA.out.kept HRr.out.only)
    by_cases hlt : i < q.length
    · have hi0 : (0 : Int) ≤ (i : Int) := by omega
      have hi1 : (i : Int) < (q.length : Int) := by omega
      obtain ⟨o, e, hc⟩ := HAr.out.at_ (by omega)
      have hzok := HAr.out.ok q[i] (List.getElem_mem hlt)
      have hz0 := HA.out.ok q[i] (List.getElem_mem hlt)
      obtain ⟨z, hz⟩ : ∃ z, q[i] = z := ⟨_, rfl⟩
      have k0 := hc i hlt 0 _ (by rw [hz]; rfl)
      rw [Nat.add_zero] at k0
      have k1 := hc i hlt 1 _ (by rw [hz]; rfl)
      have k2 := hc i hlt 2 _ (by rw [hz]; rfl)
      have k3 := hc i hlt 3 _ (by rw [hz]; rfl)
      have k4 := hc i hlt 4 _ (by rw [hz]; rfl)
      have k5 := hc i hlt 5 _ (by rw [hz]; rfl)
      rw [hz] at hzok hz0
      have HDO := hide (does_any _ d g m x a b c ka kb kc D HRr.out.both z hzok (fun h0 hb => by have h3 := HS.out _ hb; have h4 := hz0.how.lt h0; omega))
      subst e
      clear hc hz hzok hz0
      go_wp2_with fail
      refine HDO.out.mono ?_
      rintro e w3 ⟨rfl, ⟨D', hb', hl'⟩, ho3⟩
      have HR3 : Hid (Run w w3 w.heap.size d g m x a b c ka kb kc 12 D') := ⟨hb', hl'.trans HRr.out.len, wh_only HRr.out.only ho3 (HS.out)⟩
      clear hb' hl' ho3 k0 k1 k2 k3 k4 k5 HDO
      go_wp2_with fail
      go_roundw
      case rel => exact ⟨i + 1, D', by omega, by go_num, HR3⟩
      case measure => simp [intOf]; omega
    · have hi1 : ¬ (i : Int) < (q.length : Int) := by omega
      have hOk := HRr.out.both.one.ok
      have hCm := crash_calm hOk l1
      rw [HRr.out.len] at hCm
      obtain ⟨E, hE⟩ : ∃ E, D.crash l1 = E := ⟨_, rfl⟩
      rw [hE] at hCm
      have HCm := hide hCm
      have hrd := hCm.read
      obtain ⟨T, hT⟩ : ∃ T, bs (E.bytes 0 12) = T := ⟨_, rfl⟩
      have hT2 : T.data.toList = E.bytes 0 12 := by rw [← hT]; rfl
      obtain ⟨hb0, h64⟩ := hCm.bytes
      have hTs : T.size = 768 := by
        have := flat64_len E.old h64
        rw [hCm.len, ← hb0, ← hT2] at this
        simpa using this
      have hTb : T.size < 9223372036854775808 := by omega
      obtain ⟨hw0, hra⟩ := hCm.again l2
      rw [← hT2] at hw0 hra
      have nS : ∀ B : Nat, B < w.heap.size → ¬ own d g m B := fun B hB hb => by have := HS.out B (.inl hb); omega
      have NS := hide nS
      have n1 : 0 < l1.length → ¬ own d g m B1 := fun h0 => nS B1 (H1.out.lt h0)
      have n2 : 0 < l2.length → ¬ own d g m B2 := fun h0 => nS B2 (H2.out.lt h0)
      have hfw : ∀ k, k < w.heap.size → ¬ w.heap.size ≤ k := fun k hk => by omega
      have i1 := H1.out.kept HRr.out.only (fun h0 => hfw _ (H1.out.lt h0))
      have i2 := H2.out.kept HRr.out.only (fun h0 => hfw _ (H2.out.lt h0))
      have hcr := crash_any _ d g m D HRr.out.both.one B1 a1 c1 l1 i1 n1
      rw [hE] at hcr
      have HCR := hide hcr
      have I2 := hide i2
      have N2 := hide n2
      have HRD := hide hrd
      have HW0 := hide hw0
      have HRA := hide hra
      have HT := hide hT
      have HOW : Hid (∀ k, own d g m k → w.heap.size ≤ k) := fun k hk => HS.out k (.inl hk)
      have HON := hide HRr.out.only
      clear hcr i1 i2 hrd hw0 hra hT hT2 hTs hb0 h64 hCm hOk hE n1 n2 hfw nS HAr
      go_wp2_with fail
      refine HCR.out.mono ?_
      rintro e w3 ⟨rfl, hd3, ho3⟩
      have HD3 := hide hd3
      have HI3 := hide (I2.out.kept ho3 N2.out)
      have HO3 := hide (wh_only HON.out ho3 HOW.out)
      clear hd3 ho3
      go_wp2_with fail
      have r3 := read_any w3 d g m E HD3.out 0 12 (by omega)
      rw [show E.read 0 12 = (E.bytes 0 12, 0) from HRD.out] at r3
      simp only [show (⟨(E.bytes 0 12).toArray⟩ : ByteArray) = T from HT.out] at r3
      refine Calls.mono r3 ?_
      clear r3
      rintro e w4 ⟨rfl, ho4⟩
      have HD4 := hide (HD3.out.same ho4)
      have HI4 := hide (HI3.out.kept ho4 (fun _ h => h))
      have HO4 := hide (HO3.out.trans ho4 (fun _ _ h => h.elim))
      clear ho4
      go_wp2_with fail
      have r5 := crash_any w4 d g m E HD4.out B2 a2 c2 l2 HI4.out N2.out
      rw [HCm.out.crash l2] at r5
      refine Calls.mono r5 ?_
      clear r5
      rintro e w5 ⟨rfl, hd5, ho5⟩
      have HD5 := hide hd5
      have HI5 := hide (HI4.out.kept ho5 N2.out)
      have HO5 := hide (wh_only HO4.out ho5 HOW.out)
      clear hd5 ho5
      go_wp2_with fail
      have r6 := read_any w5 d g m E HD5.out 0 12 (by omega)
      rw [show E.read 0 12 = (E.bytes 0 12, 0) from HRD.out] at r6
      simp only [show (⟨(E.bytes 0 12).toArray⟩ : ByteArray) = T from HT.out] at r6
      refine Calls.mono r6 ?_
      clear r6
      rintro e w6 ⟨rfl, ho6⟩
      have HD6 := hide (HD5.out.same ho6)
      have HI6 := hide (HI5.out.kept ho6 (fun _ h => h))
      have HO6 := hide (HO5.out.trans ho6 (fun _ _ h => h.elim))
      clear ho6
      go_wp2_with fail
      have r7 := write_any w6 d g m E HD6.out 0 T (by omega) hTb
      rw [HW0.out] at r7
      refine Calls.mono r7 ?_
      clear r7
      rintro e w7 ⟨rfl, hd7, ho7⟩
      have HD7 := hide hd7
      have HI7 := hide (HI6.out.kept ho7 N2.out)
      have HO7 := hide (wh_only HO6.out ho7 HOW.out)
      clear hd7 ho7
      go_wp2_with fail
      refine (crash_any w7 d g m _ HD7.out B2 a2 c2 l2 HI7.out N2.out).mono ?_
      rintro e w8 ⟨rfl, hd8, ho8⟩
      have HD8 := hide hd8
      have HO8 := hide (wh_only HO7.out ho8 HOW.out)
      clear hd8 ho8
      go_wp2_with fail
      have r9 := read_any w8 d g m _ HD8.out 0 12 (by omega)
      rw [show Dk.read _ 0 12 = (T.data.toList, 0) from HRA.out] at r9
      simp only [show (⟨(T.data.toList).toArray⟩ : ByteArray) = T from rfl] at r9
      refine Calls.mono r9 ?_
      clear r9
      rintro e w9 ⟨rfl, ho9⟩
      have HO9 := hide (HO8.out.trans ho9 (fun _ _ h => h.elim))
      clear ho9
      go_wp2_with fail
      refine (awake_any w9).mono ?_
      rintro e wA ⟨rfl, hoA⟩
      have HOA : Hid (Only (fun _ => False) w wA) := (HO9.out.trans hoA (fun _ _ h => h.elim)).mono (fun i hi h => by omega)
      clear hoA
      go_wp2_with fail
      go_ret
      exact ⟨rfl, HOA.out⟩
end Go.Proofs.Ytachbonlakbjmaa
