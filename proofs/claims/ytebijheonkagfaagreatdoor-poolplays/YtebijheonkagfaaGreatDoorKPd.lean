/- What Decode does. -/
import Derived.Test.YtebijheonkagfaaGreatDoorKPb
import Derived.Deep.QuietTactic
import Derived.BigQuiet
namespace Go.Proofs.YtebijheonkagfaaGreatDoor
open Go.RowKit
theorem ext_bl (s : ByteArray) (i j : Nat) : bl (s.extract i j) = ((bl s).take j).drop i := by
  simp [bl, ByteArray.data_extract, List.extract_eq_take_drop, List.drop_take]
structure ItP (w w' : World) (e : Ending) (o : Option (List ByteArray × List UInt8)) : Prop where
  only : Only (fun _ => False) w w'
  bad : o = none → e = .returned (.tuple #[.slice none 0 0, .string ⟨#[]⟩, .bool false])
  good : ∀ l r, o = some (l, r) → ∃ v, e = .returned (.tuple #[v, .string (str r), .bool true]) ∧ Ls w' w.heap.size v l
set_option maxRecDepth 100000 in
set_option maxHeartbeats 1600000 in
theorem items_any (w : World) (D : List UInt8) (n : Nat) (hn : n ≤ 255) (hD : D.length ≤ 512) :
    Calls Tryz.prog 131 #[.string (str D), .int .i64 (n : Int)] w fun e w' => ItP w w' e (takeI n D) := by
  obtain ⟨i0, hi, hz0, hz1, hz2⟩ := info_parts Tryz.infoStr; obtain ⟨T, hT⟩ : ∃ T, takeI n D = T := ⟨_, rfl⟩; rw [hT]
  have HT : Hid (more [] (takeI (n - 0) D) = T) := by unfold Hid; rw [more_nil]; exact hT
  clear hT
  go_enter Tryz.func131, Tryz.ntmps131
  go_wp2_with (
    at_make
    go_must (refine wpList_make_own _ rfl _ _ 43 rfl w.heap.size 9 i0 (.string ⟨#[]⟩) 1 Tryz.underlying43 hi hz0 hz1 .i64 .i64 _ n rfl rfl (by omega) (by rw [hz2]; omega) (by unfold maxLen; omega) (Nat.le_refl _) ?_)
    intro w1 hw1 hg1; have HL1 : Hid (Ls w1 w.heap.size (.slice (some ⟨w.heap.size, 0, none⟩) 0 n) []) := hw1; have HO1 : Hid (Only (fun _ => False) w w1) := Only.grown hg1 (fun k hk => by cases hk)
    clear hw1 hg1)
  go_loopw [0, 4, 7, 11] (fun x y _ z wr => ∃ (j : Nat) (acc : List ByteArray) (d : List UInt8), j ≤ n ∧ z = .int .i64 (j : Int) ∧ x = .string (str d) ∧ d.length ≤ 512 ∧ acc.length = j ∧ Hid (∀ s ∈ acc, s.size ≤ 512) ∧ Hid (Ls wr w.heap.size y acc) ∧ Hid (Only (fun _ => False) w wr) ∧ Hid (more acc (takeI (n - j) d) = T)) (fun _ _ _ z _ => n - (intOf z).toNat)
  case atStart => exact ⟨0, [], D, by omega, rfl, rfl, hD, rfl, (fun s h => by cases h), HL1, HO1, HT⟩
  case round =>
    obtain ⟨j, acc, d, hj, rfl, rfl, hd, hacc, HA, HL, HO, HM⟩ := hrel; have hsz : (str d).size = d.length := rfl
    by_cases hlt : j < n
    · obtain ⟨m, hm⟩ : ∃ m, n - j = m + 1 := ⟨n - j - 1, by omega⟩
      rw [hm] at HM
      have hj1 : (j : Int) < (n : Int) := by omega
      obtain ⟨s, hs⟩ : ∃ s, str d = s := ⟨_, rfl⟩; rw [hs] at hsz ⊢
      have hs512 : s.size ≤ 512 := by omega
      have HSD : Hid (bl s = d) := by unfold Hid; rw [← hs]; rfl
      have HSZ := hide hsz; have HMM := hide hm; clear hs hsz hm
      by_cases h2 : s.size < 2
      · have HN : Hid (T = none) := by unfold Hid; rw [← HM.out]; exact takeI_short acc (by have := HSZ.out; omega)
        have h2' : (s.size : Int) < 2 := by omega
        go_wp2_with fail
        go_ret3
        exact ⟨HO.out, fun _ => rfl, fun l r h => by rw [HN.out] at h; cases h⟩
      · have h2' : ¬ (s.size : Int) < 2 := by omega
        have h2'' : (2 : Int) ≤ (s.size : Int) := by omega
        obtain ⟨q, hq⟩ : ∃ q, (ofTo (d.take 2)).toNat = q := ⟨_, rfl⟩
        have hd2 : (d.take 2).length = 2 := by have := HSZ.out; simp; omega
        have hqb := ofTo_small (d.take 2) (by omega); rw [hd2] at hqb
        have hq0 : ofTo (d.take 2) = (q : Int) := by omega
        have hq5 : q < 65536 := by have h3 : (256 : Int) ^ 2 = 65536 := by decide
                                   omega
        obtain ⟨E0, hE0⟩ : ∃ E0, s.extract 0 2 = E0 := ⟨_, rfl⟩; obtain ⟨E1, hE1⟩ : ∃ E1, s.extract 2 s.size = E1 := ⟨_, rfl⟩
        have hE0b : bl E0 = d.take 2 := by rw [← hE0, ext_bl, HSD.out, List.drop_zero]
        have hE1b : bl E1 = d.drop 2 := by rw [← hE1, ext_bl, HSD.out, List.take_of_length_le (by rw [HSZ.out]; exact Nat.le_refl _)]
        have hE0s : E0.size = 2 := by rw [← bl_len, hE0b, hd2]
        have hE1s : E1.size = s.size - 2 := by rw [← bl_len, hE1b, List.length_drop, HSZ.out]
        have HOF := hide (of_any E0 wr (by unfold maxLen; omega)); rw [show E0.data.toList = d.take 2 from hE0b, hq0, show (q : Int) % 9223372036854775808 = (q : Int) by omega] at HOF; have HE1B := hide hE1b; have HE1S := hide hE1s; clear hE0b hE1b hE0s hE1s hqb hd2 hq0; have HQ := hide hq; clear hq
        have he1 : E1.size ≤ 510 := by have := HE1S.out; omega
        go_wp2_with fail
        refine HOF.out.mono ?_; rintro e w2 ⟨rfl, rfl⟩
        by_cases h3 : E1.size < q
        · have h3' : (E1.size : Int) < (q : Int) := by omega
          have HN : Hid (T = none) := by
            unfold Hid; rw [← HM.out]; refine takeI_long acc (by have := HSZ.out; omega) ?_; rw [HQ.out, ← HE1B.out, bl_len]; exact h3
          clear hE0
          go_wp2_with fail
          go_ret3
          exact ⟨HO.out, fun _ => rfl, fun l r h => by rw [HN.out] at h; cases h⟩
        · have h3' : ¬ (E1.size : Int) < (q : Int) := by omega
          have h3q : (q : Int) ≤ (E1.size : Int) := by omega
          obtain ⟨E2, hE2⟩ : ∃ E2, E1.extract 0 q = E2 := ⟨_, rfl⟩; obtain ⟨E3, hE3⟩ : ∃ E3, E1.extract q E1.size = E3 := ⟨_, rfl⟩
          have HE2 : Hid (E2 = str ((d.drop 2).take q)) := by unfold Hid; rw [← str_bl E2, ← hE2, ext_bl, HE1B.out, List.drop_zero]
          have HE3 : Hid (E3 = str ((d.drop 2).drop q)) := by unfold Hid; rw [← str_bl E3, ← hE3, ext_bl, List.take_of_length_le (by rw [bl_len]; exact Nat.le_refl _), HE1B.out]
          have he2 : E2.size ≤ 512 := by rw [HE2.out, str_size, List.length_take, ← HE1B.out, bl_len]; omega
          obtain ⟨v4, w4, r4, l4, o4⟩ := append_strs (w2.alloc (.cells #[.string E2] 9)) 43 w.heap.size _ acc (HL.out.more (onlyA _ _)) w2.heap.size 1 (some ⟨w2.heap.size, 0, none⟩) [E2] (Strs.one w2 E2 (by omega)) ⟨fun h => (by cases h), by simp, (by unfold maxLen; omega)⟩ (by simp; omega) (by have := HO.out.size; simp; omega); have R4 := hide r4; have L4 := hide l4; have O4 : Hid (Only (fun _ => False) w w4) := (o2 HO.out (onlyA _ _)).trans o4 (fun k hk e => by omega)
          have HM2 : Hid (more (acc ++ [E2]) (takeI (n - (j + 1)) ((d.drop 2).drop q)) = T) := by
            unfold Hid; rw [← HM.out, takeI_next acc (by have := HSZ.out; omega) (by rw [HQ.out, ← HE1B.out, bl_len]; exact h3), HQ.out, HE2.out]
            have : n - (j + 1) = m := by have := HMM.out; omega
            rw [this]
          have HA2 : Hid (∀ s ∈ acc ++ [E2], s.size ≤ 512) := by
            intro s hs
            rcases List.mem_append.1 hs with hs | hs
            · exact HA.out s hs
            · simp at hs; rw [hs]; exact he2
          have hdl : ((d.drop 2).drop q).length ≤ 512 := by simp; omega
          clear r4 l4 o4 hE0
          go_wp2_with (at_builtin; go_must (refine Lib.wpList_append_run _ rfl (.tmp 25) (.tmp 29) _ _ rfl _ _ rfl rfl _ _ R4.out ?_))
          go_roundw
          case rel => exact ⟨j + 1, acc ++ [E2], (d.drop 2).drop q, by omega, by go_num, by rw [HE3.out], hdl, by simp [hacc], HA2, L4, O4, HM2⟩
          case measure => simp [intOf]; omega
    · have e0 : n - j = 0 := by omega
      have HF : Hid (T = some (acc, d)) := by unfold Hid; rw [← HM.out, e0]; simp [takeI, more]
      go_wp2_with fail
      go_ret3
      refine ⟨HO.out, (fun h => by rw [HF.out] at h; cases h), fun l r h => ?_⟩; rw [HF.out] at h
      cases h
      exact ⟨_, rfl, HL.out⟩
structure PaP (w w' : World) (e : Ending) (ok : Prop) (a k v r : Int) (h : ByteArray) (o : Option (List ByteArray × List UInt8)) : Prop where
  only : Only (fun _ => False) w w'
  bad : ¬ ok ∨ o = none → ∃ (u0 u1 u2 u3 : Int) (u4 s : ByteArray), e = .returned (.tuple #[.agg #[.int .i64 u0, .int .i64 u1, .int .i64 u2, .int .i64 u3, .string u4, .slice none 0 0], .string s, .bool false])
  good : ok → ∀ l t, o = some (l, t) → ∃ B ao cp, e = .returned (.tuple #[.agg #[.int .i64 a, .int .i64 k, .int .i64 v, .int .i64 r, .string h, .slice ao l.length cp], .string (str t), .bool true]) ∧ Strs w' B ao l ∧ Fit ao l.length cp ∧ (0 < l.length → w.heap.size ≤ B)
theorem results_page3 {fn : Func} {p u t : Tmp} (h : fn.results = #[.cell p 45, .tmp u, .tmp t]) {tmps : Array Value} {w : World} {b : Nat} {v0 v1 v2 v3 v4 v5 : Value} (hp : tmps.getD p undef = .pointer (some ⟨b, 0, none⟩)) (hP : Pag w b v0 v1 v2 v3 v4 v5) :
    (results fn tmps).run Tryz.prog w = .ok (.tuple #[.agg #[v0, v1, v2, v3, v4, v5], tmps.getD u undef, tmps.getD t undef]) w := by
  have e : (asAddr (.pointer (some ⟨b, 0, none⟩))).run Tryz.prog w = .ok ⟨b, 0, none⟩ w := rfl; have l := load_page hP
  have hp' : tmps[p]?.getD undef = .pointer (some ⟨b, 0, none⟩) := by simpa using hp
  simp only [results, h]
  simp [Sem.run_bind, Result.andThen]
  rw [hp', e]; simp only [l]
theorem Pag.set4 {w : World} {b : Nat} {v0 v1 v2 v3 v4 v5 : Value} (h : Pag w b v0 v1 v2 v3 v4 v5) (x : Value) : Pag (w.setCell ⟨b, 4, none⟩ x) b v0 v1 v2 v3 x v5 := by
  have oth : ∀ (j : Nat) (y : Value), 4 ≠ j → w.cell? ⟨b, j, none⟩ = some y → (w.setCell ⟨b, 4, none⟩ x).cell? ⟨b, j, none⟩ = some y := fun j y hij hx => (World.cell?_setCell_other _ _ _ _ (by intro e; injection e with _ e2; exact hij e2)).trans hx
  exact ⟨oth 0 _ (by omega) h.c0, oth 1 _ (by omega) h.c1, oth 2 _ (by omega) h.c2, oth 3 _ (by omega) h.c3, World.cell?_setCell_same _ _ _ h.c4, oth 5 _ (by omega) h.c5, by simpa using h.f0, by simpa using h.f1, by simpa using h.f2, by simpa using h.f3, by simpa using h.f4, by simpa using h.f5, by simpa using h.lt⟩
theorem dr4 (w : World) : Only (fun _ => False) w w.drew.drew.drew.drew := o2 (o2 (o2 (Only.drew _ _) (Only.drew _ _)) (Only.drew _ _)) (Only.drew _ _)
theorem wb (x : UInt8) : wrap64 (x.toNat : Int) = (x.toNat : Int) := by have := x.toNat_lt; unfold wrap64; omega
set_option maxRecDepth 100000 in
set_option maxHeartbeats 1600000 in
theorem parts_any (w : World) (D D1 D2 D3 D4 A1 A4 : ByteArray) (x8 x9 x14 x15 : UInt8) (hD : D.size = 508)
    (e1 : D.extract 0 8 = A1) (e2 : D.extract 8 D.size = D1) (s1 : D1.size = 500) (s0 : A1.size = 8) (n8 : 0 < D1.size) (n9 : 1 < D1.size) (i8 : D1[0]'n8 = x8) (i9 : D1[1]'n9 = x9) (e3 : D1.extract 2 D1.size = D2) (s2 : D2.size = 498)
    (e4 : D2.extract 0 4 = A4) (s4 : A4.size = 4) (e5 : D2.extract 4 D2.size = D3) (s3 : D3.size = 494) (n14 : 0 < D3.size) (n15 : 1 < D3.size) (i14 : D3[0]'n14 = x14) (i15 : D3[1]'n15 = x15) (e6 : D3.extract 2 D3.size = D4) (s5 : D4.size = 492) (x0 : UInt8) (n0 : 0 < A1.size) (i0 : A1[0]'n0 = x0) (a r : Int) (ea : ofTo (bl A1) % 9223372036854775808 = a) (er : ofTo (bl A4) % 9223372036854775808 = r) (hr : r ≤ 4294967295) (H D5 : ByteArray) (e7 : D4.extract 0 x15.toNat = H) (e8 : D4.extract x15.toNat D4.size = D5) (s8 : D5.size ≤ 492) :
    Calls Tryz.prog 107 #[.string D] w fun e w' => PaP w w' e (x0.toNat ≤ 127 ∧ 1 ≤ x8.toNat ∧ x8.toNat ≤ 3) a x8.toNat x9.toNat r H (takeI x14.toNat (bl D5)) := by
  have h508 : D.size ≤ 508 := by omega
  have t1 : (8 : Int) ≤ (D.size : Int) := by omega
  have t2 : (2 : Int) ≤ (D1.size : Int) := by omega
  have t3 : (4 : Int) ≤ (D2.size : Int) := by omega
  have t4 : (2 : Int) ≤ (D3.size : Int) := by omega
  have t5 : (1 : Int) < (D1.size : Int) := by omega
  have t6 : (0 : Int) < (D1.size : Int) := by omega
  have t7 : (1 : Int) < (D3.size : Int) := by omega
  have t8 : (0 : Int) < (D3.size : Int) := by omega
  have S0 := hide s0; have S1 := hide s1; have S2 := hide s2; have S3 := hide s3; have S4 := hide s4; have S5 := hide s5; have SD := hide hD; clear s0 s1 s2 s3 s4 s5 hD; have hw8 := wb x8; have hw9 := wb x9; have hw14 := wb x14; have hw15 := wb x15; have b8 := x8.toNat_lt; have b9 := x9.toNat_lt; have b14 := x14.toNat_lt; have b15 := x15.toNat_lt; have b0 := x0.toNat_lt
  have ha0 : 0 ≤ a := by rw [← ea]; omega
  have hr0 : 0 ≤ r := by rw [← er]; omega
  have HOA : Hid (∀ W, Calls Tryz.prog 106 #[.string A1] W fun e w' => e = .returned (.int .i64 a) ∧ w' = W) := fun W => by
    have h1 := of_any A1 W (by have := S0.out; unfold maxLen; omega); rw [show ofTo A1.data.toList % 9223372036854775808 = a from ea] at h1
    exact h1
  have HOR : Hid (∀ W, Calls Tryz.prog 106 #[.string A4] W fun e w' => e = .returned (.int .i64 r) ∧ w' = W) := fun W => by
    have h1 := of_any A4 W (by have := S4.out; unfold maxLen; omega); rw [show ofTo A4.data.toList % 9223372036854775808 = r from er] at h1
    exact h1
  clear ea er
  go_enter Tryz.func107, Tryz.ntmps107
  go_wp2_with fail
  go_region
  go_wp2_with fail
  go_region
  go_wp2_with fail
  go_region
  go_wp2_with fail
  go_region
  go_wp2_with fail
  refine (HOA.out _).mono ?_; rintro e w1 ⟨rfl, rfl⟩
  go_wp2_with fail
  refine (HOR.out _).mono ?_; rintro e w1 ⟨rfl, rfl⟩
  go_wp2_with fail
  · have hx0 : x0.toNat ≤ 127 := by omega
    refine (inRange_any _ a (x8.toNat : Int) (x9.toNat : Int) r ⟨#[]⟩ 0 0 none).mono ?_; rintro e w5 ⟨rfl, ho5⟩; have HP5 := hide (((Pag.new w (.int .i64 a) (.int .i64 (x8.toNat : Int)) (.int .i64 (x9.toNat : Int)) (.int .i64 r) (.string ⟨#[]⟩) (.slice none 0 0)).more (dr4 _)).more ho5); have HO5 := hide (o2 (o2 (onlyA w (.cells #[.int .i64 a, .int .i64 (x8.toNat : Int), .int .i64 (x9.toNat : Int), .int .i64 r, .string ⟨#[]⟩, .slice none 0 0] 45)) (dr4 _)) ho5); have hz5 : w.heap.size < w5.heap.size := HP5.out.lt; obtain ⟨p0, p1, p2, p3, p4, p5, g0, g1, g2, g3, g4, g5, gl⟩ := HP5.out; clear ho5
    by_cases hk : 1 ≤ x8.toNat ∧ x8.toNat ≤ 3
    · have hd : decide (0 ≤ a ∧ 1 ≤ (x8.toNat : Int) ∧ (x8.toNat : Int) ≤ 3 ∧ 0 ≤ (x9.toNat : Int) ∧ (x9.toNat : Int) ≤ 255 ∧ 0 ≤ r ∧ r ≤ 4294967295) = true := decide_eq_true (by omega)
      rw [hd]; clear hd
      have hi0 : (0 : Int) ≤ (x15.toNat : Int) := by omega
      have hi1 : (x15.toNat : Int) ≤ (D4.size : Int) := by have := S5.out; omega
      go_wp2_with fail
      go_region
      go_wp2_with fail
      have hit := items_any ((w5.setCell ⟨w.heap.size, 4, none⟩ (.string H)).drew) (bl D5) x14.toNat (by omega) (by rw [bl_len]; omega); rw [str_bl] at hit; refine Calls.mono hit ?_; clear hit; intro e w7 hi7; have HO6 : Hid (Only (fun k => k = w.heap.size) w5 ((w5.setCell ⟨w.heap.size, 4, none⟩ (.string H)).drew)) := (Only.setCell (S := fun k => k = w.heap.size) w5 ⟨w.heap.size, 4, none⟩ (.string H) rfl).trans (Only.drew (fun k => k = w.heap.size) _) (fun _ _ h => h); have HP7 := hide (((HP5.out.set4 (.string H)).more (Only.drew _ _)).more hi7.only); have HO7 : Hid (Only (fun _ => False) w w7) := (HO5.out.trans HO6.out (fun i hi e => by omega)).trans hi7.only (fun _ _ h => h); have hz7 : w.heap.size < ((w5.setCell ⟨w.heap.size, 4, none⟩ (.string H)).drew).heap.size := Nat.lt_of_lt_of_le hz5 HO6.out.size; have HZ7 := hide hz7; clear p0 p1 p2 p3 p4 p5 g0 g1 g2 g3 g4 g5 gl hz7; obtain ⟨p0, p1, p2, p3, p4, p5, g0, g1, g2, g3, g4, g5, gl⟩ := HP7.out
      cases ho : takeI x14.toNat (bl D5) with
      | none =>
        have he := hi7.bad ho; subst he; have HB := hide ho; clear ho hi7
        go_wp2_with fail
        refine bodyPost_ret (results_page3 rfl rfl (Pag.six (HP7.out.set5 _) _ _ _ _ _ _)) rfl ?_
        exact ⟨(HO7.out.trans (Only.setCell (S := fun k => k = w.heap.size) w7 ⟨w.heap.size, 5, none⟩ _ rfl) (fun i hi e => by omega)).trans (Only.six _ w.heap.size _ _ _ _ _ _) (fun i hi e => by omega), fun _ => ⟨_, _, _, _, _, _, rfl⟩, fun _ l t h => by rw [HB.out] at h; cases h⟩
      | some q =>
        obtain ⟨l, t⟩ := q; obtain ⟨v7, he, hl7⟩ := hi7.good l t ho; subst he
        obtain ⟨B7, ao7, cp7, rfl, hS7, hF7, hB7, _⟩ := hl7.strs (by have := (takeI_back _ _ _ _ ho).2; omega) (by
          intro s hs; have h1 := congrArg List.length (takeI_back _ _ _ _ ho).1; have h2 := isz_mem hs; rw [bl_len, List.length_append, itemsL_len] at h1
          omega)
        have HS7 := hide hS7; have HF7 := hide hF7
        have HB7 : Hid (0 < l.length → w.heap.size < B7) := fun h => Nat.lt_of_lt_of_le HZ7.out (hB7 h)
        have HSOME := hide ho; clear ho hi7 hl7 hS7 hF7 hB7
        go_wp2_with fail
        refine bodyPost_ret (results_page3 rfl rfl (Pag.six (HP7.out.set5 _) _ _ _ _ _ _)) rfl ?_; have ho8 : Only (fun k => k = w.heap.size) w7 _ := (Only.setCell (S := fun k => k = w.heap.size) w7 ⟨w.heap.size, 5, none⟩ (.slice ao7 l.length cp7) rfl).trans (Only.six _ w.heap.size (.int .i64 a) (.int .i64 (x8.toNat : Int)) (.int .i64 (x9.toNat : Int)) (.int .i64 r) (.string H) (.slice ao7 l.length cp7)) (fun _ _ h => h); refine ⟨HO7.out.trans ho8 (fun i hi e => by omega), fun hb => ?_, fun _ l' t' h => ?_⟩
        · rcases hb with hb | hb
          · exact absurd ⟨hx0, hk⟩ hb
          · rw [HSOME.out] at hb; cases hb
        · rw [HSOME.out] at h
          cases h
          exact ⟨B7, ao7, cp7, rfl, HS7.out.kept ho8 (fun h0 e => by have := HB7.out h0; omega), HF7.out, fun h0 => by have := HB7.out h0; omega⟩
    · have hd : decide (0 ≤ a ∧ 1 ≤ (x8.toNat : Int) ∧ (x8.toNat : Int) ≤ 3 ∧ 0 ≤ (x9.toNat : Int) ∧ (x9.toNat : Int) ≤ 255 ∧ 0 ≤ r ∧ r ≤ 4294967295) = false := decide_eq_false (by omega)
      rw [hd]; clear hd
      go_wp2_with fail
      refine bodyPost_ret (results_page3 rfl rfl (Pag.six HP5.out _ _ _ _ _ _)) rfl ?_
      exact ⟨HO5.out.trans (Only.six w5 w.heap.size _ _ _ _ _ _) (fun i hi e => by omega), fun _ => ⟨_, _, _, _, _, _, rfl⟩, fun hok => absurd hok.2 hk⟩
  · refine bodyPost_ret (results_page3 rfl rfl ((Pag.new w _ _ _ _ _ _).more (dr4 _))) rfl ?_
    exact ⟨o2 (onlyA _ _) (dr4 _), fun _ => ⟨_, _, _, _, _, _, rfl⟩, fun hok => absurd hok.1 (by omega)⟩
theorem dw_nil (c : UInt8) (l : List UInt8) : l.dropWhile (· == c) = [] ↔ ∀ x ∈ l, x = c := by
  induction l with
  | nil => simp
  | cons a t ih =>
    by_cases h : a = c
    · subst h; simpa using ih
    · simp [h]
theorem dw_head (c : UInt8) (l : List UInt8) : l.dropWhile (· == c) = [] ∨ ∃ a t, l.dropWhile (· == c) = a :: t ∧ a ≠ c := by
  induction l with
  | nil => exact .inl rfl
  | cons a t ih =>
    by_cases h : a = c
    · subst h; simpa using ih
    · exact .inr ⟨a, t, by simp [h], h⟩
theorem trim_iff (l : List UInt8) : Lib.trimB l 0 = [] ↔ l = List.replicate l.length 0 := by
  unfold Lib.trimB Lib.trimLeftB Lib.trimRightB; rw [dw_nil]
  constructor
  · intro h
    rcases dw_head 0 l.reverse with h1 | ⟨a, t, h1, h2⟩
    · rw [dw_nil] at h1
      exact List.eq_replicate_of_mem (fun x hx => h1 x (by simpa using hx))
    · exact absurd (h a (by rw [h1]; simp)) h2
  · intro h x hx
    have h1 : ∀ y ∈ l.reverse, y = 0 := fun y hy => by
      rw [h] at hy
      simp at hy
      exact hy.2
    have h2 := (dw_nil 0 l.reverse).2 h1; rw [h2] at hx
    simp at hx
theorem idx {s : ByteArray} {i : Nat} (h : i < s.size) : s[i] = (bl s).getD i 0 := by
  have h' : i < (bl s).length := by rw [bl_len]; exact h
  rw [List.getD_eq_getElem?_getD, List.getElem?_eq_getElem h']
  rfl
structure PaQ (w w' : World) (e : Ending) (D : List UInt8) : Prop where
  only : Only (fun _ => False) w w'
  bad : (∀ p t, pre D = some (p, t) → ¬ ((D.getD 0 0).toNat ≤ 127 ∧ (1 ≤ p.kind ∧ p.kind ≤ 3))) → ∃ (u0 u1 u2 u3 : Int) (u4 s : ByteArray), e = .returned (.tuple #[.agg #[.int .i64 u0, .int .i64 u1, .int .i64 u2, .int .i64 u3, .string u4, .slice none 0 0], .string s, .bool false])
  good : ∀ p t, pre D = some (p, t) → (D.getD 0 0).toNat ≤ 127 ∧ (1 ≤ p.kind ∧ p.kind ≤ 3) → ∃ B ao cp, e = .returned (.tuple #[.agg #[.int .i64 p.lsn, .int .i64 p.kind, .int .i64 p.level, .int .i64 p.right, .string p.high, .slice ao p.items.length cp], .string (str t), .bool true]) ∧ Strs w' B ao p.items ∧ Fit ao p.items.length cp ∧ (0 < p.items.length → w.heap.size ≤ B)
theorem parts_list (w : World) (D : ByteArray) (hD : D.size = 508) : Calls Tryz.prog 107 #[.string D] w fun e w' => PaQ w w' e (bl D) := by
  have L : (bl D).length = 508 := by rw [bl_len]; exact hD
  obtain ⟨Dl, hDl⟩ : ∃ Dl, bl D = Dl := ⟨_, rfl⟩; rw [hDl] at L ⊢
  have bA1 : bl (D.extract 0 8) = Dl.take 8 := by rw [ext_bl, hDl, List.drop_zero]
  have bD1 : bl (D.extract 8 D.size) = Dl.drop 8 := by rw [ext_bl, hDl, List.take_of_length_le (by omega)]
  obtain ⟨A1, hA1⟩ : ∃ A1, D.extract 0 8 = A1 := ⟨_, rfl⟩; obtain ⟨D1, hD1⟩ : ∃ D1, D.extract 8 D.size = D1 := ⟨_, rfl⟩; rw [hA1] at bA1; rw [hD1] at bD1
  have sA1 : A1.size = 8 := by rw [← bl_len, bA1]; simp [L]
  have sD1 : D1.size = 500 := by rw [← bl_len, bD1]; simp [L]
  have bD2 : bl (D1.extract 2 D1.size) = Dl.drop 10 := by rw [ext_bl, List.take_of_length_le (by rw [bl_len]; exact Nat.le_refl _), bD1, List.drop_drop]
  obtain ⟨D2, hD2⟩ : ∃ D2, D1.extract 2 D1.size = D2 := ⟨_, rfl⟩; rw [hD2] at bD2
  have sD2 : D2.size = 498 := by rw [← bl_len, bD2]; simp [L]
  have bA4 : bl (D2.extract 0 4) = (Dl.drop 10).take 4 := by rw [ext_bl, bD2, List.drop_zero]
  have bD3 : bl (D2.extract 4 D2.size) = Dl.drop 14 := by rw [ext_bl, List.take_of_length_le (by rw [bl_len]; exact Nat.le_refl _), bD2, List.drop_drop]
  obtain ⟨A4, hA4⟩ : ∃ A4, D2.extract 0 4 = A4 := ⟨_, rfl⟩; obtain ⟨D3, hD3⟩ : ∃ D3, D2.extract 4 D2.size = D3 := ⟨_, rfl⟩; rw [hA4] at bA4; rw [hD3] at bD3
  have sA4 : A4.size = 4 := by rw [← bl_len, bA4]; simp [L]
  have sD3 : D3.size = 494 := by rw [← bl_len, bD3]; simp [L]
  have bD4 : bl (D3.extract 2 D3.size) = Dl.drop 16 := by rw [ext_bl, List.take_of_length_le (by rw [bl_len]; exact Nat.le_refl _), bD3, List.drop_drop]
  obtain ⟨D4, hD4⟩ : ∃ D4, D3.extract 2 D3.size = D4 := ⟨_, rfl⟩; rw [hD4] at bD4
  have sD4 : D4.size = 492 := by rw [← bl_len, bD4]; simp [L]
  have x8 : D1[0]'(by omega) = Dl.getD 8 0 := by rw [idx, bD1]; simp [List.getD_eq_getElem?_getD]
  have x9 : D1[1]'(by omega) = Dl.getD 9 0 := by rw [idx, bD1]; simp [List.getD_eq_getElem?_getD]
  have x14 : D3[0]'(by omega) = Dl.getD 14 0 := by rw [idx, bD3]; simp [List.getD_eq_getElem?_getD]
  have x15 : D3[1]'(by omega) = Dl.getD 15 0 := by rw [idx, bD3]; simp [List.getD_eq_getElem?_getD]
  have x0 : A1[0]'(by omega) = Dl.getD 0 0 := by rw [idx, bA1]; simp [List.getD_eq_getElem?_getD]
  have hr := ofTo_small ((Dl.drop 10).take 4) (by simp; omega)
  have l4 : ((Dl.drop 10).take 4).length = 4 := by simp [L]
  rw [l4] at hr
  have h4 : (256 : Int) ^ 4 = 4294967296 := by decide
  have bH : bl (D4.extract 0 (Dl.getD 15 0).toNat) = (Dl.drop 16).take (Dl.getD 15 0).toNat := by rw [ext_bl, bD4, List.drop_zero]
  have bD5 : bl (D4.extract (Dl.getD 15 0).toNat D4.size) = (Dl.drop 16).drop (Dl.getD 15 0).toNat := by rw [ext_bl, List.take_of_length_le (by rw [bl_len]; exact Nat.le_refl _), bD4]
  have key := parts_any w D D1 D2 D3 D4 A1 A4 (Dl.getD 8 0) (Dl.getD 9 0) (Dl.getD 14 0) (Dl.getD 15 0) hD hA1 hD1 sD1 sA1 (by omega) (by omega) x8 x9 hD2 sD2 hA4 sA4 hD3 sD3 (by omega) (by omega) x14 x15 hD4 sD4
    (Dl.getD 0 0) (by omega) x0 (ofTo (Dl.take 8) % 9223372036854775808) (ofTo ((Dl.drop 10).take 4) % 9223372036854775808) (by rw [bA1]) (by rw [bA4]) (by omega)
    (D4.extract 0 (Dl.getD 15 0).toNat) (D4.extract (Dl.getD 15 0).toNat D4.size) rfl rfl (by rw [← bl_len, bD5]; simp [L]; omega)
  rw [bD5] at key
  have eH : D4.extract 0 (Dl.getD 15 0).toNat = str ((Dl.drop 16).take (Dl.getD 15 0).toNat) := by rw [← bH, str_bl]
  rw [eH] at key; refine Calls.mono key ?_; intro e w' h; refine ⟨h.only, fun hb => h.bad ?_, fun p t hp hk => ?_⟩
  · cases ho : takeI (Dl.getD 14 0).toNat ((Dl.drop 16).drop (Dl.getD 15 0).toNat) with
    | none => exact .inr rfl
    | some q =>
      obtain ⟨l, t⟩ := q
      left
      intro hk; refine hb _ t (by unfold pre; rw [ho]) ⟨hk.1, ?_, ?_⟩
      · show (1 : Int) ≤ ((Dl.getD 8 0).toNat : Int); omega
      · show ((Dl.getD 8 0).toNat : Int) ≤ 3; omega
  · unfold pre at hp
    cases ho : takeI (Dl.getD 14 0).toNat ((Dl.drop 16).drop (Dl.getD 15 0).toNat) with
    | none => rw [ho] at hp; cases hp
    | some q =>
      obtain ⟨l, t'⟩ := q; rw [ho] at hp; simp only [Option.some.injEq, Prod.mk.injEq] at hp; obtain ⟨rfl, rfl⟩ := hp
      simp only at hk
      exact h.good ⟨hk.1, by omega, by omega⟩ l t' ho
theorem dec_size {l : List UInt8} (h : l.length ≠ 512) : dec l = (.none, 31) := by unfold dec; rw [if_pos h]
theorem dec_sum {l : List UInt8} (h : l.length = 512) (h2 : ofTo (l.take 4) ≠ sum (l.drop 4)) : dec l = (.none, 30) := by unfold dec; rw [if_neg (by omega), if_pos h2]
theorem dec_bad {l : List UInt8} (h : l.length = 512) (h2 : ofTo (l.take 4) = sum (l.drop 4)) (h3 : ∀ p t, pre (l.drop 4) = some (p, t) → ¬ good (l.drop 4) p t) : dec l = (.none, 31) := by
  unfold dec; rw [if_neg (by omega), if_neg (by simpa using h2)]
  cases ho : pre (l.drop 4) with
  | none => rfl
  | some q => simp only; rw [if_neg (h3 _ _ ho)]
theorem dec_good {l : List UInt8} {p : Pg} {t : List UInt8} (h : l.length = 512) (h2 : ofTo (l.take 4) = sum (l.drop 4)) (h3 : pre (l.drop 4) = some (p, t)) (h4 : good (l.drop 4) p t) : dec l = (p, 0) := by
  unfold dec; rw [if_neg (by omega), if_neg (by simpa using h2), h3]
  simp only
  rw [if_pos h4]
theorem str_some (s : ByteArray) (h : 0 < s.size) : s.toList.isEmpty = false := by
  rw [ByteArray.toList_eq]
  cases hl : s.data.toList with
  | nil =>
    have h1 : s.data.toList.length = 0 := by rw [hl]; rfl
    have h2 : s.data.toList.length = s.size := by rw [Array.length_toList]; rfl
    omega
  | cons a t => rfl
set_option maxRecDepth 100000 in
set_option maxHeartbeats 1600000 in
theorem pdecode_any (w : World) (S : ByteArray) : Calls Tryz.prog 85 #[.string S] w fun e w' => Res w w' e (dec (bl S)).1 (dec (bl S)).2 := by
  have HP := hide (Pag.new w (.int .i64 0) (.int .i64 0) (.int .i64 0) (.int .i64 0) (.string ⟨#[]⟩) (.slice none 0 0)); have HO0 := hide (onlyA w (.cells #[.int .i64 0, .int .i64 0, .int .i64 0, .int .i64 0, .string ⟨#[]⟩, .slice none 0 0] 45)); have L := bl_len S
  by_cases h5 : S.size = 512
  · have h5' : ((S.size : Int) != 512) = false := by simp; omega
    have t4 : (4 : Int) ≤ (S.size : Int) := by omega
    obtain ⟨A, hA⟩ : ∃ A, S.extract 0 4 = A := ⟨_, rfl⟩; obtain ⟨D, hD⟩ : ∃ D, S.extract 4 S.size = D := ⟨_, rfl⟩
    have bA : bl A = (bl S).take 4 := by rw [← hA, ext_bl, List.drop_zero]
    have bD : bl D = (bl S).drop 4 := by rw [← hD, ext_bl, List.take_of_length_le (by omega)]
    have sA : A.size = 4 := by rw [← bl_len, bA]; simp; omega
    have sD : D.size = 508 := by rw [← bl_len, bD]; simp; omega
    have hq := ofTo_small ((bl S).take 4) (by simp; omega)
    have l4 : ((bl S).take 4).length = 4 := by simp; omega
    rw [l4, show (256 : Int) ^ 4 = 4294967296 by decide] at hq; obtain ⟨q, hqe⟩ : ∃ q, ofTo ((bl S).take 4) = q := ⟨_, rfl⟩; obtain ⟨z, hz⟩ : ∃ z, sum ((bl S).drop 4) = z := ⟨_, rfl⟩; have hzb := sum_bd ((bl S).drop 4); rw [hqe] at hq; rw [hz] at hzb
    have HOF : Hid (∀ W, Calls Tryz.prog 106 #[.string A] W fun e w' => e = .returned (.int .i64 q) ∧ w' = W) := fun W => by
      have h1 := of_any A W (by unfold maxLen; omega); rw [show A.data.toList = (bl S).take 4 from bA, hqe, show q % 9223372036854775808 = q by omega] at h1
      exact h1
    have HSU : Hid (∀ W, Calls Tryz.prog 90 #[.string D] W fun e w' => e = .returned (.int .u32 z) ∧ w' = W) := fun W => by
      have h1 := sum_any D W (by unfold maxLen; omega); rw [show D.data.toList = (bl S).drop 4 from bD, hz] at h1
      exact h1
    have HPA : Hid (∀ W, Calls Tryz.prog 107 #[.string D] W fun e w' => PaQ W w' e ((bl S).drop 4)) := fun W => by
      have h1 := parts_list W D sD; rw [bD] at h1
      exact h1
    have hL : (bl S).length = 512 := by omega
    have q0 := hq.1; have q1 := hq.2; have z0 := hzb.1; have z1 := hzb.2; have hwz : wrap64 z = z := w64_id z (by omega); have HQE := hide hqe; have HZE := hide hz; have HL := hide hL; clear hq hzb bA bD sA sD l4 hqe hz hL L h5
    by_cases hqz : q = z
    · have hne : (q != z) = false := by simp [hqz]
      have HEQ : Hid (ofTo ((bl S).take 4) = sum ((bl S).drop 4)) := by unfold Hid; rw [HQE.out, HZE.out, hqz]
      clear hqz
      go_enter Tryz.func85, Tryz.ntmps85
      go_wp2_with fail
      go_quiet ((first | (go_at_call 106; exact Calls.quiet_of_same (HOF.out _)) | (go_at_call 90; exact Calls.quiet_of_same (HSU.out _))))
      go_wp2_with fail
      refine (HPA.out _).mono ?_; intro e w2 hp2; have HO2 := hide (o2 (onlyN _ nq) hp2.only); have HP2 := hide (HP.out.more HO2.out); have hz2 : w.heap.size < w2.heap.size := HP2.out.lt; have hzW : w.heap.size < ((w.alloc (.cells #[.int .i64 0, .int .i64 0, .int .i64 0, .int .i64 0, .string ⟨#[]⟩, .slice none 0 0] 45)).drewN nq).heap.size := (HP.out.more (onlyN _ nq)).lt; obtain ⟨p0, p1, p2, p3, p4, p5, g0, g1, g2, g3, g4, g5, gl⟩ := HP2.out
      by_cases hb : ∃ p t, pre ((bl S).drop 4) = some (p, t) ∧ (((bl S).drop 4).getD 0 0).toNat ≤ 127 ∧ (1 ≤ p.kind ∧ p.kind ≤ 3)
      · obtain ⟨p, t, hpt, hbk⟩ := hb
        obtain ⟨B, ao, cp, he, hS, hF, hB⟩ := hp2.good p t hpt hbk; subst he; have HSS := hide hS; have HFF := hide hF
        have HBB : Hid (0 < p.items.length → w.heap.size < B) := fun h => Nat.lt_of_lt_of_le hzW (hB h)
        have htl : t.length ≤ 512 := by have := (pre_is _ _ _ (by rw [List.length_drop, HL.out]) hpt).size; omega
        have HPT := hide hpt; have HBK := hide hbk; clear hp2 hS hF hB hpt hbk hzW; obtain ⟨Tr, hTr⟩ : ∃ Tr, (⟨(Lib.trimB (str t).data.toList 0).toArray⟩ : ByteArray) = Tr := ⟨_, rfl⟩
        have HTRIM : Hid (∀ W, Calls Tryz.prog 108 #[.string (str t), .string ⟨#[0]⟩] W fun e w' => e = .returned (.string Tr) ∧ Hid (Only (fun _ => False) W w')) := fun W => by
          have h1 := Tryz.strings_Trim_one (str t) 0 (by decide) W (by rw [str_size]; omega); rw [hTr] at h1
          exact h1.mono (fun e w' hx => ⟨hx.1, by rcases hx.2 with h | h; (rw [h]; exact Only.refl _ _); (rw [h]; exact Only.drew _ _)⟩)
        by_cases hz : t = List.replicate t.length 0
        · have hTe : Tr = ⟨#[]⟩ := by
            rw [← hTr, show (str t).data.toList = t from rfl, (trim_iff t).2 hz]
          have HD : Hid (dec (bl S) = (p, 0)) := dec_good HL.out HEQ.out HPT.out ⟨HBK.out.1, HBK.out.2, hz⟩; subst hTe; clear hTr hz
          go_wp2_with fail
          refine (HTRIM.out _).mono ?_; rintro e w3 ⟨rfl, HO3⟩; have HO3' := hide (o2 (onlyA w2 (.cells #[.int .i64 p.lsn, .int .i64 p.kind, .int .i64 p.level, .int .i64 p.right, .string p.high, .slice ao p.items.length cp] 45)) HO3.out); have HP3 := hide (HP2.out.more HO3'.out); have HQ3 := hide ((Pag.new w2 (.int .i64 p.lsn) (.int .i64 p.kind) (.int .i64 p.level) (.int .i64 p.right) (.string p.high) (.slice ao p.items.length cp)).more HO3.out); clear p0 p1 p2 p3 p4 p5 g0 g1 g2 g3 g4 g5 gl; obtain ⟨p0, p1, p2, p3, p4, p5, g0, g1, g2, g3, g4, g5, gl⟩ := HP3.out; obtain ⟨q0', q1', q2, q3, q4, q5, _⟩ := HQ3.out
          go_wp2_with fail
          refine bodyPost_ret (results_page rfl rfl (Pag.six HP3.out _ _ _ _ _ _)) rfl ?_; rw [HD.out]; have ho6 := Only.six w3 w.heap.size (.int .i64 p.lsn) (.int .i64 p.kind) (.int .i64 p.level) (.int .i64 p.right) (.string p.high) (.slice ao p.items.length cp)
          exact ⟨B, ao, cp, rfl, (HSS.out.more HO3'.out).kept ho6 (fun h0 e => by have := HBB.out h0; omega), HFF.out, (o2 HO0.out (o2 HO2.out HO3'.out)).trans ho6 (fun i hi e => by omega), fun h0 => Nat.le_of_lt (HBB.out h0)⟩
        · have hTs : 0 < Tr.size := by
            rw [← hTr, show (str t).data.toList = t from rfl]
            show 0 < (Lib.trimB t 0).length
            have := fun h => hz ((trim_iff t).1 h)
            exact List.length_pos_iff.2 this
          have hTn : Tr.toList.isEmpty = false := str_some Tr hTs; have HD : Hid (dec (bl S) = (.none, 31)) := dec_bad HL.out HEQ.out (fun p' t' h' hg => by rw [HPT.out] at h'; cases h'; exact hz hg.2.2); clear hTr hz hTs
          go_wp2_with fail
          refine (HTRIM.out _).mono ?_; rintro e w3 ⟨rfl, HO3⟩; have HO3' := hide (o2 (onlyA w2 (.cells #[.int .i64 p.lsn, .int .i64 p.kind, .int .i64 p.level, .int .i64 p.right, .string p.high, .slice ao p.items.length cp] 45)) HO3.out); have HP3 := hide (HP2.out.more HO3'.out); clear p0 p1 p2 p3 p4 p5 g0 g1 g2 g3 g4 g5 gl; obtain ⟨p0, p1, p2, p3, p4, p5, g0, g1, g2, g3, g4, g5, gl⟩ := HP3.out
          go_wp2_with fail
          refine bodyPost_ret (results_page rfl rfl (Pag.six HP3.out _ _ _ _ _ _)) rfl ?_; rw [HD.out]
          exact Res.none 31 ((o2 HO0.out (o2 HO2.out HO3'.out)).trans (Only.six w3 w.heap.size _ _ _ _ _ _) (fun i hi e => by omega))
      · obtain ⟨u0, u1, u2, u3, u4, st, he⟩ := hp2.bad (fun p t h1 h2 => hb ⟨p, t, h1, h2⟩)
        subst he; have HD : Hid (dec (bl S) = (.none, 31)) := dec_bad HL.out HEQ.out (fun p t h1 h2 => hb ⟨p, t, h1, h2.1, h2.2.1⟩); clear hp2 hb hzW
        go_upto_region 6 with fail
        have HP3 := hide (HP2.out.more (onlyA w2 (.cells #[.int .i64 u0, .int .i64 u1, .int .i64 u2, .int .i64 u3, .string u4, .slice none 0 0] 45))); have HO3 := hide (o2 HO0.out (o2 HO2.out (onlyA w2 (.cells #[.int .i64 u0, .int .i64 u1, .int .i64 u2, .int .i64 u3, .string u4, .slice none 0 0] 45)))); obtain ⟨w3, hw3⟩ : ∃ w3, w2.alloc (.cells #[.int .i64 u0, .int .i64 u1, .int .i64 u2, .int .i64 u3, .string u4, .slice none 0 0] 45) = w3 := ⟨_, rfl⟩; rw [hw3] at HP3 HO3 ⊢; clear hw3 p0 p1 p2 p3 p4 p5 g0 g1 g2 g3 g4 g5 gl; obtain ⟨p0, p1, p2, p3, p4, p5, g0, g1, g2, g3, g4, g5, gl⟩ := HP3.out
        go_wp2_with fail
        refine bodyPost_ret (results_page rfl rfl (Pag.six HP3.out _ _ _ _ _ _)) rfl ?_; rw [HD.out]
        exact Res.none 31 (HO3.out.trans (Only.six _ w.heap.size _ _ _ _ _ _) (fun i hi e => by omega))
    · have hne : (q != z) = true := by simpa using hqz
      have HD : Hid (dec (bl S) = (.none, 30)) := dec_sum HL.out (by rw [HQE.out, HZE.out]; exact hqz); clear hqz
      go_enter Tryz.func85, Tryz.ntmps85
      go_wp2_with fail
      go_quiet ((first | (go_at_call 106; exact Calls.quiet_of_same (HOF.out _)) | (go_at_call 90; exact Calls.quiet_of_same (HSU.out _))))
      go_wp2_with fail
      have HP3 := hide (HP.out.more (onlyN _ nq)); have ho3 := o2 HO0.out (onlyN _ nq); refine bodyPost_ret (results_page rfl rfl (Pag.six HP3.out _ _ _ _ _ _)) rfl ?_; rw [HD.out]
      exact Res.none 30 (ho3.trans (Only.six _ w.heap.size _ _ _ _ _ _) (fun i hi e => by omega))
  · have h5' : ((S.size : Int) != 512) = true := by simp; omega
    have HD : Hid (dec (bl S) = (.none, 31)) := dec_size (by omega); clear h5 L
    go_enter Tryz.func85, Tryz.ntmps85
    go_wp2_with fail
    refine bodyPost_ret (results_page rfl rfl (Pag.new w _ _ _ _ _ _)) rfl ?_; rw [HD.out]
    exact Res.none 31 (onlyA _ _)
end Go.Proofs.YtebijheonkagfaaGreatDoor
