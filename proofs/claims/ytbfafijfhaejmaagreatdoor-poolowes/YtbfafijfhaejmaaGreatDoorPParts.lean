/- What parts does. -/
import Derived.Test.YtbfafijfhaejmaaGreatDoorPItems
namespace Go.Proofs.YtbfafijfhaejmaaGreatDoor
open Go.RowKit

/-- What parts answers of bytes of which the page p and the rest are read, if any, and which begin as they must, or not. -/
structure PaP (w w' : World) (e : Ending) (ok : Prop) (a k v r : Int) (h : ByteArray) (o : Option (List ByteArray × List UInt8)) : Prop where
  only : Only (fun _ => False) w w'
  bad : ¬ ok ∨ o = none → ∃ (u0 u1 u2 u3 : Int) (u4 s : ByteArray), e = .returned (.tuple #[.agg #[.int .i64 u0, .int .i64 u1, .int .i64 u2, .int .i64 u3, .string u4, .slice none 0 0], .string s, .bool false])
  good : ok → ∀ l t, o = some (l, t) → ∃ B ao cp, e = .returned (.tuple #[.agg #[.int .i64 a, .int .i64 k, .int .i64 v, .int .i64 r, .string h, .slice ao l.length cp], .string (str t), .bool true]) ∧ Strs w' B ao l ∧ Fit ao l.length cp ∧ (0 < l.length → w.heap.size ≤ B)
theorem results_page3 {fn : Func} {p u t : Tmp} (h : fn.results = #[.cell p 45, .tmp u, .tmp t]) {tmps : Array Value} {w : World} {b : Nat} {v0 v1 v2 v3 v4 v5 : Value} (hp : tmps.getD p undef = .pointer (some ⟨b, 0, none⟩)) (hP : Pag w b v0 v1 v2 v3 v4 v5) :
    (results fn tmps).run Tryz.prog w = .ok (.tuple #[.agg #[v0, v1, v2, v3, v4, v5], tmps.getD u undef, tmps.getD t undef]) w := by
  have e : (asAddr (.pointer (some ⟨b, 0, none⟩))).run Tryz.prog w = .ok ⟨b, 0, none⟩ w := rfl
  have l := load_page hP
  have hp' : tmps[p]?.getD undef = .pointer (some ⟨b, 0, none⟩) := by simpa using hp
  simp only [results, h]
  simp [Sem.run_bind, Result.andThen]
  rw [hp', e]
  simp only [l]
theorem Pag.set4 {w : World} {b : Nat} {v0 v1 v2 v3 v4 v5 : Value} (h : Pag w b v0 v1 v2 v3 v4 v5) (x : Value) : Pag (w.setCell ⟨b, 4, none⟩ x) b v0 v1 v2 v3 x v5 := by
  have oth : ∀ (j : Nat) (y : Value), 4 ≠ j → w.cell? ⟨b, j, none⟩ = some y → (w.setCell ⟨b, 4, none⟩ x).cell? ⟨b, j, none⟩ = some y := fun j y hij hx => (World.cell?_setCell_other _ _ _ _ (by intro e; injection e with _ e2; exact hij e2)).trans hx
  exact ⟨oth 0 _ (by omega) h.c0, oth 1 _ (by omega) h.c1, oth 2 _ (by omega) h.c2, oth 3 _ (by omega) h.c3, World.cell?_setCell_same _ _ _ h.c4, oth 5 _ (by omega) h.c5, by simpa using h.f0, by simpa using h.f1, by simpa using h.f2, by simpa using h.f3, by simpa using h.f4, by simpa using h.f5, by simpa using h.lt⟩
theorem dr4 (w : World) : Only (fun _ => False) w w.drew.drew.drew.drew := o2 (o2 (o2 (Only.drew _ _) (Only.drew _ _)) (Only.drew _ _)) (Only.drew _ _)
theorem wb (x : UInt8) : wrap64 (x.toNat : Int) = (x.toNat : Int) := by have := x.toNat_lt; unfold wrap64; omega
set_option maxRecDepth 100000 in
set_option maxHeartbeats 1600000 in
theorem parts_any (w : World) (D D1 D2 D3 D4 A1 A4 : ByteArray) (x8 x9 x14 x15 : UInt8) (hD : D.size = 508)
    (e1 : D.extract 0 8 = A1) (e2 : D.extract 8 D.size = D1) (s1 : D1.size = 500) (s0 : A1.size = 8) (n8 : 0 < D1.size) (n9 : 1 < D1.size) (i8 : D1[0]'n8 = x8) (i9 : D1[1]'n9 = x9) (e3 : D1.extract 2 D1.size = D2) (s2 : D2.size = 498)
    (e4 : D2.extract 0 4 = A4) (s4 : A4.size = 4) (e5 : D2.extract 4 D2.size = D3) (s3 : D3.size = 494) (n14 : 0 < D3.size) (n15 : 1 < D3.size) (i14 : D3[0]'n14 = x14) (i15 : D3[1]'n15 = x15) (e6 : D3.extract 2 D3.size = D4) (s5 : D4.size = 492) (x0 : UInt8) (n0 : 0 < A1.size) (i0 : A1[0]'n0 = x0) (a r : Int) (ea : ofTo (bl A1) % 9223372036854775808 = a) (er : ofTo (bl A4) % 9223372036854775808 = r) (hr : r ≤ 4294967295) (H D5 : ByteArray) (e7 : D4.extract 0 x15.toNat = H) (e8 : D4.extract x15.toNat D4.size = D5) (s8 : D5.size ≤ 492) :
    Calls Tryz.prog 85 #[.string D] w fun e w' => PaP w w' e (x0.toNat ≤ 127 ∧ 1 ≤ x8.toNat ∧ x8.toNat ≤ 3) a x8.toNat x9.toNat r H (takeI x14.toNat (bl D5)) := by
  have h508 : D.size ≤ 508 := by omega
  have t1 : (8 : Int) ≤ (D.size : Int) := by omega
  have t2 : (2 : Int) ≤ (D1.size : Int) := by omega
  have t3 : (4 : Int) ≤ (D2.size : Int) := by omega
  have t4 : (2 : Int) ≤ (D3.size : Int) := by omega
  have t5 : (1 : Int) < (D1.size : Int) := by omega
  have t6 : (0 : Int) < (D1.size : Int) := by omega
  have t7 : (1 : Int) < (D3.size : Int) := by omega
  have t8 : (0 : Int) < (D3.size : Int) := by omega
  have S0 := hide s0
  have S1 := hide s1
  have S2 := hide s2
  have S3 := hide s3
  have S4 := hide s4
  have S5 := hide s5
  have SD := hide hD
  clear s0 s1 s2 s3 s4 s5 hD
  have hw8 := wb x8
  have hw9 := wb x9
  have hw14 := wb x14
  have hw15 := wb x15
  have b8 := x8.toNat_lt
  have b9 := x9.toNat_lt
  have b14 := x14.toNat_lt
  have b15 := x15.toNat_lt
  have b0 := x0.toNat_lt
  have ha0 : 0 ≤ a := by rw [← ea]; omega
  have hr0 : 0 ≤ r := by rw [← er]; omega
  have HOA : Hid (∀ W, Calls Tryz.prog 83 #[.string A1] W fun e w' => e = .returned (.int .i64 a) ∧ w' = W) := fun W => by
    have h1 := of_any A1 W (by have := S0.out; unfold maxLen; omega)
    rw [show ofTo A1.data.toList % 9223372036854775808 = a from ea] at h1
    exact h1
  have HOR : Hid (∀ W, Calls Tryz.prog 83 #[.string A4] W fun e w' => e = .returned (.int .i64 r) ∧ w' = W) := fun W => by
    have h1 := of_any A4 W (by have := S4.out; unfold maxLen; omega)
    rw [show ofTo A4.data.toList % 9223372036854775808 = r from er] at h1
    exact h1
  clear ea er
  go_enter Tryz.func85, Tryz.ntmps85
  go_wp2_with fail
  go_region
  go_wp2_with fail
  go_region
  go_wp2_with fail
  go_region
  go_wp2_with fail
  go_region
  go_wp2_with fail
  refine (HOA.out _).mono ?_
  rintro e w1 ⟨rfl, rfl⟩
  go_wp2_with fail
  refine (HOR.out _).mono ?_
  rintro e w1 ⟨rfl, rfl⟩
  go_wp2_with fail
  · have hx0 : x0.toNat ≤ 127 := by omega
    refine (inRange_any _ a (x8.toNat : Int) (x9.toNat : Int) r ⟨#[]⟩ 0 0 none).mono ?_
    rintro e w5 ⟨rfl, ho5⟩
    have HP5 := hide (((Pag.new w (.int .i64 a) (.int .i64 (x8.toNat : Int)) (.int .i64 (x9.toNat : Int)) (.int .i64 r) (.string ⟨#[]⟩) (.slice none 0 0)).more (dr4 _)).more ho5)
    have HO5 := hide (o2 (o2 (onlyA w (.cells #[.int .i64 a, .int .i64 (x8.toNat : Int), .int .i64 (x9.toNat : Int), .int .i64 r, .string ⟨#[]⟩, .slice none 0 0] 45)) (dr4 _)) ho5)
    have hz5 : w.heap.size < w5.heap.size := HP5.out.lt
    obtain ⟨p0, p1, p2, p3, p4, p5, g0, g1, g2, g3, g4, g5, gl⟩ := HP5.out
    clear ho5
    by_cases hk : 1 ≤ x8.toNat ∧ x8.toNat ≤ 3
    · have hd : decide (0 ≤ a ∧ 1 ≤ (x8.toNat : Int) ∧ (x8.toNat : Int) ≤ 3 ∧ 0 ≤ (x9.toNat : Int) ∧ (x9.toNat : Int) ≤ 255 ∧ 0 ≤ r ∧ r ≤ 4294967295) = true := decide_eq_true (by omega)
      rw [hd]
      clear hd
      have hi0 : (0 : Int) ≤ (x15.toNat : Int) := by omega
      have hi1 : (x15.toNat : Int) ≤ (D4.size : Int) := by have := S5.out; omega
      go_wp2_with fail
      go_region
      go_wp2_with fail
      have hit := items_any ((w5.setCell ⟨w.heap.size, 4, none⟩ (.string H)).drew) (bl D5) x14.toNat (by omega) (by rw [bl_len]; omega)
      rw [str_bl] at hit
      refine Calls.mono hit ?_
      clear hit
      intro e w7 hi7
      have HO6 : Hid (Only (fun k => k = w.heap.size) w5 ((w5.setCell ⟨w.heap.size, 4, none⟩ (.string H)).drew)) := (Only.setCell (S := fun k => k = w.heap.size) w5 ⟨w.heap.size, 4, none⟩ (.string H) rfl).trans (Only.drew (fun k => k = w.heap.size) _) (fun _ _ h => h)
      have HP7 := hide (((HP5.out.set4 (.string H)).more (Only.drew _ _)).more hi7.only)
      have HO7 : Hid (Only (fun _ => False) w w7) := (HO5.out.trans HO6.out (fun i hi e => by omega)).trans hi7.only (fun _ _ h => h)
      have hz7 : w.heap.size < ((w5.setCell ⟨w.heap.size, 4, none⟩ (.string H)).drew).heap.size := Nat.lt_of_lt_of_le hz5 HO6.out.size
      have HZ7 := hide hz7
      clear p0 p1 p2 p3 p4 p5 g0 g1 g2 g3 g4 g5 gl hz7
      obtain ⟨p0, p1, p2, p3, p4, p5, g0, g1, g2, g3, g4, g5, gl⟩ := HP7.out
      cases ho : takeI x14.toNat (bl D5) with
      | none =>
        have he := hi7.bad ho
        subst he
        have HB := hide ho
        clear ho hi7
        go_wp2_with fail
        refine bodyPost_ret (results_page3 rfl rfl (Pag.six (HP7.out.set5 _) _ _ _ _ _ _)) rfl ?_
        exact ⟨(HO7.out.trans (Only.setCell (S := fun k => k = w.heap.size) w7 ⟨w.heap.size, 5, none⟩ _ rfl) (fun i hi e => by omega)).trans (Only.six _ w.heap.size _ _ _ _ _ _) (fun i hi e => by omega), fun _ => ⟨_, _, _, _, _, _, rfl⟩, fun _ l t h => by rw [HB.out] at h; cases h⟩
      | some q =>
        obtain ⟨l, t⟩ := q
        obtain ⟨v7, he, hl7⟩ := hi7.good l t ho
        subst he
        obtain ⟨B7, ao7, cp7, rfl, hS7, hF7, hB7, _⟩ := hl7.strs (by have := (takeI_back _ _ _ _ ho).2; omega) (by
          intro s hs
          have h1 := congrArg List.length (takeI_back _ _ _ _ ho).1
          have h2 := isz_mem hs
          rw [bl_len, List.length_append, itemsL_len] at h1
          omega)
        have HS7 := hide hS7
        have HF7 := hide hF7
        have HB7 : Hid (0 < l.length → w.heap.size < B7) := fun h => Nat.lt_of_lt_of_le HZ7.out (hB7 h)
        have HSOME := hide ho
        clear ho hi7 hl7 hS7 hF7 hB7
        go_wp2_with fail
        refine bodyPost_ret (results_page3 rfl rfl (Pag.six (HP7.out.set5 _) _ _ _ _ _ _)) rfl ?_
        have ho8 : Only (fun k => k = w.heap.size) w7 _ := (Only.setCell (S := fun k => k = w.heap.size) w7 ⟨w.heap.size, 5, none⟩ (.slice ao7 l.length cp7) rfl).trans (Only.six _ w.heap.size (.int .i64 a) (.int .i64 (x8.toNat : Int)) (.int .i64 (x9.toNat : Int)) (.int .i64 r) (.string H) (.slice ao7 l.length cp7)) (fun _ _ h => h)
        refine ⟨HO7.out.trans ho8 (fun i hi e => by omega), fun hb => ?_, fun _ l' t' h => ?_⟩
        · rcases hb with hb | hb
          · exact absurd ⟨hx0, hk⟩ hb
          · rw [HSOME.out] at hb; cases hb
        · rw [HSOME.out] at h
          cases h
          exact ⟨B7, ao7, cp7, rfl, HS7.out.kept ho8 (fun h0 e => by have := HB7.out h0; omega), HF7.out, fun h0 => by have := HB7.out h0; omega⟩
    · have hd : decide (0 ≤ a ∧ 1 ≤ (x8.toNat : Int) ∧ (x8.toNat : Int) ≤ 3 ∧ 0 ≤ (x9.toNat : Int) ∧ (x9.toNat : Int) ≤ 255 ∧ 0 ≤ r ∧ r ≤ 4294967295) = false := decide_eq_false (by omega)
      rw [hd]
      clear hd
      go_wp2_with fail
      refine bodyPost_ret (results_page3 rfl rfl (Pag.six HP5.out _ _ _ _ _ _)) rfl ?_
      exact ⟨HO5.out.trans (Only.six w5 w.heap.size _ _ _ _ _ _) (fun i hi e => by omega), fun _ => ⟨_, _, _, _, _, _, rfl⟩, fun hok => absurd hok.2 hk⟩
  · refine bodyPost_ret (results_page3 rfl rfl ((Pag.new w _ _ _ _ _ _).more (dr4 _))) rfl ?_
    exact ⟨o2 (onlyA _ _) (dr4 _), fun _ => ⟨_, _, _, _, _, _, rfl⟩, fun hok => absurd hok.1 (by omega)⟩
end Go.Proofs.YtbfafijfhaejmaaGreatDoor
