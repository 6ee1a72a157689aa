/- What Decode answers, with the list owned. -/
import Derived.Test.YtbhmhhnacpjgpaaDoorPDecX
import Derived.Deep.QuietTactic
import Derived.BigQuiet
namespace Go.Proofs.YtbhmhhnacpjgpaaDoor
open Go.RowKit

theorem ls_base {w : World} {base base' : Nat} {v : Value} {l : List ByteArray} (h : Ls w base v l) (hb : base' ≤ base) : Ls w base' v l := by
  obtain ⟨h1, h2⟩ := h
  refine ⟨h1, ?_⟩
  rcases h2 with h2 | ⟨g, cap, cur, hv, hg, r⟩
  · exact .inl h2
  · exact .inr ⟨g, cap, cur, hv, Nat.le_trans hb hg, r⟩
/-- A page and a code that a call returned, its list owned. -/
def ResO (w w' : World) (e : Ending) (p : Pg) (c : Int) : Prop := ∃ B ao cp, e = .returned (.tuple #[.agg #[.int .i64 p.lsn, .int .i64 p.kind, .int .i64 p.level, .int .i64 p.right, .string p.high, .slice ao p.items.length cp], .int .i64 c]) ∧
  Strs w' B ao p.items ∧ Fit ao p.items.length cp ∧ Only (fun _ => False) w w' ∧ (0 < p.items.length → w.heap.size ≤ B) ∧ Ls w' w.heap.size (.slice ao p.items.length cp) p.items
theorem ResO.none {w w' : World} (c : Int) (ho : Only (fun _ => False) w w') : ResO w w' (.returned (.tuple #[.agg #[.int .i64 0, .int .i64 0, .int .i64 0, .int .i64 0, .string ⟨#[]⟩, .slice Option.none 0 0], .int .i64 c])) .none c :=
  ⟨0, Option.none, 0, rfl, Strs.nil _ _ _, ⟨fun _ => rfl, by simp [Pg.none], by simp⟩, ho, fun h => absurd h (by simp [Pg.none]), Ls.nil _ _⟩
/-- What parts answers of bytes of which the page p and the rest are read, if any, and which begin as they must, or not. -/
structure PaPo (w w' : World) (e : Ending) (ok : Prop) (a k v r : Int) (h : ByteArray) (o : Option (List ByteArray × List UInt8)) : Prop where
  only : Only (fun _ => False) w w'
  bad : ¬ ok ∨ o = none → ∃ (u0 u1 u2 u3 : Int) (u4 s : ByteArray), e = .returned (.tuple #[.agg #[.int .i64 u0, .int .i64 u1, .int .i64 u2, .int .i64 u3, .string u4, .slice none 0 0], .string s, .bool false])
  good : ok → ∀ l t, o = some (l, t) → ∃ B ao cp, e = .returned (.tuple #[.agg #[.int .i64 a, .int .i64 k, .int .i64 v, .int .i64 r, .string h, .slice ao l.length cp], .string (str t), .bool true]) ∧ Strs w' B ao l ∧ Fit ao l.length cp ∧ (0 < l.length → w.heap.size ≤ B) ∧ Ls w' w.heap.size (.slice ao l.length cp) l
set_option maxRecDepth 100000 in
set_option maxHeartbeats 1600000 in
theorem parts_own (w : World) (D D1 D2 D3 D4 A1 A4 : ByteArray) (x8 x9 x14 x15 : UInt8) (hD : D.size = 508)
    (e1 : D.extract 0 8 = A1) (e2 : D.extract 8 D.size = D1) (s1 : D1.size = 500) (s0 : A1.size = 8) (n8 : 0 < D1.size) (n9 : 1 < D1.size) (i8 : D1[0]'n8 = x8) (i9 : D1[1]'n9 = x9) (e3 : D1.extract 2 D1.size = D2) (s2 : D2.size = 498)
    (e4 : D2.extract 0 4 = A4) (s4 : A4.size = 4) (e5 : D2.extract 4 D2.size = D3) (s3 : D3.size = 494) (n14 : 0 < D3.size) (n15 : 1 < D3.size) (i14 : D3[0]'n14 = x14) (i15 : D3[1]'n15 = x15) (e6 : D3.extract 2 D3.size = D4) (s5 : D4.size = 492) (x0 : UInt8) (n0 : 0 < A1.size) (i0 : A1[0]'n0 = x0) (a r : Int) (ea : ofTo (bl A1) % 9223372036854775808 = a) (er : ofTo (bl A4) % 9223372036854775808 = r) (hr : r ≤ 4294967295) (H D5 : ByteArray) (e7 : D4.extract 0 x15.toNat = H) (e8 : D4.extract x15.toNat D4.size = D5) (s8 : D5.size ≤ 492) :
    Calls Tryd.prog 33 #[.string D] w fun e w' => PaPo w w' e (x0.toNat ≤ 127 ∧ 1 ≤ x8.toNat ∧ x8.toNat ≤ 3) a x8.toNat x9.toNat r H (takeI x14.toNat (bl D5)) := by
  have h508 : D.size ≤ 508 := by omega
  have t1 : (8 : Int) ≤ (D.size : Int) := by omega
  have t2 : (2 : Int) ≤ (D1.size : Int) := by omega
  have t3 : (4 : Int) ≤ (D2.size : Int) := by omega
  have t4 : (2 : Int) ≤ (D3.size : Int) := by omega
  have t5 : (1 : Int) < (D1.size : Int) := by omega
  have t6 : (0 : Int) < (D1.size : Int) := by omega
  have t7 : (1 : Int) < (D3.size : Int) := by omega
  have t8 : (0 : Int) < (D3.size : Int) := by omega
  have S0 := hide s0
  have S1 := hide s1
  have S2 := hide s2
  have S3 := hide s3
  have S4 := hide s4
  have S5 := hide s5
  have SD := hide hD
  clear s0 s1 s2 s3 s4 s5 hD
  have hw8 := wb x8
  have hw9 := wb x9
  have hw14 := wb x14
  have hw15 := wb x15
  have b8 := x8.toNat_lt
  have b9 := x9.toNat_lt
  have b14 := x14.toNat_lt
  have b15 := x15.toNat_lt
  have b0 := x0.toNat_lt
  have ha0 : 0 ≤ a := by rw [← ea]; omega
  have hr0 : 0 ≤ r := by rw [← er]; omega
  have HOA : Hid (∀ W, Calls Tryd.prog 32 #[.string A1] W fun e w' => e = .returned (.int .i64 a) ∧ w' = W) := fun W => by
    have h1 := of_any A1 W (by have := S0.out; unfold maxLen; omega)
    rw [show ofTo A1.data.toList % 9223372036854775808 = a from ea] at h1
    exact h1
  have HOR : Hid (∀ W, Calls Tryd.prog 32 #[.string A4] W fun e w' => e = .returned (.int .i64 r) ∧ w' = W) := fun W => by
    have h1 := of_any A4 W (by have := S4.out; unfold maxLen; omega)
    rw [show ofTo A4.data.toList % 9223372036854775808 = r from er] at h1
    exact h1
  clear ea er
  go_enter Tryd.func33, Tryd.ntmps33
  go_wp2_with fail
  go_region
  go_wp2_with fail
  go_region
  go_wp2_with fail
  go_region
  go_wp2_with fail
  go_region
  go_wp2_with fail
  refine (HOA.out _).mono ?_
  rintro e w1 ⟨rfl, rfl⟩
  go_wp2_with fail
  refine (HOR.out _).mono ?_
  rintro e w1 ⟨rfl, rfl⟩
  go_wp2_with fail
  · have hx0 : x0.toNat ≤ 127 := by omega
    refine (inRange_any _ a (x8.toNat : Int) (x9.toNat : Int) r ⟨#[]⟩ 0 0 none).mono ?_
    rintro e w5 ⟨rfl, ho5⟩
    have HP5 := hide (((Pag.new w (.int .i64 a) (.int .i64 (x8.toNat : Int)) (.int .i64 (x9.toNat : Int)) (.int .i64 r) (.string ⟨#[]⟩) (.slice none 0 0)).more (dr4 _)).more ho5)
    have HO5 := hide (o2 (o2 (onlyA w (.cells #[.int .i64 a, .int .i64 (x8.toNat : Int), .int .i64 (x9.toNat : Int), .int .i64 r, .string ⟨#[]⟩, .slice none 0 0] 24)) (dr4 _)) ho5)
    have hz5 : w.heap.size < w5.heap.size := HP5.out.lt
    obtain ⟨p0, p1, p2, p3, p4, p5, g0, g1, g2, g3, g4, g5, gl⟩ := HP5.out
    clear ho5
    by_cases hk : 1 ≤ x8.toNat ∧ x8.toNat ≤ 3
    · have hd : decide (0 ≤ a ∧ 1 ≤ (x8.toNat : Int) ∧ (x8.toNat : Int) ≤ 3 ∧ 0 ≤ (x9.toNat : Int) ∧ (x9.toNat : Int) ≤ 255 ∧ 0 ≤ r ∧ r ≤ 4294967295) = true := decide_eq_true (by omega)
      rw [hd]
      clear hd
      have hi0 : (0 : Int) ≤ (x15.toNat : Int) := by omega
      have hi1 : (x15.toNat : Int) ≤ (D4.size : Int) := by have := S5.out; omega
      go_wp2_with fail
      go_region
      go_wp2_with fail
      have hit := items_any ((w5.setCell ⟨w.heap.size, 4, none⟩ (.string H)).drew) (bl D5) x14.toNat (by omega) (by rw [bl_len]; omega)
      rw [str_bl] at hit
      refine Calls.mono hit ?_
      clear hit
      intro e w7 hi7
      have HO6 : Hid (Only (fun k => k = w.heap.size) w5 ((w5.setCell ⟨w.heap.size, 4, none⟩ (.string H)).drew)) := (Only.setCell (S := fun k => k = w.heap.size) w5 ⟨w.heap.size, 4, none⟩ (.string H) rfl).trans (Only.drew (fun k => k = w.heap.size) _) (fun _ _ h => h)
      have HP7 := hide (((HP5.out.set4 (.string H)).more (Only.drew _ _)).more hi7.only)
      have HO7 : Hid (Only (fun _ => False) w w7) := (HO5.out.trans HO6.out (fun i hi e => by omega)).trans hi7.only (fun _ _ h => h)
      have hz7 : w.heap.size < ((w5.setCell ⟨w.heap.size, 4, none⟩ (.string H)).drew).heap.size := Nat.lt_of_lt_of_le hz5 HO6.out.size
      have HZ7 := hide hz7
      clear p0 p1 p2 p3 p4 p5 g0 g1 g2 g3 g4 g5 gl hz7
      obtain ⟨p0, p1, p2, p3, p4, p5, g0, g1, g2, g3, g4, g5, gl⟩ := HP7.out
      cases ho : takeI x14.toNat (bl D5) with
      | none =>
        have he := hi7.bad ho
        subst he
        have HB := hide ho
        clear ho hi7
        go_wp2_with fail
        refine bodyPost_ret (results_page3 rfl rfl (Pag.six (HP7.out.set5 _) _ _ _ _ _ _)) rfl ?_
        exact ⟨(HO7.out.trans (Only.setCell (S := fun k => k = w.heap.size) w7 ⟨w.heap.size, 5, none⟩ _ rfl) (fun i hi e => by omega)).trans (Only.six _ w.heap.size _ _ _ _ _ _) (fun i hi e => by omega), fun _ => ⟨_, _, _, _, _, _, rfl⟩, fun _ l t h => by rw [HB.out] at h; cases h⟩
      | some q =>
        obtain ⟨l, t⟩ := q
        obtain ⟨v7, he, hl7⟩ := hi7.good l t ho
        subst he
        obtain ⟨B7, ao7, cp7, rfl, hS7, hF7, hB7, _⟩ := hl7.strs (by have := (takeI_back _ _ _ _ ho).2; omega) (by
          intro s hs
          have h1 := congrArg List.length (takeI_back _ _ _ _ ho).1
          have h2 := isz_mem hs
          rw [bl_len, List.length_append, itemsL_len] at h1
          omega)
        have HL7 := hide hl7
        have HS7 := hide hS7
        have HF7 := hide hF7
        have HB7 : Hid (0 < l.length → w.heap.size < B7) := fun h => Nat.lt_of_lt_of_le HZ7.out (hB7 h)
        have HSOME := hide ho
        clear ho hi7 hl7 hS7 hF7 hB7
        go_wp2_with fail
        refine bodyPost_ret (results_page3 rfl rfl (Pag.six (HP7.out.set5 _) _ _ _ _ _ _)) rfl ?_
        have ho8 : Only (fun k => k = w.heap.size) w7 _ := (Only.setCell (S := fun k => k = w.heap.size) w7 ⟨w.heap.size, 5, none⟩ (.slice ao7 l.length cp7) rfl).trans (Only.six _ w.heap.size (.int .i64 a) (.int .i64 (x8.toNat : Int)) (.int .i64 (x9.toNat : Int)) (.int .i64 r) (.string H) (.slice ao7 l.length cp7)) (fun _ _ h => h)
        refine ⟨HO7.out.trans ho8 (fun i hi e => by omega), fun hb => ?_, fun _ l' t' h => ?_⟩
        · rcases hb with hb | hb
          · exact absurd ⟨hx0, hk⟩ hb
          · rw [HSOME.out] at hb; cases hb
        · rw [HSOME.out] at h
          cases h
          exact ⟨B7, ao7, cp7, rfl, HS7.out.kept ho8 (fun h0 e => by have := HB7.out h0; omega), HF7.out, fun h0 => by have := HB7.out h0; omega, ls_base (HL7.out.kept ho8 (fun k hk e => by have h1 := (World.ownsRow.lt HL7.out k hk).1; have h2 := HZ7.out; omega)) (Nat.le_of_lt HZ7.out)⟩
    · have hd : decide (0 ≤ a ∧ 1 ≤ (x8.toNat : Int) ∧ (x8.toNat : Int) ≤ 3 ∧ 0 ≤ (x9.toNat : Int) ∧ (x9.toNat : Int) ≤ 255 ∧ 0 ≤ r ∧ r ≤ 4294967295) = false := decide_eq_false (by omega)
      rw [hd]
      clear hd
      go_wp2_with fail
      refine bodyPost_ret (results_page3 rfl rfl (Pag.six HP5.out _ _ _ _ _ _)) rfl ?_
      exact ⟨HO5.out.trans (Only.six w5 w.heap.size _ _ _ _ _ _) (fun i hi e => by omega), fun _ => ⟨_, _, _, _, _, _, rfl⟩, fun hok => absurd hok.2 hk⟩
  · refine bodyPost_ret (results_page3 rfl rfl ((Pag.new w _ _ _ _ _ _).more (dr4 _))) rfl ?_
    exact ⟨o2 (onlyA _ _) (dr4 _), fun _ => ⟨_, _, _, _, _, _, rfl⟩, fun hok => absurd hok.1 (by omega)⟩
/-- What parts answers. -/
structure PaQo (w w' : World) (e : Ending) (D : List UInt8) : Prop where
  only : Only (fun _ => False) w w'
  bad : (∀ p t, pre D = some (p, t) → ¬ ((D.getD 0 0).toNat ≤ 127 ∧ (1 ≤ p.kind ∧ p.kind ≤ 3))) → ∃ (u0 u1 u2 u3 : Int) (u4 s : ByteArray), e = .returned (.tuple #[.agg #[.int .i64 u0, .int .i64 u1, .int .i64 u2, .int .i64 u3, .string u4, .slice none 0 0], .string s, .bool false])
  good : ∀ p t, pre D = some (p, t) → (D.getD 0 0).toNat ≤ 127 ∧ (1 ≤ p.kind ∧ p.kind ≤ 3) → ∃ B ao cp, e = .returned (.tuple #[.agg #[.int .i64 p.lsn, .int .i64 p.kind, .int .i64 p.level, .int .i64 p.right, .string p.high, .slice ao p.items.length cp], .string (str t), .bool true]) ∧ Strs w' B ao p.items ∧ Fit ao p.items.length cp ∧ (0 < p.items.length → w.heap.size ≤ B) ∧ Ls w' w.heap.size (.slice ao p.items.length cp) p.items
theorem parts_listo (w : World) (D : ByteArray) (hD : D.size = 508) : Calls Tryd.prog 33 #[.string D] w fun e w' => PaQo w w' e (bl D) := by
  have L : (bl D).length = 508 := by rw [bl_len]; exact hD
  obtain ⟨Dl, hDl⟩ : ∃ Dl, bl D = Dl := ⟨_, rfl⟩
  rw [hDl] at L ⊢
  have bA1 : bl (D.extract 0 8) = Dl.take 8 := by rw [ext_bl, hDl, List.drop_zero]
  have bD1 : bl (D.extract 8 D.size) = Dl.drop 8 := by rw [ext_bl, hDl, List.take_of_length_le (by omega)]
  obtain ⟨A1, hA1⟩ : ∃ A1, D.extract 0 8 = A1 := ⟨_, rfl⟩
  obtain ⟨D1, hD1⟩ : ∃ D1, D.extract 8 D.size = D1 := ⟨_, rfl⟩
  rw [hA1] at bA1
  rw [hD1] at bD1
  have sA1 : A1.size = 8 := by rw [← bl_len, bA1]; simp [L]
  have sD1 : D1.size = 500 := by rw [← bl_len, bD1]; simp [L]
  have bD2 : bl (D1.extract 2 D1.size) = Dl.drop 10 := by rw [ext_bl, List.take_of_length_le (by rw [bl_len]; exact Nat.le_refl _), bD1, List.drop_drop]
  obtain ⟨D2, hD2⟩ : ∃ D2, D1.extract 2 D1.size = D2 := ⟨_, rfl⟩
  rw [hD2] at bD2
  have sD2 : D2.size = 498 := by rw [← bl_len, bD2]; simp [L]
  have bA4 : bl (D2.extract 0 4) = (Dl.drop 10).take 4 := by rw [ext_bl, bD2, List.drop_zero]
  have bD3 : bl (D2.extract 4 D2.size) = Dl.drop 14 := by rw [ext_bl, List.take_of_length_le (by rw [bl_len]; exact Nat.le_refl _), bD2, List.drop_drop]
  obtain ⟨A4, hA4⟩ : ∃ A4, D2.extract 0 4 = A4 := ⟨_, rfl⟩
  obtain ⟨D3, hD3⟩ : ∃ D3, D2.extract 4 D2.size = D3 := ⟨_, rfl⟩
  rw [hA4] at bA4
  rw [hD3] at bD3
  have sA4 : A4.size = 4 := by rw [← bl_len, bA4]; simp [L]
  have sD3 : D3.size = 494 := by rw [← bl_len, bD3]; simp [L]
  have bD4 : bl (D3.extract 2 D3.size) = Dl.drop 16 := by rw [ext_bl, List.take_of_length_le (by rw [bl_len]; exact Nat.le_refl _), bD3, List.drop_drop]
  obtain ⟨D4, hD4⟩ : ∃ D4, D3.extract 2 D3.size = D4 := ⟨_, rfl⟩
  rw [hD4] at bD4
  have sD4 : D4.size = 492 := by rw [← bl_len, bD4]; simp [L]
  have x8 : D1[0]'(by omega) = Dl.getD 8 0 := by rw [idx, bD1]; simp [List.getD_eq_getElem?_getD]
  have x9 : D1[1]'(by omega) = Dl.getD 9 0 := by rw [idx, bD1]; simp [List.getD_eq_getElem?_getD]
  have x14 : D3[0]'(by omega) = Dl.getD 14 0 := by rw [idx, bD3]; simp [List.getD_eq_getElem?_getD]
  have x15 : D3[1]'(by omega) = Dl.getD 15 0 := by rw [idx, bD3]; simp [List.getD_eq_getElem?_getD]
  have x0 : A1[0]'(by omega) = Dl.getD 0 0 := by rw [idx, bA1]; simp [List.getD_eq_getElem?_getD]
  have hr := ofTo_small ((Dl.drop 10).take 4) (by simp; omega)
  have l4 : ((Dl.drop 10).take 4).length = 4 := by simp [L]
  rw [l4] at hr
  have h4 : (256 : Int) ^ 4 = 4294967296 := by decide
  have bH : bl (D4.extract 0 (Dl.getD 15 0).toNat) = (Dl.drop 16).take (Dl.getD 15 0).toNat := by rw [ext_bl, bD4, List.drop_zero]
  have bD5 : bl (D4.extract (Dl.getD 15 0).toNat D4.size) = (Dl.drop 16).drop (Dl.getD 15 0).toNat := by rw [ext_bl, List.take_of_length_le (by rw [bl_len]; exact Nat.le_refl _), bD4]
  have key := parts_own w D D1 D2 D3 D4 A1 A4 (Dl.getD 8 0) (Dl.getD 9 0) (Dl.getD 14 0) (Dl.getD 15 0) hD hA1 hD1 sD1 sA1 (by omega) (by omega) x8 x9 hD2 sD2 hA4 sA4 hD3 sD3 (by omega) (by omega) x14 x15 hD4 sD4
    (Dl.getD 0 0) (by omega) x0 (ofTo (Dl.take 8) % 9223372036854775808) (ofTo ((Dl.drop 10).take 4) % 9223372036854775808) (by rw [bA1]) (by rw [bA4]) (by omega)
    (D4.extract 0 (Dl.getD 15 0).toNat) (D4.extract (Dl.getD 15 0).toNat D4.size) rfl rfl (by rw [← bl_len, bD5]; simp [L]; omega)
  rw [bD5] at key
  have eH : D4.extract 0 (Dl.getD 15 0).toNat = str ((Dl.drop 16).take (Dl.getD 15 0).toNat) := by rw [← bH, str_bl]
  rw [eH] at key
  refine Calls.mono key ?_
  intro e w' h
  refine ⟨h.only, fun hb => h.bad ?_, fun p t hp hk => ?_⟩
  · cases ho : takeI (Dl.getD 14 0).toNat ((Dl.drop 16).drop (Dl.getD 15 0).toNat) with
    | none => exact .inr rfl
    | some q =>
      obtain ⟨l, t⟩ := q
      left
      intro hk
      refine hb _ t (by unfold pre; rw [ho]) ⟨hk.1, ?_, ?_⟩
      · show (1 : Int) ≤ ((Dl.getD 8 0).toNat : Int); omega
      · show ((Dl.getD 8 0).toNat : Int) ≤ 3; omega
  · unfold pre at hp
    cases ho : takeI (Dl.getD 14 0).toNat ((Dl.drop 16).drop (Dl.getD 15 0).toNat) with
    | none => rw [ho] at hp; cases hp
    | some q =>
      obtain ⟨l, t'⟩ := q
      rw [ho] at hp
      simp only [Option.some.injEq, Prod.mk.injEq] at hp
      obtain ⟨rfl, rfl⟩ := hp
      simp only at hk
      exact h.good ⟨hk.1, by omega, by omega⟩ l t' ho
set_option maxRecDepth 100000 in
set_option maxHeartbeats 1600000 in
theorem pdecode_own (w : World) (S : ByteArray) : Calls Tryd.prog 12 #[.string S] w fun e w' => ResO w w' e (dec (bl S)).1 (dec (bl S)).2 := by
  have HP := hide (Pag.new w (.int .i64 0) (.int .i64 0) (.int .i64 0) (.int .i64 0) (.string ⟨#[]⟩) (.slice none 0 0))
  have HO0 := hide (onlyA w (.cells #[.int .i64 0, .int .i64 0, .int .i64 0, .int .i64 0, .string ⟨#[]⟩, .slice none 0 0] 24))
  have L := bl_len S
  by_cases h5 : S.size = 512
  · have h5' : ((S.size : Int) != 512) = false := by simp; omega
    have t4 : (4 : Int) ≤ (S.size : Int) := by omega
    obtain ⟨A, hA⟩ : ∃ A, S.extract 0 4 = A := ⟨_, rfl⟩
    obtain ⟨D, hD⟩ : ∃ D, S.extract 4 S.size = D := ⟨_, rfl⟩
    have bA : bl A = (bl S).take 4 := by rw [← hA, ext_bl, List.drop_zero]
    have bD : bl D = (bl S).drop 4 := by rw [← hD, ext_bl, List.take_of_length_le (by omega)]
    have sA : A.size = 4 := by rw [← bl_len, bA]; simp; omega
    have sD : D.size = 508 := by rw [← bl_len, bD]; simp; omega
    have hq := ofTo_small ((bl S).take 4) (by simp; omega)
    have l4 : ((bl S).take 4).length = 4 := by simp; omega
    rw [l4, show (256 : Int) ^ 4 = 4294967296 by decide] at hq
    obtain ⟨q, hqe⟩ : ∃ q, ofTo ((bl S).take 4) = q := ⟨_, rfl⟩
    obtain ⟨z, hz⟩ : ∃ z, sum ((bl S).drop 4) = z := ⟨_, rfl⟩
    have hzb := sum_bd ((bl S).drop 4)
    rw [hqe] at hq
    rw [hz] at hzb
    have HOF : Hid (∀ W, Calls Tryd.prog 32 #[.string A] W fun e w' => e = .returned (.int .i64 q) ∧ w' = W) := fun W => by
      have h1 := of_any A W (by unfold maxLen; omega)
      rw [show A.data.toList = (bl S).take 4 from bA, hqe, show q % 9223372036854775808 = q by omega] at h1
      exact h1
    have HSU : Hid (∀ W, Calls Tryd.prog 25 #[.string D] W fun e w' => e = .returned (.int .u32 z) ∧ w' = W) := fun W => by
      have h1 := sum_any D W (by unfold maxLen; omega)
      rw [show D.data.toList = (bl S).drop 4 from bD, hz] at h1
      exact h1
    have HPA : Hid (∀ W, Calls Tryd.prog 33 #[.string D] W fun e w' => PaQo W w' e ((bl S).drop 4)) := fun W => by
      have h1 := parts_listo W D sD
      rw [bD] at h1
      exact h1
    have hL : (bl S).length = 512 := by omega
    have q0 := hq.1
    have q1 := hq.2
    have z0 := hzb.1
    have z1 := hzb.2
    have hwz : wrap64 z = z := w64_id z (by omega)
    have HQE := hide hqe
    have HZE := hide hz
    have HL := hide hL
    clear hq hzb bA bD sA sD l4 hqe hz hL L h5
    by_cases hqz : q = z
    · have hne : (q != z) = false := by simp [hqz]
      have HEQ : Hid (ofTo ((bl S).take 4) = sum ((bl S).drop 4)) := by unfold Hid; rw [HQE.out, HZE.out, hqz]
      clear hqz
      go_enter Tryd.func12, Tryd.ntmps12
      go_wp2_with fail
      go_quiet ((first | (go_at_call 32; exact Calls.quiet_of_same (HOF.out _)) | (go_at_call 25; exact Calls.quiet_of_same (HSU.out _))))
      go_wp2_with fail
      refine (HPA.out _).mono ?_
      intro e w2 hp2
      have HO2 := hide (o2 (onlyN _ nq) hp2.only)
      have HP2 := hide (HP.out.more HO2.out)
      have hz2 : w.heap.size < w2.heap.size := HP2.out.lt
      have hzW : w.heap.size < ((w.alloc (.cells #[.int .i64 0, .int .i64 0, .int .i64 0, .int .i64 0, .string ⟨#[]⟩, .slice none 0 0] 24)).drewN nq).heap.size := (HP.out.more (onlyN _ nq)).lt
      obtain ⟨p0, p1, p2, p3, p4, p5, g0, g1, g2, g3, g4, g5, gl⟩ := HP2.out
      by_cases hb : ∃ p t, pre ((bl S).drop 4) = some (p, t) ∧ (((bl S).drop 4).getD 0 0).toNat ≤ 127 ∧ (1 ≤ p.kind ∧ p.kind ≤ 3)
      · obtain ⟨p, t, hpt, hbk⟩ := hb
        obtain ⟨B, ao, cp, he, hS, hF, hB, hLS⟩ := hp2.good p t hpt hbk
        subst he
        have HLS := hide hLS
        have HZW := hide hzW
        have HSS := hide hS
        have HFF := hide hF
        have HBB : Hid (0 < p.items.length → w.heap.size < B) := fun h => Nat.lt_of_lt_of_le hzW (hB h)
        have htl : t.length ≤ 512 := by have := (pre_is _ _ _ (by rw [List.length_drop, HL.out]) hpt).size; omega
        have HPT := hide hpt
        have HBK := hide hbk
        clear hp2 hS hF hB hLS hpt hbk hzW
        obtain ⟨Tr, hTr⟩ : ∃ Tr, (⟨(Lib.trimB (str t).data.toList 0).toArray⟩ : ByteArray) = Tr := ⟨_, rfl⟩
        have HTRIM : Hid (∀ W, Calls Tryd.prog 34 #[.string (str t), .string ⟨#[0]⟩] W fun e w' => e = .returned (.string Tr) ∧ Hid (Only (fun _ => False) W w')) := fun W => by
          have h1 := Tryd.strings_Trim_one (str t) 0 (by decide) W (by rw [str_size]; omega)
          rw [hTr] at h1
          exact h1.mono (fun e w' hx => ⟨hx.1, by rcases hx.2 with h | h; (rw [h]; exact Only.refl _ _); (rw [h]; exact Only.drew _ _)⟩)
        by_cases hz : t = List.replicate t.length 0
        · have hTe : Tr = ⟨#[]⟩ := by
            rw [← hTr, show (str t).data.toList = t from rfl, (trim_iff t).2 hz]
          have HD : Hid (dec (bl S) = (p, 0)) := dec_good HL.out HEQ.out HPT.out ⟨HBK.out.1, HBK.out.2, hz⟩
          subst hTe
          clear hTr hz
          go_wp2_with fail
          refine (HTRIM.out _).mono ?_
          rintro e w3 ⟨rfl, HO3⟩
          have HO3' := hide (o2 (onlyA w2 (.cells #[.int .i64 p.lsn, .int .i64 p.kind, .int .i64 p.level, .int .i64 p.right, .string p.high, .slice ao p.items.length cp] 24)) HO3.out)
          have HP3 := hide (HP2.out.more HO3'.out)
          have HQ3 := hide ((Pag.new w2 (.int .i64 p.lsn) (.int .i64 p.kind) (.int .i64 p.level) (.int .i64 p.right) (.string p.high) (.slice ao p.items.length cp)).more HO3.out)
          clear p0 p1 p2 p3 p4 p5 g0 g1 g2 g3 g4 g5 gl
          obtain ⟨p0, p1, p2, p3, p4, p5, g0, g1, g2, g3, g4, g5, gl⟩ := HP3.out
          obtain ⟨q0', q1', q2, q3, q4, q5, _⟩ := HQ3.out
          go_wp2_with fail
          refine bodyPost_ret (results_page rfl rfl (Pag.six HP3.out _ _ _ _ _ _)) rfl ?_
          rw [HD.out]
          have ho6 := Only.six w3 w.heap.size (.int .i64 p.lsn) (.int .i64 p.kind) (.int .i64 p.level) (.int .i64 p.right) (.string p.high) (.slice ao p.items.length cp)
          exact ⟨B, ao, cp, rfl, (HSS.out.more HO3'.out).kept ho6 (fun h0 e => by have := HBB.out h0; omega), HFF.out, (o2 HO0.out (o2 HO2.out HO3'.out)).trans ho6 (fun i hi e => by omega), fun h0 => Nat.le_of_lt (HBB.out h0), ls_base ((HLS.out.more HO3'.out).kept ho6 (fun k hk e => by have h1 := (World.ownsRow.lt HLS.out k hk).1; have h2 := HZW.out; omega)) (Nat.le_of_lt HZW.out)⟩
        · have hTs : 0 < Tr.size := by
            rw [← hTr, show (str t).data.toList = t from rfl]
            show 0 < (Lib.trimB t 0).length
            have := fun h => hz ((trim_iff t).1 h)
            exact List.length_pos_iff.2 this
          have hTn : Tr.toList.isEmpty = false := str_some Tr hTs
          have HD : Hid (dec (bl S) = (.none, 31)) := dec_bad HL.out HEQ.out (fun p' t' h' hg => by rw [HPT.out] at h'; cases h'; exact hz hg.2.2)
          clear hTr hz hTs
          go_wp2_with fail
          refine (HTRIM.out _).mono ?_
          rintro e w3 ⟨rfl, HO3⟩
          have HO3' := hide (o2 (onlyA w2 (.cells #[.int .i64 p.lsn, .int .i64 p.kind, .int .i64 p.level, .int .i64 p.right, .string p.high, .slice ao p.items.length cp] 24)) HO3.out)
          have HP3 := hide (HP2.out.more HO3'.out)
          clear p0 p1 p2 p3 p4 p5 g0 g1 g2 g3 g4 g5 gl
          obtain ⟨p0, p1, p2, p3, p4, p5, g0, g1, g2, g3, g4, g5, gl⟩ := HP3.out
          go_wp2_with fail
          refine bodyPost_ret (results_page rfl rfl (Pag.six HP3.out _ _ _ _ _ _)) rfl ?_
          rw [HD.out]
          exact ResO.none 31 ((o2 HO0.out (o2 HO2.out HO3'.out)).trans (Only.six w3 w.heap.size _ _ _ _ _ _) (fun i hi e => by omega))
      · obtain ⟨u0, u1, u2, u3, u4, st, he⟩ := hp2.bad (fun p t h1 h2 => hb ⟨p, t, h1, h2⟩)
        subst he
        have HD : Hid (dec (bl S) = (.none, 31)) := dec_bad HL.out HEQ.out (fun p t h1 h2 => hb ⟨p, t, h1, h2.1, h2.2.1⟩)
        clear hp2 hb hzW
        go_upto_region 6 with fail
        have HP3 := hide (HP2.out.more (onlyA w2 (.cells #[.int .i64 u0, .int .i64 u1, .int .i64 u2, .int .i64 u3, .string u4, .slice none 0 0] 24)))
        have HO3 := hide (o2 HO0.out (o2 HO2.out (onlyA w2 (.cells #[.int .i64 u0, .int .i64 u1, .int .i64 u2, .int .i64 u3, .string u4, .slice none 0 0] 24))))
        obtain ⟨w3, hw3⟩ : ∃ w3, w2.alloc (.cells #[.int .i64 u0, .int .i64 u1, .int .i64 u2, .int .i64 u3, .string u4, .slice none 0 0] 24) = w3 := ⟨_, rfl⟩
        rw [hw3] at HP3 HO3 ⊢
        clear hw3 p0 p1 p2 p3 p4 p5 g0 g1 g2 g3 g4 g5 gl
        obtain ⟨p0, p1, p2, p3, p4, p5, g0, g1, g2, g3, g4, g5, gl⟩ := HP3.out
        go_wp2_with fail
        refine bodyPost_ret (results_page rfl rfl (Pag.six HP3.out _ _ _ _ _ _)) rfl ?_
        rw [HD.out]
        exact ResO.none 31 (HO3.out.trans (Only.six _ w.heap.size _ _ _ _ _ _) (fun i hi e => by omega))
    · have hne : (q != z) = true := by simpa using hqz
      have HD : Hid (dec (bl S) = (.none, 30)) := dec_sum HL.out (by rw [HQE.out, HZE.out]; exact hqz)
      clear hqz
      go_enter Tryd.func12, Tryd.ntmps12
      go_wp2_with fail
      go_quiet ((first | (go_at_call 32; exact Calls.quiet_of_same (HOF.out _)) | (go_at_call 25; exact Calls.quiet_of_same (HSU.out _))))
      go_wp2_with fail
      have HP3 := hide (HP.out.more (onlyN _ nq))
      have ho3 := o2 HO0.out (onlyN _ nq)
      refine bodyPost_ret (results_page rfl rfl (Pag.six HP3.out _ _ _ _ _ _)) rfl ?_
      rw [HD.out]
      exact ResO.none 30 (ho3.trans (Only.six _ w.heap.size _ _ _ _ _ _) (fun i hi e => by omega))
  · have h5' : ((S.size : Int) != 512) = true := by simp; omega
    have HD : Hid (dec (bl S) = (.none, 31)) := dec_size (by omega)
    clear h5 L
    go_enter Tryd.func12, Tryd.ntmps12
    go_wp2_with fail
    refine bodyPost_ret (results_page rfl rfl (Pag.new w _ _ _ _ _ _)) rfl ?_
    rw [HD.out]
    exact ResO.none 31 (onlyA _ _)
end Go.Proofs.YtbhmhhnacpjgpaaDoor
