/- Walk of HeapRoom. -/
import Derived.Test.YtpbpamhlenogoaaHAwake
namespace Go.Proofs.Ytpbpamhlenogoaa
open Go.RowKit

/-- Noughts made in any world, and turned into a text there. -/
theorem zeros_made (n : Nat) (hn : n ≤ 1000) : ∃ (O : Obj) (Z : ByteArray), Z.size = n ∧ (∀ W : World, (Instr.makeSlice 46 (.int .i64 (n : Int)) (.int .i64 (n : Int))).run Try.prog W = .ok (.slice (some ⟨W.heap.size, 0, none⟩) n n) (W.alloc O)) ∧
    (∀ (W : World) (g : Nat) (X : World), g = W.heap.size → Only (fun _ => False) (W.alloc O) X → (convert 46 9 (.slice (some ⟨g, 0, none⟩) n n)).run Try.prog X = .ok (.string Z) X) := by
  obtain ⟨i0, hi, hz0, hz1, hz2⟩ := info_parts Try.infoByte
  refine ⟨.cells (madeCells (Value.int .u8 0).cells ((n : Int).toNat * i0.size)) 5, ⟨(List.replicate n 0).toArray⟩, by simp [ByteArray.size], fun W => ?_, fun W g X hg hX => ?_⟩
  · have h := run_make (P := Try.prog) W 46 5 i0 (.int .u8 0) Try.underlying46 hi hz0 .i64 .i64 (n : Int) (n : Int) (by omega) (Int.le_refl _) (by rw [hz2]; omega) (by omega)
    simpa using h
  · subst hg
    obtain ⟨w', hmk, hown, hgr⟩ := run_make_full (P := Try.prog) W W.heap.size 46 5 i0 (.int .u8 0) 1 Try.underlying46 hi hz0 hz1 .i64 .i64 n (by rw [hz2]; omega) (by unfold maxLen; omega) (Nat.le_refl _)
    have h := run_make (P := Try.prog) W 46 5 i0 (.int .u8 0) Try.underlying46 hi hz0 .i64 .i64 (n : Int) (n : Int) (by omega) (Int.le_refl _) (by rw [hz2]; omega) (by omega)
    have e : w' = W.alloc (.cells (madeCells (Value.int .u8 0).cells ((n : Int).toNat * i0.size)) 5) := by
      rw [hmk] at h
      simp at h
      exact h
    subst e
    have e2 : (madeCells (Value.int .u8 0).cells (n * 1)).toList = cells (List.replicate n 0) := by
      have : (Value.int IntKind.u8 0).cells = #[.int .u8 0] := rfl
      rw [this, toList_madeCells_one]; simp [cells]
    rw [e2] at hown
    have hrow : Row (W.alloc (.cells (madeCells (Value.int .u8 0).cells ((n : Int).toNat * i0.size)) 5)) W.heap.size (.slice (some ⟨W.heap.size, 0, none⟩) n n) (some W.heap.size) (List.replicate n 0) := by
      refine ⟨?_, rfl⟩
      rw [List.length_replicate]
      exact hown
    have hrow2 : Row X W.heap.size (.slice (some ⟨W.heap.size, 0, none⟩) n n) (some W.heap.size) (List.replicate n 0) := by
      refine ⟨?_, rfl⟩
      obtain ⟨h1, h2⟩ := hrow.1
      refine ⟨h1, ?_⟩
      rcases h2 with ⟨h0, _⟩ | ⟨g', cap', cur, hv, hb, hg, hnc, hcm, hcs, htk⟩
      · cases h0
      · exact .inr ⟨g', cap', cur, hv, hb, (hX.block g' (by
          have := (Array.getElem?_eq_some_iff.1 hg).1
          exact this) (fun h => h)).trans hg, hnc, hcm, hcs, htk⟩
    exact bytes_back X _ _ _ _ hrow2

theorem insE_2 {h : ByteArray} {l : List ByteArray} {t : Tu} (hok : t.ok = true) : (insE 2 h l t = 0 ∧ (str t.enc).size ≤ roomH 2 h l) ∨ (insE 2 h l t = 121 ∧ ¬ (str t.enc).size ≤ roomH 2 h l) := by
  have hs : 1 ≤ (str t.enc).size := by rw [str_size, enc_lenT hok]; omega
  have hr := room_ins h l (str t.enc) hs
  unfold insE
  rw [if_pos rfl, hok]
  simp only [if_true]
  cases hf : fitL h (putL l (slotL l) (str t.enc))
  · exact .inr ⟨szE_no hf, fun c => by rw [hr.2 c] at hf; cases hf⟩
  · exact .inl ⟨szE_fit hf, hr.1 hf⟩
theorem room_not {k : Int} {h : ByteArray} {l : List ByteArray} (hk : ¬ k = 2) : roomH k h l = 0 := by unfold roomH; rw [if_neg (fun c => hk c.1)]
set_option maxRecDepth 100000 in
set_option maxHeartbeats 3200000 in
theorem heapRoom_law (w : World) (a k v r : Int) (h : ByteArray) (B cp : Nat) (ao : Option Addr) (l : List ByteArray) (key : ByteArray) (n : Int) (hS : Strs w B ao l) (hF : Fit ao l.length cp) (hh : h.size ≤ 140737488355328) :
    Calls Try.prog 4 #[pv a k v r h ao l.length cp, .string key, .int .i64 n] w fun e w' => e = .returned (.bool true) ∧ Only (fun _ => False) w w' := by
  have HAW := hide hawake_any
  have b1 : (-9223372036854775808 : Int) ≤ 1 ∧ (1 : Int) < 9223372036854775808 := by decide
  have b0 : (-9223372036854775808 : Int) ≤ 0 ∧ (0 : Int) < 9223372036854775808 := by decide
  have HO := hide (onlyA w (.cells #[.int .i64 a, .int .i64 k, .int .i64 v, .int .i64 r, .string h, .slice ao l.length cp] 24))
  have HP := hide (Pag.new w (.int .i64 a) (.int .i64 k) (.int .i64 v) (.int .i64 r) (.string h) (.slice ao l.length cp))
  have HS := hide hS
  have HF := hide hF
  have HH := hide hh
  clear hS hF hh
  by_cases hn0 : n < 0
  · go_enter Try.func4, Try.ntmps4
    go_wp2_with fail
    refine (HAW.out _).mono ?_
    rintro e w1 ⟨rfl, ho1⟩
    have HO1 := hide (o2 HO.out ho1)
    clear ho1
    go_wp2_with fail
    go_ret
    exact ⟨rfl, HO1.out⟩
  · by_cases hn1 : 64 < n
    · go_enter Try.func4, Try.ntmps4
      go_wp2_with fail
      refine (HAW.out _).mono ?_
      rintro e w1 ⟨rfl, ho1⟩
      have HO1 := hide (o2 HO.out ho1)
      clear ho1
      go_wp2_with fail
      go_ret
      exact ⟨rfl, HO1.out⟩
    · obtain ⟨N, rfl⟩ : ∃ N : Nat, n = (N : Int) := ⟨n.toNat, by omega⟩
      have hN : N ≤ 64 := by omega
      obtain ⟨O, Z, hz, hmk, hcv⟩ := zeros_made N (by omega)
      have HEN : Hid (∀ W, Calls Try.prog 12 #[.agg #[.int .i64 1, .int .i64 0, .bool false, .string key, .string Z]] W fun e w' => e = .returned (.tuple #[.string (str (Tu.out ⟨1, 0, false, key, Z⟩)), .int .i64 (Tu.err ⟨1, 0, false, key, Z⟩)]) ∧ Only (fun _ => False) W w') := fun W => uencode_any ⟨1, 0, false, key, Z⟩ W b1 b0
      have HRM : Hid (∀ W, Only (fun _ => False) w W → Calls Try.prog 6 #[.agg #[.int .i64 a, .int .i64 k, .int .i64 v, .int .i64 r, .string h, .slice ao l.length cp]] W fun e w' => e = .returned (.int .i64 ((roomH k h l : Nat) : Int)) ∧ Only (fun _ => False) W w') := fun W ho => room_any W a k v r h B cp ao l (HS.out.more ho) HF.out HH.out
      have HIN : Hid (∀ W, Only (fun _ => False) w W → Calls Try.prog 7 #[.agg #[.int .i64 a, .int .i64 k, .int .i64 v, .int .i64 r, .string h, .slice ao l.length cp], .int .i64 7, .agg #[.int .i64 1, .int .i64 0, .bool false, .string key, .string Z]] W fun e w' => (∃ R : Hr, e = .returned (.tuple #[.agg R.cells, .int .i64 (insE k h l ⟨1, 0, false, key, Z⟩)])) ∧ Only (fun _ => False) W w') := fun W ho => by
        refine (insert_any W a k v r h B cp ao l 7 ⟨1, 0, false, key, Z⟩ (HS.out.more ho) HF.out HH.out b1 b0).mono ?_
        rintro e w' ⟨rfl, ho'⟩
        exact ⟨⟨_, rfl⟩, ho'⟩
      have HOKT := hide (fun hok => insE_2 (h := h) (l := l) (t := ⟨1, 0, false, key, Z⟩) hok)
      have HRN := hide (fun hk => room_not (k := k) (h := h) (l := l) hk)
      have e1 : Tu.ok ⟨1, 0, false, key, Z⟩ = false → Tu.err ⟨1, 0, false, key, Z⟩ = 110 := fun hok => by unfold Tu.err; rw [hok]; rfl
      have e2 : Tu.ok ⟨1, 0, false, key, Z⟩ = true → Tu.err ⟨1, 0, false, key, Z⟩ = 0 ∧ Tu.out ⟨1, 0, false, key, Z⟩ = Tu.enc ⟨1, 0, false, key, Z⟩ := fun hok => by unfold Tu.err Tu.out; rw [hok]; exact ⟨rfl, rfl⟩
      have e3 : Tu.ok ⟨1, 0, false, key, Z⟩ = true → (str (Tu.enc ⟨1, 0, false, key, Z⟩)).size ≤ 95 := fun hok => by
        rw [str_size, enc_lenT hok]
        have := Tu.ok_iff.1 hok
        simp only at this ⊢
        omega
      obtain ⟨ok, hok⟩ : ∃ o, Tu.ok ⟨1, 0, false, key, Z⟩ = o := ⟨_, rfl⟩
      obtain ⟨OU, hOU⟩ : ∃ o, str (Tu.out ⟨1, 0, false, key, Z⟩) = o := ⟨_, rfl⟩
      obtain ⟨SE, hSE⟩ : ∃ o, str (Tu.enc ⟨1, 0, false, key, Z⟩) = o := ⟨_, rfl⟩
      have e4 : ok = true → OU = SE := fun hq => by rw [← hOU, ← hSE, (e2 (hok.trans hq)).2]
      rw [hok] at e1 e2 e3 HOKT
      have e2 := fun hq => (e2 hq).1
      obtain ⟨TE, hTE⟩ : ∃ o, Tu.err ⟨1, 0, false, key, Z⟩ = o := ⟨_, rfl⟩
      rw [hTE] at e1 e2 HEN
      rw [hOU] at HEN
      rw [hSE] at e3 HOKT
      obtain ⟨IE, hIE⟩ : ∃ o, insE k h l ⟨1, 0, false, key, Z⟩ = o := ⟨_, rfl⟩
      rw [hIE] at HIN
      have HIE := hide hIE
      have E1 := hide e1
      have E2 := hide e2
      have E3 := hide e3
      have E4 := hide e4
      clear hok hOU hSE hTE hIE e1 e2 e3 e4 hz b1 b0
      go_enter Try.func4, Try.ntmps4
      go_upto_region 3 with fail
      obtain ⟨W0, hW0⟩ : ∃ y, w.alloc (.cells #[.int .i64 a, .int .i64 k, .int .i64 v, .int .i64 r, .string h, .slice ao l.length cp] 24) = y := ⟨_, rfl⟩
      rw [hW0] at HO HP ⊢
      clear hW0
      have hm0 := hmk W0
      have hc0 := hcv W0 W0.heap.size (W0.alloc O) rfl (Only.refl _ _)
      have HON := hide (onlyA W0 O)
      have HOT := hide (onlyA (W0.alloc O) (.cells #[.int .i64 1, .int .i64 0, .bool false, .string key, .string Z] 26))
      have HTB := hide (Tb.new (W0.alloc O) ⟨1, 0, false, key, Z⟩)
      clear hmk hcv
      go_upto_region 4 with fail
      obtain ⟨W1, hW1⟩ : ∃ y, (W0.alloc O).alloc (.cells #[.int .i64 1, .int .i64 0, .bool false, .string key, .string Z] 26) = y := ⟨_, rfl⟩
      rw [hW1] at HOT HTB ⊢
      clear hW1 hm0 hc0
      have HO1 := hide (o2 (o2 HO.out HON.out) HOT.out)
      have HP1 := hide (HP.out.more (o2 HON.out HOT.out))
      obtain ⟨b, hb⟩ : ∃ b, (W0.alloc O).heap.size = b := ⟨_, rfl⟩
      have hb2 : W0.heap.size + 1 = b := by rw [← hb]; simp
      rw [hb] at HTB
      rw [hb2]
      clear hb hb2 HON HOT HO HP
      obtain ⟨t0, t1, t2, t3, t4, _⟩ := HTB.out
      simp only at t0 t1 t2 t3 t4
      go_wp2_with fail
      refine (HEN.out _).mono ?_
      rintro e w2 ⟨rfl, ho2⟩
      have HO2 := hide (o2 HO1.out ho2)
      have HP2 := hide (HP1.out.more ho2)
      have HTB2 := hide (HTB.out.more ho2)
      clear ho2 t0 t1 t2 t3 t4 HO1 HP1 HTB
      obtain ⟨p0, p1, p2, p3, p4, p5, _⟩ := HP2.out
      by_cases hk : k = 2
      · have hk' : (k == 2) = true := by simpa using hk
        have hkn : (k != 2) = false := by simp [hk]
        have HK := hide hk
        clear hk
        cases ok
        · have e := E1.out rfl
          subst e
          go_wp2_with fail
          refine (HAW.out _).mono ?_
          rintro e w3 ⟨rfl, ho3⟩
          have HO3 := hide (o2 HO2.out ho3)
          clear ho3
          go_wp2_with fail
          go_ret
          exact ⟨rfl, HO3.out⟩
        · have e := E2.out rfl
          subst e
          have e := E4.out rfl
          subst e
          obtain ⟨t0, t1, t2, t3, t4, _⟩ := HTB2.out
          simp only at t0 t1 t2 t3 t4
          have hs95 := E3.out rfl
          go_wp2_with fail
          refine (HIN.out _ HO2.out).mono ?_
          rintro e w3 ⟨⟨R, rfl⟩, ho3⟩
          have HN := hide (onlyA w3 (.cells Hr.none.cells 34))
          have HB3 := hide (Hb.new w3 Hr.none)
          have HP3 := hide ((HP2.out.more ho3).more HN.out)
          have HO3 := hide (o2 (o2 HO2.out ho3) HN.out)
          have hz : w.heap.size < w3.heap.size := Nat.lt_of_lt_of_le HP2.out.lt ho3.size
          clear ho3 t0 t1 t2 t3 t4 p0 p1 p2 p3 p4 p5 HN
          go_upto_region 8 with (refine wpList_put_hr rfl (.tmp 10) (.tmp 51) rfl w3.heap.size rfl Hr.none R rfl HB3.out ?_; intro W9 HW9; go_frame)
          have HP9 := hide (HP3.out.kept HW9.out.only (by omega))
          have HO9 : Hid (Only (fun _ => False) w W9) := HO3.out.trans HW9.out.only (fun i hi e => by omega)
          clear HW9 HP3 HO3 HP2 HO2 HTB2 HB3 hz
          obtain ⟨p0, p1, p2, p3, p4, p5, _⟩ := HP9.out
          have hrb := roomH_le k h l
          obtain ⟨RM, hRM⟩ : ∃ x, roomH k h l = x := ⟨_, rfl⟩
          have HC := HOKT.out (by first | rfl | trivial)
          rw [← HK.out, HIE.out, hRM] at HC
          rw [hRM] at HRM hrb
          clear hRM HRN
          rcases HC with ⟨e, hle⟩ | ⟨e, hle⟩
          · subst e
            have hle' : (OU.size : Int) ≤ (RM : Int) := by omega
            go_wp2_with fail
            refine (HRM.out _ HO9.out).mono ?_
            rintro e w4 ⟨rfl, ho4⟩
            have HO4 := hide (o2 HO9.out ho4)
            clear ho4
            go_wp2_with fail
            refine (HAW.out _).mono ?_
            rintro e w5 ⟨rfl, ho5⟩
            have HO5 := hide (o2 HO4.out ho5)
            clear ho5
            go_wp2_with fail
            go_ret
            exact ⟨rfl, HO5.out⟩
          · subst e
            have hle' : ¬ (OU.size : Int) ≤ (RM : Int) := by omega
            go_wp2_with fail
            refine (HRM.out _ HO9.out).mono ?_
            rintro e w4 ⟨rfl, ho4⟩
            have HO4 := hide (o2 HO9.out ho4)
            clear ho4
            go_wp2_with fail
            refine (HAW.out _).mono ?_
            rintro e w5 ⟨rfl, ho5⟩
            have HO5 := hide (o2 HO4.out ho5)
            clear ho5
            go_wp2_with fail
            go_ret
            exact ⟨rfl, HO5.out⟩
      · have hk' : (k == 2) = false := by simpa using hk
        have hkn : (k != 2) = true := by simp [hk]
        have hr0 := HRN.out hk
        rw [hr0] at HRM
        clear hk hr0 HOKT HRN HIN
        cases ok
        · have e := E1.out rfl
          subst e
          go_wp2_with fail
          refine (HRM.out _ HO2.out).mono ?_
          rintro e w4 ⟨rfl, ho4⟩
          have HO4 := hide (o2 HO2.out ho4)
          clear ho4
          go_wp2_with fail
          refine (HAW.out _).mono ?_
          rintro e w5 ⟨rfl, ho5⟩
          have HO5 := hide (o2 HO4.out ho5)
          clear ho5
          go_wp2_with fail
          go_ret
          exact ⟨rfl, HO5.out⟩
        · have e := E2.out rfl
          subst e
          go_wp2_with fail
          refine (HRM.out _ HO2.out).mono ?_
          rintro e w4 ⟨rfl, ho4⟩
          have HO4 := hide (o2 HO2.out ho4)
          clear ho4
          go_wp2_with fail
          refine (HAW.out _).mono ?_
          rintro e w5 ⟨rfl, ho5⟩
          have HO5 := hide (o2 HO4.out ho5)
          clear ho5
          go_wp2_with fail
          go_ret
          exact ⟨rfl, HO5.out⟩
end Go.Proofs.Ytpbpamhlenogoaa
