/- Walk of HeapFinds. -/
import Derived.Test.YtpbpamhlenogoaaHAwake
namespace Go.Proofs.Ytpbpamhlenogoaa
open Go.RowKit

theorem insE_any (k : Int) (h : ByteArray) (l : List ByteArray) (t : Tu) : (insE k h l t = 0 ∧ k = 2 ∧ t.ok = true ∧ fitL h (putL l (slotL l) (str t.enc)) = true) ∨ (insE k h l t = 121 ∧ roomH k h l < 96) ∨ insE k h l t = 110 ∨ insE k h l t = 120 := by
  unfold insE
  by_cases hk : k = 2
  · rw [if_pos hk]
    cases hok : t.ok
    · exact .inr (.inr (.inl rfl))
    · have hs : 1 ≤ (str t.enc).size := by rw [str_size, enc_lenT hok]; omega
      have hs2 : (str t.enc).size ≤ 95 := by rw [str_size, enc_lenT hok]; have := Tu.ok_iff.1 hok; omega
      have hr := room_ins h l (str t.enc) hs
      simp only [if_true]
      cases hf : fitL h (putL l (slotL l) (str t.enc))
      · refine .inr (.inl ⟨szE_no hf, ?_⟩)
        rw [hk]
        by_cases c : (str t.enc).size ≤ roomH 2 h l
        · rw [hr.2 c] at hf; cases hf
        · omega
      · exact .inl ⟨szE_fit hf, hk, by first | rfl | trivial, by first | rfl | trivial⟩
  · rw [if_neg hk]
    exact .inr (.inr (.inr rfl))
/-- What the law has of its own: the page, the version. -/
structure Fst (w W : World) (a k v r : Int) (h : ByteArray) (ao : Option Addr) (n cp : Nat) (t : Tu) : Prop where
  pg : Pag W w.heap.size (.int .i64 a) (.int .i64 k) (.int .i64 v) (.int .i64 r) (.string h) (.slice ao n cp)
  tb : Tb W (w.heap.size + 1) t
  only : Only (fun _ => False) w W
  size : w.heap.size + 1 + 1 ≤ W.heap.size
theorem Fst.new (w : World) (a k v r : Int) (h : ByteArray) (ao : Option Addr) (n cp : Nat) (t : Tu) : Fst w ((w.alloc (.cells #[.int .i64 a, .int .i64 k, .int .i64 v, .int .i64 r, .string h, .slice ao n cp] 24)).alloc (.cells #[.int .i64 t.xmin, .int .i64 t.xmax, .bool t.frozen, .string t.key, .string t.value] 26)) a k v r h ao n cp t := by
  refine ⟨(Pag.new w _ _ _ _ _ _).more (onlyA _ _), ?_, o2 (onlyA _ _) (onlyA _ _), by simp⟩
  have := Tb.new (w.alloc (.cells #[.int .i64 a, .int .i64 k, .int .i64 v, .int .i64 r, .string h, .slice ao n cp] 24)) t
  rw [World.size_alloc] at this
  exact this
theorem Fst.kept {S : Nat → Prop} {w W W' : World} {a k v r : Int} {h : ByteArray} {ao : Option Addr} {n cp : Nat} {t : Tu} (H : Fst w W a k v r h ao n cp t) (ho : Only S W W') (hS : ∀ j, S j → w.heap.size + 1 + 1 ≤ j) : Fst w W' a k v r h ao n cp t :=
  ⟨H.pg.kept ho (fun e => by have := hS _ e; omega), H.tb.kept ho (fun e => by have := hS _ e; omega), H.only.trans ho (fun i hi e => by have := hS _ e; omega), Nat.le_trans H.size ho.size⟩
theorem Fst.more {w W W' : World} {a k v r : Int} {h : ByteArray} {ao : Option Addr} {n cp : Nat} {t : Tu} (H : Fst w W a k v r h ao n cp t) (ho : Only (fun _ => False) W W') : Fst w W' a k v r h ao n cp t := H.kept ho (fun _ h => h.elim)
set_option maxRecDepth 100000 in
set_option maxHeartbeats 3200000 in
theorem heapFinds_law (w : World) (a k v r : Int) (h : ByteArray) (B cp : Nat) (ao : Option Addr) (l : List ByteArray) (t : Tu) (hS : Strs w B ao l) (hF : Fit ao l.length cp) (hh : h.size ≤ 140737488355328) (ha : a < 9223372036854775808) (ht0 : -9223372036854775808 ≤ t.xmin ∧ t.xmin < 9223372036854775808) (ht1 : -9223372036854775808 ≤ t.xmax ∧ t.xmax < 9223372036854775808) :
    Calls Try.prog 3 #[pv a k v r h ao l.length cp, t.agg] w fun e w' => e = .returned (.bool true) ∧ Only (fun _ => False) w w' := by
  have HAW := hide hawake_any
  have HF0 := hide (Fst.new w a k v r h ao l.length cp t)
  have HS := hide hS
  have HF := hide hF
  have hln := hS.len
  have HRM : Hid (∀ W, Only (fun _ => False) w W → Calls Try.prog 6 #[.agg #[.int .i64 a, .int .i64 k, .int .i64 v, .int .i64 r, .string h, .slice ao l.length cp]] W fun e w' => e = .returned (.int .i64 ((roomH k h l : Nat) : Int)) ∧ Only (fun _ => False) W w') := fun W ho => room_any W a k v r h B cp ao l (hS.more ho) hF hh
  have HIN : Hid (∀ W, Only (fun _ => False) w W → Calls Try.prog 7 #[.agg #[.int .i64 a, .int .i64 k, .int .i64 v, .int .i64 r, .string h, .slice ao l.length cp], .int .i64 7, .agg #[.int .i64 t.xmin, .int .i64 t.xmax, .bool t.frozen, .string t.key, .string t.value]] W fun e w' => e = .returned (.tuple #[.agg (Hr.cells (if insE k h l t = 0 then insR l 7 t else Hr.none)), .int .i64 (insE k h l t)]) ∧ Only (fun _ => False) W w') := fun W ho => insert_any W a k v r h B cp ao l 7 t (hS.more ho) hF hh ht0 ht1
  have HEN : Hid (∀ W, Only (fun _ => False) w W → Calls Try.prog 9 #[.agg #[.int .i64 a, .int .i64 k, .int .i64 v, .int .i64 r, .string h, .slice ao l.length cp]] W fun e w' => e = .returned (.tuple #[.string (str (Pg.out ⟨a, k, v, r, h, l⟩).1), .int .i64 (Pg.out ⟨a, k, v, r, h, l⟩).2]) ∧ Only (fun _ => False) W w') := fun W ho => pencode_any W a k v r h B cp ao l (hS.more ho) hh ha
  have hrb := roomH_le k h l
  have hcase := insE_any k h l t
  unfold Tu.agg
  by_cases he : insE k h l t = 0
  · rcases hcase with ⟨_, hk, hok, hfit⟩ | ⟨e, _⟩ | e | e
    · rw [if_pos he, he] at HIN
      unfold insR at HIN
      have hle := slotL_le l
      have hs1 : 1 ≤ (str t.enc).size := by rw [str_size, enc_lenT hok]; omega
      have hs2 : (str t.enc).size ≤ 95 := by rw [str_size, enc_lenT hok]; have := Tu.ok_iff.1 hok; omega
      have hroom : (str t.enc).size ≤ roomH k h l := by rw [hk]; exact (room_ins h l (str t.enc) hs1).1 hfit
      have hfi := fitL_iff.1 hfit
      have hpl := putL_le l (slotL l) (str t.enc) hle
      have HDO : Hid (∀ W, Only (fun _ => False) w W → Calls Try.prog 10 #[.agg #[.int .i64 a, .int .i64 k, .int .i64 v, .int .i64 r, .string h, .slice ao l.length cp], .agg (Hr.cells ⟨1, t.xmin, 7, (slotL l : Int), 0, 0, str t.enc⟩)] W fun e w' => DoQ W w' e ⟨a, k, v, r, h, putL l (slotL l) (str t.enc)⟩) := fun W ho => by
        by_cases hlt : slotL l < l.length
        · exact does_lt W a k v r h B cp ao l (slotL l) t.xmin 7 (str t.enc) (hS.more ho) hF hh ha (by omega) (by omega) hlt (slotL_eq hlt)
        · exact does_eq W a k v r h B cp ao l (slotL l) t.xmin 7 (str t.enc) (hS.more ho) hF hh ha (by omega) (by omega) (by omega)
      have HLK : Hid (∀ W B' ao' cp', Strs W B' ao' (putL l (slotL l) (str t.enc)) → Calls Try.prog 11 #[.agg #[.int .i64 a, .int .i64 k, .int .i64 v, .int .i64 r, .string h, .slice ao' (putL l (slotL l) (str t.enc)).length cp'], .int .i64 (slotL l : Int), .string t.key] W fun e w' => e = .returned (.tuple #[.agg #[.int .i64 t.xmin, .int .i64 t.xmax, .bool t.frozen, .string t.key, .string t.value], .bool true]) ∧ Only (fun _ => False) W w') := fun W B' ao' cp' hS' => by
        have := look_any W a k v r h B' cp' ao' (putL l (slotL l) (str t.enc)) (slotL l : Int) t.key hS'
        have e1 : lookL k (putL l (slotL l) (str t.enc)) (slotL l : Int) t.key = some t := by
          unfold lookL
          rw [hk, verL_at hpl.2.1, putL_at l (slotL l) (str t.enc) hle hpl.2.1, bl_str, dec_encT hok]
          simp only [if_true]
        rw [e1] at this
        exact this
      have HRQ : Hid (∀ W B' ao' cp', Strs W B' ao' (putL l (slotL l) (str t.enc)) → Fit ao' (putL l (slotL l) (str t.enc)).length cp' → Calls Try.prog 6 #[.agg #[.int .i64 a, .int .i64 k, .int .i64 v, .int .i64 r, .string h, .slice ao' (putL l (slotL l) (str t.enc)).length cp']] W fun e w' => e = .returned (.int .i64 ((roomH k h (putL l (slotL l) (str t.enc)) : Nat) : Int)) ∧ Only (fun _ => False) W w') := fun W B' ao' cp' hS' hF' => room_any W a k v r h B' cp' ao' _ hS' hF' hh
      have hdown : roomH k h (putL l (slotL l) (str t.enc)) ≤ roomH k h l := by rw [hk]; exact room_down h l (str t.enc)
      have hodd : (Pg.out ⟨a, k, v, r, h, l⟩).2 = 0 → (Pg.out ⟨a, k, v, r, h, putL l (slotL l) (str t.enc)⟩).2 = 0 := fun ho => by
        have hin : Pg.inRange ⟨a, k, v, r, h, l⟩ := by
          by_cases hi : Pg.inRange ⟨a, k, v, r, h, l⟩
          · exact hi
          · rw [out_range hi] at ho
            cases ho
        rw [out_ok (p := ⟨a, k, v, r, h, putL l (slotL l) (str t.enc)⟩) hin hfi]
      have HOTH : Hid (∀ j, j < l.length → j ≠ slotL l → (putL l (slotL l) (str t.enc))[j]? = l[j]?) := fun j hj hn => by
        have hj2 : j < (putL l (slotL l) (str t.enc)).length := by omega
        rw [List.getElem?_eq_getElem hj2, List.getElem?_eq_getElem hj, putL_other l (slotL l) j (str t.enc) hle hj hn hj2]
      obtain ⟨N, hN⟩ : ∃ N, slotL l = N := ⟨_, rfl⟩
      rw [hN] at HIN HDO HLK HRQ hdown hodd HOTH hpl
      obtain ⟨SS, hSS⟩ : ∃ S, str t.enc = S := ⟨_, rfl⟩
      rw [hSS] at HIN HDO HLK HRQ hdown hodd HOTH hpl hroom hs2
      obtain ⟨L, hL⟩ : ∃ L, putL l N SS = L := ⟨_, rfl⟩
      simp only [hL] at HDO HLK HRQ hdown hodd HOTH hpl
      obtain ⟨RM, hRM⟩ : ∃ x, roomH k h l = x := ⟨_, rfl⟩
      rw [hRM] at HRM hrb hroom hdown
      obtain ⟨RQ, hRQ⟩ : ∃ x, roomH k h L = x := ⟨_, rfl⟩
      rw [hRQ] at HRQ hdown
      obtain ⟨OC, hOC⟩ : ∃ x, (Pg.out ⟨a, k, v, r, h, l⟩).2 = x := ⟨_, rfl⟩
      rw [hOC] at HEN hodd
      have HODD := hide hodd
      have hro : ¬ (RM : Int) < (SS.size : Int) := by omega
      have hro2 : ¬ (RM : Int) < (RQ : Int) := by omega
      have hll : ¬ (L.length : Int) < (l.length : Int) := by omega
      have HLL := hide hpl.1
      clear hk hok hfit he hS hF hs1 hfi hN hSS hL hRM hRQ hOC hodd hle
      go_enter Try.func3, Try.ntmps3
      go_upto_region 1 with fail
      obtain ⟨W0, hW0⟩ : ∃ y, (w.alloc (.cells #[.int .i64 a, .int .i64 k, .int .i64 v, .int .i64 r, .string h, .slice ao l.length cp] 24)).alloc (.cells #[.int .i64 t.xmin, .int .i64 t.xmax, .bool t.frozen, .string t.key, .string t.value] 26) = y := ⟨_, rfl⟩
      rw [hW0] at HF0 ⊢
      clear hW0
      obtain ⟨p0, p1, p2, p3, p4, p5, _⟩ := HF0.out.pg
      go_wp2_with fail
      refine (HRM.out _ HF0.out.only).mono ?_
      rintro e w1 ⟨rfl, ho1⟩
      have HF1 := hide (HF0.out.more ho1)
      clear ho1 p0 p1 p2 p3 p4 p5
      obtain ⟨p0, p1, p2, p3, p4, p5, _⟩ := HF1.out.pg
      obtain ⟨t0, t1, t2, t3, t4, _⟩ := HF1.out.tb
      go_wp2_with fail
      refine (HIN.out _ HF1.out.only).mono ?_
      rintro e w2 ⟨rfl, ho2⟩
      have HF2 := hide ((HF1.out.more ho2).more (onlyA w2 (.cells Hr.none.cells 34)))
      have HB2 := hide (Hb.new w2 Hr.none)
      have hz2 := (HF1.out.more ho2).size
      clear ho2 p0 p1 p2 p3 p4 p5 t0 t1 t2 t3 t4
      go_upto_region 3 with (refine wpList_put_hr rfl (.tmp 6) (.tmp 21) rfl w2.heap.size rfl Hr.none ⟨1, t.xmin, 7, (N : Int), 0, 0, SS⟩ rfl HB2.out ?_; intro W9 HW9; go_frame)
      have HF9 := hide (HF2.out.kept HW9.out.only (fun j hj => by omega))
      have HR9 := hide HW9.out.at_
      obtain ⟨rb, hrbb⟩ : ∃ b, w2.heap.size = b := ⟨_, rfl⟩
      rw [hrbb] at HR9 ⊢
      clear HW9 HB2 HF2 hz2 hrbb
      have c3 := HR9.out.cell 3 _ rfl
      have c6 := HR9.out.cell 6 _ rfl
      have c10 := HR9.out.cell 10 _ rfl
      simp only at c3 c6 c10
      obtain ⟨p0, p1, p2, p3, p4, p5, _⟩ := HF9.out.pg
      go_wp2_with fail
      refine (HEN.out _ HF9.out.only).mono ?_
      rintro e w3 ⟨rfl, ho3⟩
      have HF3 := hide (HF9.out.more ho3)
      have HR3 := hide (HR9.out.more ho3)
      clear ho3 p0 p1 p2 p3 p4 p5 c3 c6 c10 HF9 HR9
      obtain ⟨p0, p1, p2, p3, p4, p5, _⟩ := HF3.out.pg
      go_upto_region 8 with fail
      go_wp2_with (refine wpList_load_hr rfl (.tmp 6) rfl rb rfl ⟨1, t.xmin, 7, (N : Int), 0, 0, SS⟩ HR3.out ?_; go_frame)
      refine (HDO.out _ HF3.out.only).mono ?_
      rintro e w4 ⟨⟨Bq, aq, cq, rfl, hS4, hF4, _⟩, ho4⟩
      simp only at hS4 hF4
      have HN := hide (onlyA w4 (.cells #[.int .i64 a, .int .i64 k, .int .i64 v, .int .i64 r, .string h, .slice aq L.length cq] 24))
      have HL4 := hide (LaidP.first (w0 := w3) (p := ⟨a, k, v, r, h, L⟩) hS4 hF4 ho4)
      have HF4 := hide ((HF3.out.more ho4).more HN.out)
      have HR4 := hide ((HR3.out.more ho4).more HN.out)
      simp only at HL4
      clear ho4 hS4 hF4 p0 p1 p2 p3 p4 p5 HF3 HR3 HN
      obtain ⟨OQ, hOQ⟩ : ∃ x, ((Pg.out ⟨a, k, v, r, h, L⟩).2 == 0) = x := ⟨_, rfl⟩
      simp only [hOQ]
      have HOQ : Hid (OC = 0 → OQ = true) := fun e => by rw [← hOQ, HODD.out e]; rfl
      clear hOQ
      obtain ⟨nL, hnL⟩ : ∃ x, L.length = x := ⟨_, rfl⟩
      simp only [hnL] at HL4 HLK HRQ hll hpl HLL ⊢
      have HNL := hide hnL
      clear hnL
      go_upto_region 9 with fail
      obtain ⟨qb, hqb⟩ : ∃ b, w4.heap.size = b := ⟨_, rfl⟩
      obtain ⟨w5, hw5⟩ : ∃ y, w4.alloc (.cells #[.int .i64 a, .int .i64 k, .int .i64 v, .int .i64 r, .string h, .slice aq nL cq] 24) = y := ⟨_, rfl⟩
      rw [HNL.out] at HF4 HR4
      simp only [hw5, hqb] at HF4 HR4 HL4 ⊢
      clear hw5 hqb
      by_cases hoc : OC = 0
      · have e := HOQ.out hoc
        subst e
        subst hoc
        obtain ⟨p0, p1, p2, p3, p4, p5, _⟩ := HL4.out.pag
        simp only [HNL.out] at p0 p1 p2 p3 p4 p5
        have c6 := HR4.out.cell 6 _ rfl
        simp only at c6
        have t3 := HF4.out.tb.c3
        go_wp2_with fail
        refine (HLK.out _ Bq aq cq HL4.out.strs).mono ?_
        rintro e w6 ⟨rfl, ho6⟩
        have HN := hide (onlyA w6 (.cells #[.int .i64 t.xmin, .int .i64 t.xmax, .bool t.frozen, .string t.key, .string t.value] 26))
        have HT6 := hide (Tb.new w6 t)
        have HF6 := hide ((HF4.out.more ho6).more HN.out)
        have HR6 := hide ((HR4.out.more ho6).more HN.out)
        have HL6 := hide ((HL4.out.more ho6).more HN.out)
        clear ho6 p0 p1 p2 p3 p4 p5 c6 t3 HF4 HR4 HL4 HN
        go_upto_region 14 with fail
        obtain ⟨ub, hub⟩ : ∃ b, w6.heap.size = b := ⟨_, rfl⟩
        obtain ⟨w7, hw7⟩ : ∃ y, w6.alloc (.cells #[.int .i64 t.xmin, .int .i64 t.xmax, .bool t.frozen, .string t.key, .string t.value] 26) = y := ⟨_, rfl⟩
        simp only [hw7, hub] at HF6 HR6 HL6 HT6 ⊢
        clear hw7 hub
        obtain ⟨p0, p1, p2, p3, p4, p5, _⟩ := HL6.out.pag
        simp only [HNL.out] at p0 p1 p2 p3 p4 p5
        obtain ⟨u0, u1, u2, u3, u4, _⟩ := HT6.out
        obtain ⟨t0, t1, t2, t3, t4, _⟩ := HF6.out.tb
        go_wp2_with fail
        refine (HRQ.out _ Bq aq cq HL6.out.strs (by rw [← HNL.out]; exact HL6.out.fit)).mono ?_
        rintro e w8 ⟨rfl, ho8⟩
        have HF8 := hide (HF6.out.more ho8)
        have HR8 := hide (HR6.out.more ho8)
        have HL8 := hide (HL6.out.more ho8)
        clear ho8 p0 p1 p2 p3 p4 p5 u0 u1 u2 u3 u4 t0 t1 t2 t3 t4 HF6 HR6 HL6 HT6
        have p5 := HL8.out.pag.c5
        simp only [HNL.out] at p5
        have g5 := HF8.out.pg.c5
        have hnl2 : ¬ nL < l.length := by omega
        go_wp2_with fail
        clear p5 g5
        go_loopw [14] (fun i wr => ∃ (j : Nat), j ≤ l.length ∧ i = .int .i64 (j : Int) ∧ Hid (Only (fun _ => False) w8 wr)) (fun i _ => l.length - (intOf i).toNat)
        case atStart => exact ⟨0, Nat.zero_le _, rfl, hide (Only.refl _ _)⟩
        case round =>
          obtain ⟨j, hj, rfl, HX⟩ := hrel
          have HFj := hide (HF8.out.more HX.out)
          have HRj := hide (HR8.out.more HX.out)
          have HLj := hide (HL8.out.more HX.out)
          have g5 := HFj.out.pg.c5
          by_cases hlt : j < l.length
          · have hlk : (j : Int) < (l.length : Int) := by omega
            have hlk2 : (j : Int) < (nL : Int) := by omega
            obtain ⟨o, hao, hc⟩ := (HS.out.more HFj.out.only).at_ (by omega)
            obtain ⟨oq, haq, hcq⟩ := HLj.out.strs.at_ (by show 0 < L.length; rw [HNL.out]; omega)
            have hjL : j < L.length := by rw [HNL.out]; omega
            have HCK := hide (hc j hlt)
            have HCQ := hide (hcq j hjL)
            have HBl : Hid (B < wr.heap.size) := Nat.lt_of_lt_of_le (HS.out.lt (by omega)) HFj.out.only.size
            have HBq : Hid (Bq < wr.heap.size) := HLj.out.strs.lt (by show 0 < L.length; rw [HNL.out]; omega)
            have HQE : Hid (j ≠ N → L[j] = l[j]) := fun hn => by
              have := HOTH.out j hlt hn
              rw [List.getElem?_eq_getElem hjL, List.getElem?_eq_getElem hlt] at this
              simpa using this
            simp only at HCQ
            obtain ⟨x, hx⟩ : ∃ x, l[j] = x := ⟨_, rfl⟩
            obtain ⟨y, hy⟩ : ∃ y, L[j] = y := ⟨_, rfl⟩
            simp only [hx, hy] at HCK HCQ HQE
            subst hao
            subst haq
            clear hc hcq hx hy hjL
            by_cases hjn : j = N
            · have hb1 : ((j : Int) != (N : Int)) = false := by simp [hjn]
              clear hjn
              go_upto_region 19 with fail
              clear g5
              obtain ⟨W0, hW0⟩ : ∃ x, wr = x := ⟨_, rfl⟩
              rw [hW0] at HFj HRj HLj HCK HCQ HBl HBq HX ⊢
              clear hW0
              refine wp_region_noPanic ?_
              refine wp_region_held_drew (S := fun W => Only (fun _ => False) W0 W) (by kernel_rfl) (Only.drew _ _) (fun hHeld => ?_)
              refine wpAnyH_take (i := 0) (oi := { dst := some 98, op := Op.move (Operand.tmp 14), type := 3, pos := "law.go:105", after := #[], guard := none }) (v := .int .i64 (j : Int)) rfl (by kernel_rfl) (by kernel_rfl) (by kernel_rfl) (fun _ _ _ h => h) (Or.inl ⟨by rfl, fun w' hSw => by clear hSw; go_simp⟩) (by assumption) ?_
              simp only [Act.put, List.setIfInBounds_toArray, List.set_cons_zero, List.set_cons_succ]
              refine wpAnyH_take (i := 1) (oi := { dst := some 99, op := Op.fieldAddr 34 (Operand.tmp 6) 6, type := 0, pos := "law.go:105", after := #[], guard := none }) (v := .pointer (some ⟨rb, 6, none⟩)) rfl (by kernel_rfl) (by kernel_rfl) (by kernel_rfl) (fun _ _ _ h => h) (Or.inl ⟨by rfl, fun w' hSw => by clear hSw; go_simp⟩) (by assumption) ?_
              simp only [Act.put, List.setIfInBounds_toArray, List.set_cons_zero, List.set_cons_succ]
              refine wpAnyH_take (i := 2) (oi := { dst := some 100, op := Op.load 3 (Operand.tmp 99), type := 3, pos := "law.go:105", after := #[{ on := 1, ground := Ground.data }], guard := none }) (v := .int .i64 (N : Int)) rfl (by kernel_rfl) (by kernel_rfl) (by kernel_rfl) (fun _ _ _ h => h) (yieldsIf_load_cell (by rfl) 3 _ rfl _ rfl (fun W hW => (hW.cell (p := ⟨rb, 6, none⟩) HRj.out.lt (fun h => h)).trans (HRj.out.cell 6 _ rfl)) (fun W hc => ld_int hc)) (by assumption) ?_
              simp only [Act.put, List.setIfInBounds_toArray, List.set_cons_zero, List.set_cons_succ]
              refine wpAnyH_take (i := 3) (oi := { dst := some 101, op := Op.binOp BinOp.neq 3 (Operand.tmp 98) (Operand.tmp 100) 3, type := 4, pos := "law.go:105", after := #[{ on := 0, ground := Ground.data }, { on := 2, ground := Ground.data }], guard := none }) (v := .bool false) rfl (by kernel_rfl) (by kernel_rfl) (by kernel_rfl) (fun _ _ _ h => h) (Or.inl ⟨by rfl, fun w' hSw => by clear hSw; go_simp⟩) (by assumption) ?_
              simp only [Act.put, List.setIfInBounds_toArray, List.set_cons_zero, List.set_cons_succ]
              refine wpAnyH_take (i := 4) (oi := { dst := some 102, op := Op.move (Operand.tmp 101), type := 4, pos := "law.go:105", after := #[{ on := 3, ground := Ground.data }], guard := none }) (v := .bool false) rfl (by kernel_rfl) (by kernel_rfl) (by kernel_rfl) (fun _ _ _ h => h) (Or.inl ⟨by rfl, fun w' hSw => by clear hSw; go_simp⟩) (by assumption) ?_
              simp only [Act.put, List.setIfInBounds_toArray, List.set_cons_zero, List.set_cons_succ]
              refine wpAnyH_take (i := 5) (oi := { dst := some 103, op := Op.fieldAddr 24 (Operand.tmp 2) 5, type := 0, pos := "law.go:105", after := #[{ on := 4, ground := Ground.guard }], guard := some (4, true) }) (v := undef) rfl (by kernel_rfl) (by kernel_rfl) (by kernel_rfl) (fun _ _ _ h => h) (Or.inr ⟨by rfl, rfl⟩) (by assumption) ?_
              simp only [Act.put, List.setIfInBounds_toArray, List.set_cons_zero, List.set_cons_succ]
              refine wpAnyH_take (i := 7) (oi := { dst := some 105, op := Op.move (Operand.tmp 14), type := 3, pos := "law.go:105", after := #[{ on := 4, ground := Ground.guard }], guard := some (4, true) }) (v := undef) rfl (by kernel_rfl) (by kernel_rfl) (by kernel_rfl) (fun _ _ _ h => h) (Or.inr ⟨by rfl, rfl⟩) (by assumption) ?_
              simp only [Act.put, List.setIfInBounds_toArray, List.set_cons_zero, List.set_cons_succ]
              refine wpAnyH_take (i := 10) (oi := { dst := some 108, op := Op.fieldAddr 24 (Operand.tmp 10) 5, type := 0, pos := "law.go:105", after := #[{ on := 4, ground := Ground.guard }], guard := some (4, true) }) (v := undef) rfl (by kernel_rfl) (by kernel_rfl) (by kernel_rfl) (fun _ _ _ h => h) (Or.inr ⟨by rfl, rfl⟩) (by assumption) ?_
              simp only [Act.put, List.setIfInBounds_toArray, List.set_cons_zero, List.set_cons_succ]
              refine wpAnyH_take (i := 12) (oi := { dst := some 110, op := Op.move (Operand.tmp 14), type := 3, pos := "law.go:105", after := #[{ on := 4, ground := Ground.guard }], guard := some (4, true) }) (v := undef) rfl (by kernel_rfl) (by kernel_rfl) (by kernel_rfl) (fun _ _ _ h => h) (Or.inr ⟨by rfl, rfl⟩) (by assumption) ?_
              simp only [Act.put, List.setIfInBounds_toArray, List.set_cons_zero, List.set_cons_succ]
              refine wpAnyH_take (i := 6) (oi := { dst := some 104, op := Op.load 22 (Operand.tmp 103), type := 22, pos := "law.go:105", after := #[{ on := 5, ground := Ground.data }, { on := 4, ground := Ground.guard }], guard := some (4, true) }) (v := undef) rfl (by kernel_rfl) (by kernel_rfl) (by kernel_rfl) (fun _ _ _ h => h) (Or.inr ⟨by rfl, rfl⟩) (by assumption) ?_
              simp only [Act.put, List.setIfInBounds_toArray, List.set_cons_zero, List.set_cons_succ]
              refine wpAnyH_take (i := 11) (oi := { dst := some 109, op := Op.load 22 (Operand.tmp 108), type := 22, pos := "law.go:105", after := #[{ on := 10, ground := Ground.data }, { on := 4, ground := Ground.guard }], guard := some (4, true) }) (v := undef) rfl (by kernel_rfl) (by kernel_rfl) (by kernel_rfl) (fun _ _ _ h => h) (Or.inr ⟨by rfl, rfl⟩) (by assumption) ?_
              simp only [Act.put, List.setIfInBounds_toArray, List.set_cons_zero, List.set_cons_succ]
              refine wpAnyH_take (i := 8) (oi := { dst := some 106, op := Op.indexAddr 22 (Operand.tmp 104) (Operand.tmp 105), type := 0, pos := "law.go:105", after := #[{ on := 6, ground := Ground.data }, { on := 7, ground := Ground.data }, { on := 4, ground := Ground.guard }], guard := some (4, true) }) (v := undef) rfl (by kernel_rfl) (by kernel_rfl) (by kernel_rfl) (fun _ _ _ h => h) (Or.inr ⟨by rfl, rfl⟩) (by assumption) ?_
              simp only [Act.put, List.setIfInBounds_toArray, List.set_cons_zero, List.set_cons_succ]
              refine wpAnyH_take (i := 13) (oi := { dst := some 111, op := Op.indexAddr 22 (Operand.tmp 109) (Operand.tmp 110), type := 0, pos := "law.go:105", after := #[{ on := 11, ground := Ground.data }, { on := 12, ground := Ground.data }, { on := 4, ground := Ground.guard }], guard := some (4, true) }) (v := undef) rfl (by kernel_rfl) (by kernel_rfl) (by kernel_rfl) (fun _ _ _ h => h) (Or.inr ⟨by rfl, rfl⟩) (by assumption) ?_
              simp only [Act.put, List.setIfInBounds_toArray, List.set_cons_zero, List.set_cons_succ]
              refine wpAnyH_take (i := 9) (oi := { dst := some 107, op := Op.load 9 (Operand.tmp 106), type := 9, pos := "law.go:105", after := #[{ on := 8, ground := Ground.data }, { on := 4, ground := Ground.guard }], guard := some (4, true) }) (v := undef) rfl (by kernel_rfl) (by kernel_rfl) (by kernel_rfl) (fun _ _ _ h => h) (Or.inr ⟨by rfl, rfl⟩) (by assumption) ?_
              simp only [Act.put, List.setIfInBounds_toArray, List.set_cons_zero, List.set_cons_succ]
              refine wpAnyH_take (i := 14) (oi := { dst := some 112, op := Op.load 9 (Operand.tmp 111), type := 9, pos := "law.go:105", after := #[{ on := 13, ground := Ground.data }, { on := 4, ground := Ground.guard }], guard := some (4, true) }) (v := undef) rfl (by kernel_rfl) (by kernel_rfl) (by kernel_rfl) (fun _ _ _ h => h) (Or.inr ⟨by rfl, rfl⟩) (by assumption) ?_
              simp only [Act.put, List.setIfInBounds_toArray, List.set_cons_zero, List.set_cons_succ]
              refine wpAnyH_take (i := 15) (oi := { dst := some 113, op := Op.binOp BinOp.neq 9 (Operand.tmp 107) (Operand.tmp 112) 9, type := 4, pos := "law.go:105", after := #[{ on := 9, ground := Ground.data }, { on := 14, ground := Ground.data }, { on := 4, ground := Ground.guard }], guard := some (4, true) }) (v := undef) rfl (by kernel_rfl) (by kernel_rfl) (by kernel_rfl) (fun _ _ _ h => h) (Or.inr ⟨by rfl, rfl⟩) (by assumption) ?_
              simp only [Act.put, List.setIfInBounds_toArray, List.set_cons_zero, List.set_cons_succ]
              refine wpAnyH_take (i := 16) (oi := { dst := some 114, op := Op.pick (Operand.tmp 102) (Operand.tmp 113) (Operand.const (Value.bool false)), type := 4, pos := "law.go:105", after := #[{ on := 4, ground := Ground.data }, { on := 15, ground := Ground.data }], guard := none }) (v := .bool false) rfl (by kernel_rfl) (by kernel_rfl) (by kernel_rfl) (fun _ _ _ h => h) (Or.inl ⟨by rfl, fun w' hSw => by clear hSw; go_simp⟩) (by assumption) ?_
              simp only [Act.put, List.setIfInBounds_toArray, List.set_cons_zero, List.set_cons_succ]
              refine wpAnyH_done (by kernel_rfl) ?_ _
              refine NoPanic.normal ?_
              rw [Exit.then]
              go_wp2_with fail
              go_roundw
              case rel => exact ⟨j + 1, by omega, by go_num, hide (o2 HX.out (Only.drew _ _))⟩
              case measure => simp [intOf]; omega
            · have e := HQE.out hjn
              subst e
              have hb1 : ((j : Int) != (N : Int)) = true := by simp; omega
              clear hjn
              go_upto_region 19 with fail
              clear g5
              obtain ⟨W0, hW0⟩ : ∃ x, wr = x := ⟨_, rfl⟩
              rw [hW0] at HFj HRj HLj HCK HCQ HBl HBq HX ⊢
              clear hW0
              refine wp_region_noPanic ?_
              refine wp_region_held_drew (S := fun W => Only (fun _ => False) W0 W) (by kernel_rfl) (Only.drew _ _) (fun hHeld => ?_)
              refine wpAnyH_take (i := 0) (oi := { dst := some 98, op := Op.move (Operand.tmp 14), type := 3, pos := "law.go:105", after := #[], guard := none }) (v := .int .i64 (j : Int)) rfl (by kernel_rfl) (by kernel_rfl) (by kernel_rfl) (fun _ _ _ h => h) (Or.inl ⟨by rfl, fun w' hSw => by clear hSw; go_simp⟩) (by assumption) ?_
              simp only [Act.put, List.setIfInBounds_toArray, List.set_cons_zero, List.set_cons_succ]
              refine wpAnyH_take (i := 1) (oi := { dst := some 99, op := Op.fieldAddr 34 (Operand.tmp 6) 6, type := 0, pos := "law.go:105", after := #[], guard := none }) (v := .pointer (some ⟨rb, 6, none⟩)) rfl (by kernel_rfl) (by kernel_rfl) (by kernel_rfl) (fun _ _ _ h => h) (Or.inl ⟨by rfl, fun w' hSw => by clear hSw; go_simp⟩) (by assumption) ?_
              simp only [Act.put, List.setIfInBounds_toArray, List.set_cons_zero, List.set_cons_succ]
              refine wpAnyH_take (i := 2) (oi := { dst := some 100, op := Op.load 3 (Operand.tmp 99), type := 3, pos := "law.go:105", after := #[{ on := 1, ground := Ground.data }], guard := none }) (v := .int .i64 (N : Int)) rfl (by kernel_rfl) (by kernel_rfl) (by kernel_rfl) (fun _ _ _ h => h) (yieldsIf_load_cell (by rfl) 3 _ rfl _ rfl (fun W hW => (hW.cell (p := ⟨rb, 6, none⟩) HRj.out.lt (fun h => h)).trans (HRj.out.cell 6 _ rfl)) (fun W hc => ld_int hc)) (by assumption) ?_
              simp only [Act.put, List.setIfInBounds_toArray, List.set_cons_zero, List.set_cons_succ]
              refine wpAnyH_take (i := 3) (oi := { dst := some 101, op := Op.binOp BinOp.neq 3 (Operand.tmp 98) (Operand.tmp 100) 3, type := 4, pos := "law.go:105", after := #[{ on := 0, ground := Ground.data }, { on := 2, ground := Ground.data }], guard := none }) (v := .bool true) rfl (by kernel_rfl) (by kernel_rfl) (by kernel_rfl) (fun _ _ _ h => h) (Or.inl ⟨by rfl, fun w' hSw => by clear hSw; go_simp⟩) (by assumption) ?_
              simp only [Act.put, List.setIfInBounds_toArray, List.set_cons_zero, List.set_cons_succ]
              refine wpAnyH_take (i := 4) (oi := { dst := some 102, op := Op.move (Operand.tmp 101), type := 4, pos := "law.go:105", after := #[{ on := 3, ground := Ground.data }], guard := none }) (v := .bool true) rfl (by kernel_rfl) (by kernel_rfl) (by kernel_rfl) (fun _ _ _ h => h) (Or.inl ⟨by rfl, fun w' hSw => by clear hSw; go_simp⟩) (by assumption) ?_
              simp only [Act.put, List.setIfInBounds_toArray, List.set_cons_zero, List.set_cons_succ]
              refine wpAnyH_take (i := 5) (oi := { dst := some 103, op := Op.fieldAddr 24 (Operand.tmp 2) 5, type := 0, pos := "law.go:105", after := #[{ on := 4, ground := Ground.guard }], guard := some (4, true) }) (v := .pointer (some ⟨w.heap.size, 5, none⟩)) rfl (by kernel_rfl) (by kernel_rfl) (by kernel_rfl) (fun _ _ _ h => h) (Or.inl ⟨by rfl, fun w' hSw => by clear hSw; go_simp⟩) (by assumption) ?_
              simp only [Act.put, List.setIfInBounds_toArray, List.set_cons_zero, List.set_cons_succ]
              refine wpAnyH_take (i := 7) (oi := { dst := some 105, op := Op.move (Operand.tmp 14), type := 3, pos := "law.go:105", after := #[{ on := 4, ground := Ground.guard }], guard := some (4, true) }) (v := .int .i64 (j : Int)) rfl (by kernel_rfl) (by kernel_rfl) (by kernel_rfl) (fun _ _ _ h => h) (Or.inl ⟨by rfl, fun w' hSw => by clear hSw; go_simp⟩) (by assumption) ?_
              simp only [Act.put, List.setIfInBounds_toArray, List.set_cons_zero, List.set_cons_succ]
              refine wpAnyH_take (i := 10) (oi := { dst := some 108, op := Op.fieldAddr 24 (Operand.tmp 10) 5, type := 0, pos := "law.go:105", after := #[{ on := 4, ground := Ground.guard }], guard := some (4, true) }) (v := .pointer (some ⟨qb, 5, none⟩)) rfl (by kernel_rfl) (by kernel_rfl) (by kernel_rfl) (fun _ _ _ h => h) (Or.inl ⟨by rfl, fun w' hSw => by clear hSw; go_simp⟩) (by assumption) ?_
              simp only [Act.put, List.setIfInBounds_toArray, List.set_cons_zero, List.set_cons_succ]
              refine wpAnyH_take (i := 12) (oi := { dst := some 110, op := Op.move (Operand.tmp 14), type := 3, pos := "law.go:105", after := #[{ on := 4, ground := Ground.guard }], guard := some (4, true) }) (v := .int .i64 (j : Int)) rfl (by kernel_rfl) (by kernel_rfl) (by kernel_rfl) (fun _ _ _ h => h) (Or.inl ⟨by rfl, fun w' hSw => by clear hSw; go_simp⟩) (by assumption) ?_
              simp only [Act.put, List.setIfInBounds_toArray, List.set_cons_zero, List.set_cons_succ]
              refine wpAnyH_take (i := 6) (oi := { dst := some 104, op := Op.load 22 (Operand.tmp 103), type := 22, pos := "law.go:105", after := #[{ on := 5, ground := Ground.data }, { on := 4, ground := Ground.guard }], guard := some (4, true) }) (v := .slice (some ⟨B, o, none⟩) l.length cp) rfl (by kernel_rfl) (by kernel_rfl) (by kernel_rfl) (fun _ _ _ h => h) (yieldsIf_load_cell (by rfl) 22 _ rfl _ rfl (fun W hW => (hW.cell (p := ⟨w.heap.size, 5, none⟩) HFj.out.pg.lt (fun h => h)).trans HFj.out.pg.c5) (fun W hc => ld_strings hc)) (by assumption) ?_
              simp only [Act.put, List.setIfInBounds_toArray, List.set_cons_zero, List.set_cons_succ]
              refine wpAnyH_take (i := 11) (oi := { dst := some 109, op := Op.load 22 (Operand.tmp 108), type := 22, pos := "law.go:105", after := #[{ on := 10, ground := Ground.data }, { on := 4, ground := Ground.guard }], guard := some (4, true) }) (v := .slice (some ⟨Bq, oq, none⟩) nL cq) rfl (by kernel_rfl) (by kernel_rfl) (by kernel_rfl) (fun _ _ _ h => h) (yieldsIf_load_cell (by rfl) 22 _ rfl _ rfl (fun W hW => (hW.cell (p := ⟨qb, 5, none⟩) HLj.out.pag.lt (fun h => h)).trans (by have := HLj.out.pag.c5; simp only [HNL.out] at this; exact this)) (fun W hc => ld_strings hc)) (by assumption) ?_
              simp only [Act.put, List.setIfInBounds_toArray, List.set_cons_zero, List.set_cons_succ]
              refine wpAnyH_take (i := 8) (oi := { dst := some 106, op := Op.indexAddr 22 (Operand.tmp 104) (Operand.tmp 105), type := 0, pos := "law.go:105", after := #[{ on := 6, ground := Ground.data }, { on := 7, ground := Ground.data }, { on := 4, ground := Ground.guard }], guard := some (4, true) }) (v := .pointer (some ⟨B, o + j, none⟩)) rfl (by kernel_rfl) (by kernel_rfl) (by kernel_rfl) (fun _ _ _ h => h) (Or.inl ⟨by rfl, fun w' hSw => by clear hSw; go_simp⟩) (by assumption) ?_
              simp only [Act.put, List.setIfInBounds_toArray, List.set_cons_zero, List.set_cons_succ]
              refine wpAnyH_take (i := 13) (oi := { dst := some 111, op := Op.indexAddr 22 (Operand.tmp 109) (Operand.tmp 110), type := 0, pos := "law.go:105", after := #[{ on := 11, ground := Ground.data }, { on := 12, ground := Ground.data }, { on := 4, ground := Ground.guard }], guard := some (4, true) }) (v := .pointer (some ⟨Bq, oq + j, none⟩)) rfl (by kernel_rfl) (by kernel_rfl) (by kernel_rfl) (fun _ _ _ h => h) (Or.inl ⟨by rfl, fun w' hSw => by clear hSw; go_simp⟩) (by assumption) ?_
              simp only [Act.put, List.setIfInBounds_toArray, List.set_cons_zero, List.set_cons_succ]
              refine wpAnyH_take (i := 9) (oi := { dst := some 107, op := Op.load 9 (Operand.tmp 106), type := 9, pos := "law.go:105", after := #[{ on := 8, ground := Ground.data }, { on := 4, ground := Ground.guard }], guard := some (4, true) }) (v := .string y) rfl (by kernel_rfl) (by kernel_rfl) (by kernel_rfl) (fun _ _ _ h => h) (yieldsIf_load_cell (by rfl) 9 _ rfl _ rfl (fun W hW => (hW.cell (p := ⟨B, o + j, none⟩) HBl.out (fun h => h)).trans HCK.out) (fun W hc => ld_string hc)) (by assumption) ?_
              simp only [Act.put, List.setIfInBounds_toArray, List.set_cons_zero, List.set_cons_succ]
              refine wpAnyH_take (i := 14) (oi := { dst := some 112, op := Op.load 9 (Operand.tmp 111), type := 9, pos := "law.go:105", after := #[{ on := 13, ground := Ground.data }, { on := 4, ground := Ground.guard }], guard := some (4, true) }) (v := .string y) rfl (by kernel_rfl) (by kernel_rfl) (by kernel_rfl) (fun _ _ _ h => h) (yieldsIf_load_cell (by rfl) 9 _ rfl _ rfl (fun W hW => (hW.cell (p := ⟨Bq, oq + j, none⟩) HBq.out (fun h => h)).trans HCQ.out) (fun W hc => ld_string hc)) (by assumption) ?_
              simp only [Act.put, List.setIfInBounds_toArray, List.set_cons_zero, List.set_cons_succ]
              refine wpAnyH_take (i := 15) (oi := { dst := some 113, op := Op.binOp BinOp.neq 9 (Operand.tmp 107) (Operand.tmp 112) 9, type := 4, pos := "law.go:105", after := #[{ on := 9, ground := Ground.data }, { on := 14, ground := Ground.data }, { on := 4, ground := Ground.guard }], guard := some (4, true) }) (v := .bool false) rfl (by kernel_rfl) (by kernel_rfl) (by kernel_rfl) (fun _ _ _ h => h) (Or.inl ⟨by rfl, fun w' hSw => by clear hSw; go_simp⟩) (by assumption) ?_
              simp only [Act.put, List.setIfInBounds_toArray, List.set_cons_zero, List.set_cons_succ]
              refine wpAnyH_take (i := 16) (oi := { dst := some 114, op := Op.pick (Operand.tmp 102) (Operand.tmp 113) (Operand.const (Value.bool false)), type := 4, pos := "law.go:105", after := #[{ on := 4, ground := Ground.data }, { on := 15, ground := Ground.data }], guard := none }) (v := .bool false) rfl (by kernel_rfl) (by kernel_rfl) (by kernel_rfl) (fun _ _ _ h => h) (Or.inl ⟨by rfl, fun w' hSw => by clear hSw; go_simp⟩) (by assumption) ?_
              simp only [Act.put, List.setIfInBounds_toArray, List.set_cons_zero, List.set_cons_succ]
              refine wpAnyH_done (by kernel_rfl) ?_ _
              refine NoPanic.normal ?_
              rw [Exit.then]
              go_wp2_with fail
              go_roundw
              case rel => exact ⟨j + 1, by omega, by go_num, hide (o2 HX.out (Only.drew _ _))⟩
              case measure => simp [intOf]; omega
          · have hlk : ¬ (j : Int) < (l.length : Int) := by omega
            go_wp2_with fail
            refine (HAW.out _).mono ?_
            rintro e wz ⟨rfl, hoz⟩
            have HOZ := hide (o2 HFj.out.only hoz)
            clear hoz
            go_wp2_with fail
            go_ret
            exact ⟨rfl, HOZ.out⟩
      · have hne : (OC != 0) = true := by simpa using hoc
        clear hoc HOQ HODD
        go_wp2_with fail
        refine (HAW.out _).mono ?_
        rintro e wz ⟨rfl, hoz⟩
        have HOZ := hide (o2 HF4.out.only hoz)
        clear hoz
        go_wp2_with fail
        go_ret
        exact ⟨rfl, HOZ.out⟩
    · omega
    · omega
    · omega
  · rw [if_neg he] at HIN
    have hc2 : (insE k h l t = 121 ∧ roomH k h l < 96) ∨ insE k h l t = 110 ∨ insE k h l t = 120 := by
      rcases hcase with ⟨e, _⟩ | e | e | e
      · exact absurd e he
      · exact .inl e
      · exact .inr (.inl e)
      · exact .inr (.inr e)
    obtain ⟨IE, hIE⟩ : ∃ x, insE k h l t = x := ⟨_, rfl⟩
    obtain ⟨RM, hRM⟩ : ∃ x, roomH k h l = x := ⟨_, rfl⟩
    rw [hIE, hRM] at hc2
    rw [hIE] at HIN
    rw [hRM] at HRM hrb
    have hne : (IE != 0) = true := by
      rw [hIE] at he
      simpa using he
    clear hIE hRM he hcase hS hF
    go_enter Try.func3, Try.ntmps3
    go_upto_region 1 with fail
    obtain ⟨W0, hW0⟩ : ∃ y, (w.alloc (.cells #[.int .i64 a, .int .i64 k, .int .i64 v, .int .i64 r, .string h, .slice ao l.length cp] 24)).alloc (.cells #[.int .i64 t.xmin, .int .i64 t.xmax, .bool t.frozen, .string t.key, .string t.value] 26) = y := ⟨_, rfl⟩
    rw [hW0] at HF0 ⊢
    clear hW0
    obtain ⟨p0, p1, p2, p3, p4, p5, _⟩ := HF0.out.pg
    go_wp2_with fail
    refine (HRM.out _ HF0.out.only).mono ?_
    rintro e w1 ⟨rfl, ho1⟩
    have HF1 := hide (HF0.out.more ho1)
    clear ho1 p0 p1 p2 p3 p4 p5
    obtain ⟨p0, p1, p2, p3, p4, p5, _⟩ := HF1.out.pg
    obtain ⟨t0, t1, t2, t3, t4, _⟩ := HF1.out.tb
    go_wp2_with fail
    refine (HIN.out _ HF1.out.only).mono ?_
    rintro e w2 ⟨rfl, ho2⟩
    have HF2 := hide ((HF1.out.more ho2).more (onlyA w2 (.cells Hr.none.cells 34)))
    have HB2 := hide (Hb.new w2 Hr.none)
    have hz2 := (HF1.out.more ho2).size
    clear ho2 p0 p1 p2 p3 p4 p5 t0 t1 t2 t3 t4
    go_upto_region 3 with (refine wpList_put_hr rfl (.tmp 6) (.tmp 21) rfl w2.heap.size rfl Hr.none Hr.none rfl HB2.out ?_; intro W9 HW9; go_frame)
    have HF9 := hide (HF2.out.kept HW9.out.only (fun j hj => by omega))
    clear HW9 HB2 HF2 hz2
    rcases hc2 with ⟨e, hlt⟩ | e | e
    · subst e
      have hlt' : (RM : Int) < 96 := by omega
      go_wp2_with fail
      refine (HAW.out _).mono ?_
      rintro e wz ⟨rfl, hoz⟩
      have HOZ := hide (o2 HF9.out.only hoz)
      clear hoz
      go_wp2_with fail
      go_ret
      exact ⟨rfl, HOZ.out⟩
    · subst e
      go_wp2_with fail
      refine (HAW.out _).mono ?_
      rintro e wz ⟨rfl, hoz⟩
      have HOZ := hide (o2 HF9.out.only hoz)
      clear hoz
      go_wp2_with fail
      go_ret
      exact ⟨rfl, HOZ.out⟩
    · subst e
      go_wp2_with fail
      refine (HAW.out _).mono ?_
      rintro e wz ⟨rfl, hoz⟩
      have HOZ := hide (o2 HF9.out.only hoz)
      clear hoz
      go_wp2_with fail
      go_ret
      exact ⟨rfl, HOZ.out⟩
end Go.Proofs.Ytpbpamhlenogoaa
