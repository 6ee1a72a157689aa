/- The walk of DiskLasts. -/
import Derived.Test.YtedanlbbpfaleaaDLasts
namespace Go.Proofs.Ytedanlbbpfaleaa
open Go.RowKit

/-- Spots that a slice leads to, in block B. -/
structure Spots (w : World) (B : Nat) (ao : Option Addr) (n : Nat) (A F : Nat → Int) : Prop where
  at_ : 0 < n → ∃ o, ao = some ⟨B, o, none⟩ ∧ ∀ j, j < n → w.cell? ⟨B, o + j * 2, none⟩ = some (.int .i64 (A j)) ∧ w.cell? ⟨B, o + j * 2 + 1, none⟩ = some (.int .i64 (F j))
  wf : ∀ j, j < n → -9223372036854775808 ≤ A j ∧ A j < 9223372036854775808
  lt : 0 < n → B < w.heap.size
  len : n < 9223372036854775808
theorem Spots.kept {S : Nat → Prop} {w w' : World} {B : Nat} {ao : Option Addr} {n : Nat} {A F : Nat → Int} (h : Spots w B ao n A F) (ho : Only S w w') (hS : 0 < n → ¬ S B) : Spots w' B ao n A F := by
  refine ⟨fun hl => ?_, h.wf, fun hl => Nat.lt_of_lt_of_le (h.lt hl) ho.size, h.len⟩
  obtain ⟨o, e, hc⟩ := h.at_ hl
  exact ⟨o, e, fun j hj => ⟨(ho.cell (p := ⟨B, o + j * 2, none⟩) (h.lt hl) (hS hl)).trans (hc j hj).1, (ho.cell (p := ⟨B, o + j * 2 + 1, none⟩) (h.lt hl) (hS hl)).trans (hc j hj).2⟩⟩
/-- The texts of a row are what the sectors are told by. -/
def Tells (l : List ByteArray) (f : Nat → List UInt8) : Prop := l.length = 24 ∧ ∀ k, k < 24 → (l.getD k ByteArray.empty).data.toList = f k
theorem Tells.set {l : List ByteArray} {f f' : Nat → List UInt8} (h : Tells l f) {k : Nat} (hk : k < 24) {s : ByteArray} (hs : s.data.toList = f' k) (hf : ∀ j, j ≠ k → f' j = f j) : Tells (l.set k s) f' := by
  refine ⟨by simpa using h.1, fun j hj => ?_⟩
  by_cases e : j = k
  · subst e
    rw [← hs]
    have : j < l.length := by rw [h.1]; exact hj
    simp [List.getD_eq_getElem?_getD, this]
  · rw [hf j e, ← h.2 j hj]
    have : ¬ k = j := fun x => e x.symm
    simp [List.getD_eq_getElem?_getD, this]
theorem pick24 (c : Int) (n : Nat) (hn : 0 < n) : ∃ k : Nat, pickP c (n : Int) = (k : Int) ∧ k < n := by
  have h0 : 0 ≤ pickP c (n : Int) := Int.emod_nonneg _ (by omega)
  have h1 : pickP c (n : Int) < (n : Int) := Int.emod_lt_of_pos _ (by omega)
  obtain ⟨k, hk⟩ := Int.eq_ofNat_of_zero_le h0
  exact ⟨k, hk, by omega⟩
theorem put_cur (E : Dk) (k j : Nat) (b : List UInt8) : ((E.put k b).act).cur j = if j = k then b else E.cur j := by
  unfold Dk.cur Dk.put Dk.act
  by_cases e : j = k
  · simp [e]
  · simp [e]
theorem size_len (s : ByteArray) : s.data.toList.length = s.size := by simp
theorem new_cur (n k : Nat) (hk : k < n) : (Dk.new n).cur k = List.replicate 64 0 := by
  unfold Dk.cur Dk.new
  simp only [Option.getD_none, List.getD_eq_getElem?_getD, List.getElem?_replicate, if_pos hk, Option.getD_some]
theorem synced_cur (E : Dk) (k : Nat) (hk : k < E.old.length) : E.act.synced.cur k = E.cur k ∧ E.act.synced.old.getD k [] = E.cur k := by
  have e : E.act.synced.old.getD k [] = E.cur k := by
    have hk' : k < E.act.old.length := hk
    show ((List.range E.act.old.length).map E.act.cur).getD k [] = E.cur k
    rw [List.getD_eq_getElem?_getD, List.getElem?_map, List.getElem?_range hk']
    rfl
  exact ⟨e, e⟩
theorem Tells.congr {l : List ByteArray} {f f' : Nat → List UInt8} (h : Tells l f) (hf : ∀ k, k < 24 → f' k = f k) : Tells l f' := ⟨h.1, fun k hk => by rw [hf k hk]; exact h.2 k hk⟩
set_option maxRecDepth 100000 in
set_option maxHeartbeats 3200000 in
theorem lasts_law (w : World) (act : Int) (ha : -9223372036854775808 ≤ act ∧ act < 9223372036854775808) (B : Nat) (ao : Option Addr) (cp : Nat) (how : List Int) (hI : Ints w B ao how)
    (B1 n1 c1 : Nat) (a1 : Option Addr) (A1 F1 : Nat → Int) (h1 : Spots w B1 a1 n1 A1 F1) (B2 n2 c2 : Nat) (a2 : Option Addr) (A2 F2 : Nat → Int) (h2 : Spots w B2 a2 n2 A2 F2) :
    Calls Try.prog 4 #[.slice a1 n1 c1, .slice a2 n2 c2, .agg #[.int .i64 act, .slice ao how.length cp]] w fun e w' => e = .returned (.bool true) ∧ Only (fun _ => False) w w' := by
  have HI := hide hI
  have H1 := hide h1
  have H2 := hide h2
  have hl1 := h1.len
  have hl2 := h2.len
  clear hI h1 h2
  go_enter Try.func4, Try.ntmps4
  go_wp2_with fail
  refine (new_ok _ 24 (by omega) (by omega)).mono ?_
  rintro e w1 ⟨rfl, hD1, hO1'⟩
  obtain ⟨d, hd⟩ : ∃ d, (w.alloc (.cells #[.int .i64 act, .slice ao how.length cp] 43)).heap.size + 2 = d := ⟨_, rfl⟩
  obtain ⟨m, hm⟩ : ∃ m, (w.alloc (.cells #[.int .i64 act, .slice ao how.length cp] 43)).heap.size + 1 = m := ⟨_, rfl⟩
  obtain ⟨g, hg⟩ : ∃ g, (w.alloc (.cells #[.int .i64 act, .slice ao how.length cp] 43)).heap.size = g := ⟨_, rfl⟩
  have hsz : (w.alloc (.cells #[.int .i64 act, .slice ao how.length cp] 43)).heap.size = w.heap.size + 1 := by simp
  rw [hd, hm, hg] at hD1
  rw [hd]
  have HS : Hid (Newer w d g m) := fun i hi ho => by unfold own at ho; omega
  have hO1 : Only (fun _ => False) w w1 := (Only.alloc _ _ _).trans hO1' (fun _ _ h => h)
  obtain ⟨w2, hmk, hcv, hO2⟩ := zeros_made w1
  obtain ⟨w3, hmk3, hS3, hO3⟩ := srow_made w2
  obtain ⟨sz, hze⟩ : ∃ sz : ByteArray, (⟨(List.replicate 64 (0 : UInt8)).toArray⟩ : ByteArray) = sz := ⟨_, rfl⟩
  have hzl : sz.data.toList = List.replicate 64 0 := by rw [← hze]
  rw [hze] at hcv
  obtain ⟨q, hq⟩ : ∃ q, w2.heap.size = q := ⟨_, rfl⟩
  have hqd : ∀ i, own d g m i → i < q := by
    intro i hi
    have h1 := hD1.lt
    have h2 := hD1.old.lt
    have h3 := hD1.map.lt
    have := hO2.size
    unfold own at hi
    omega
  have hqw : w.heap.size ≤ q := by have := hO1.size; have := hO2.size; omega
  rw [hq] at hmk3 hS3
  have HQ := hide hqd
  have HS3 := hide hS3
  have HD3 := hide ((hD1.same hO2).same hO3)
  have HO3 := hide ((hO1.trans hO2 (fun _ _ h => h)).trans hO3 (fun _ _ h => h))
  have HZ := hide hzl
  clear hd hm hg hsz hD1 hO1' hO1 hO2 hO3 hze hzl hS3 hqd hq
  go_wp2_with fail
  go_loopw [13] (fun y wr => ∃ (j : Nat) (l : List ByteArray), j ≤ 24 ∧ y = .int .i64 (j : Int) ∧ Hid (SRow wr q l ∧ l.length = 24 ∧ ∀ i, i < j → l.getD i ByteArray.empty = sz) ∧ Hid (Dsk wr d g m (Dk.new 24)) ∧ Hid (Only (fun _ => False) w wr)) (fun y _ => 24 - (intOf y).toNat)
  case atStart => exact ⟨0, _, by omega, rfl, hide ⟨HS3.out, by simp, fun i hi => by omega⟩, HD3, HO3⟩
  case round =>
    obtain ⟨j, l, hj, rfl, HL, HD, HO⟩ := hrel
    by_cases hlt : j < 24
    · have hc := HL.out.1.cell (j := j) (by rw [HL.out.2.1]; exact hlt)
      have hf := HL.out.1.frozen j
      obtain ⟨hs1, hs2⟩ := HL.out.1.set j sz
      have HS1 := hide hs1
      have HS2 := hide hs2
      have hj0 : (0 : Int) ≤ (j : Int) := by omega
      have hj1 : (j : Int) < 24 := by omega
      clear hs1 hs2
      go_wp2_with fail
      go_roundw
      case rel =>
        refine ⟨j + 1, l.set j sz, by omega, by go_num, hide ⟨HS1.out, by simpa using HL.out.2.1, fun i hi => ?_⟩, hide (HD.out.kept HS2.out ?_ ?_ ?_), hide (HO.out.trans HS2.out (fun i hi e => by omega))⟩
        · by_cases e : i = j
          · subst e
            have : i < l.length := by rw [HL.out.2.1]; exact hlt
            simp [List.getD_eq_getElem?_getD, this]
          · have h9 := HL.out.2.2 i (by omega)
            have : ¬ j = i := fun x => e x.symm
            rw [← h9]
            simp [List.getD_eq_getElem?_getD, this]
        · intro e; have := HQ.out d (.inl rfl); omega
        · intro e; have := HQ.out g (.inr (.inl rfl)); omega
        · intro e; have := HQ.out m (.inr (.inr rfl)); omega
      case measure => simp [intOf]; omega
    · have ej : j = 24 := by omega
      have hT : Tells l (Dk.new 24).cur := by
        refine ⟨HL.out.2.1, fun k hk => ?_⟩
        rw [HL.out.2.2 k (by omega), HZ.out, new_cur 24 k hk]
      have HT := hide hT
      have HR := hide HL.out.1
      clear hT HL ej
      go_wp2_with fail
      go_loopw [14] (fun y wr2 => ∃ (i : Nat) (l2 : List ByteArray) (E : Dk), i ≤ n1 ∧ y = .int .i64 (i : Int) ∧ Hid (SRow wr2 q l2) ∧ Hid (Tells l2 E.cur) ∧ Hid (Dsk wr2 d g m E) ∧ Hid (E.dead = false ∧ E.armed = 0 ∧ E.old.length = 24) ∧ Hid (Only (fun _ => False) w wr2)) (fun y _ => n1 - (intOf y).toNat)
      case atStart => exact ⟨0, l, Dk.new 24, by omega, rfl, HR, HT, HD, hide ⟨rfl, rfl, by simp [Dk.new]⟩, HO⟩
      case round =>
        obtain ⟨i, l2, E, hi, rfl, HR2, HT2, HD2, HE2, HO2⟩ := hrel
        by_cases hil : i < n1
        · have hsp := H1.out.kept HO2.out (fun _ h => h)
          obtain ⟨of, hao, hcs⟩ := hsp.at_ (by omega)
          obtain ⟨hcA, hcF⟩ := hcs i hil
          have hAw := hsp.wf i hil
          obtain ⟨aa, haa⟩ : ∃ aa, A1 i = aa := ⟨_, rfl⟩
          obtain ⟨fv, hfv⟩ : ∃ fv, F1 i = fv := ⟨_, rfl⟩
          rw [haa] at hcA hAw
          rw [hfv] at hcF
          subst hao
          have hpk := fun w => pick_any w aa 24 hAw (by omega) (by omega)
          obtain ⟨k, hk, hk24⟩ := pick24 aa 24 (by omega)
          have hk' : pickP aa 24 = (k : Int) := hk
          rw [hk'] at hpk
          have hfl := fun w => fill_any w fv
          have hfz := fill_size fv
          obtain ⟨sf, hsf⟩ : ∃ sf : ByteArray, (⟨(fillB fv).toArray⟩ : ByteArray) = sf := ⟨_, rfl⟩
          have hsd : sf.data.toList = fillB fv := by rw [← hsf]
          rw [hsf] at hfl hfz
          have HSd := hide hsd
          clear hsp hcs haa hfv hk hk' hsf hsd
          go_wp2_with (first | (go_at_call 15; refine (hpk _).mono ?_; rintro e w' ⟨rfl, hw⟩; obtain rfl := hw.symm; clear hw))
          refine (hfl _).mono ?_
          rintro e w4 ⟨rfl, hO4⟩
          have hS4 := HR2.out.kept hO4 (fun h => h)
          have hc4 := hS4.cell (j := k) (by rw [HT2.out.1]; exact hk24)
          have hf4 := hS4.frozen k
          obtain ⟨hS5, hO5⟩ := hS4.set k sf
          have hD5 := (HD2.out.same hO4).kept hO5 (fun e => by have := HQ.out d (.inl rfl); omega) (fun e => by have := HQ.out g (.inr (.inl rfl)); omega) (fun e => by have := HQ.out m (.inr (.inr rfl)); omega)
          have hc5 := hS5.cell (j := k) (by simp [HT2.out.1, hk24])
          have hgk : (l2.set k sf).getD k ByteArray.empty = sf := by
            have : k < l2.length := by rw [HT2.out.1]; exact hk24
            simp [List.getD_eq_getElem?_getD, this]
          rw [hgk] at hc5
          have hw := write_any _ d g m E hD5 (k : Int) sf (by omega) (by omega)
          rw [HSd.out, write_one HE2.out.1 k _ (by rw [HE2.out.2.2]; exact hk24) (fillB_len _), HE2.out.2.1] at hw
          have HS5 := hide hS5
          have HO5 : Hid (Only (fun _ => False) w (w4.setCell ⟨q, k, none⟩ (.string sf))) := (HO2.out.trans hO4 (fun _ _ h => h)).trans hO5 (fun i hi e => by omega)
          have hk0 : (0 : Int) ≤ (k : Int) := by omega
          have hk1 : (k : Int) < 24 := by omega
          clear hS4 hS5 hO5 hD5 hgk hO4
          go_wp2_with fail
          refine hw.mono ?_
          rintro e w6 ⟨rfl, hD6, hO6⟩
          have HX : Hid (SRow w6 q (l2.set k sf) ∧ Tells (l2.set k sf) ((E.put k (fillB fv)).act).cur ∧ Dsk w6 d g m ((E.put k (fillB fv)).act) ∧ (((E.put k (fillB fv)).act).dead = false ∧ ((E.put k (fillB fv)).act).armed = 0 ∧ ((E.put k (fillB fv)).act).old.length = 24) ∧ Only (fun _ => False) w w6) := by
            refine ⟨HS5.out.kept hO6 (fun ho => by have := HQ.out q ho; omega), HT2.out.set hk24 (by rw [HSd.out, put_cur]; simp) (fun j hj => by rw [put_cur, if_neg hj]), hD6, ⟨?_, ?_, HE2.out.2.2⟩, HO5.out.trans hO6 HS.out⟩
            · simp [Dk.act, Dk.put, HE2.out.1, HE2.out.2.1]
            · simp [Dk.act, Dk.put, HE2.out.2.1]
          clear hw hD6 hO6 HS5 HO5 hc4 hf4 hc5
          go_wp2_with fail
          go_roundw
          case rel => exact ⟨i + 1, _, _, by omega, by go_num, hide HX.out.1, hide HX.out.2.1, hide HX.out.2.2.1, hide HX.out.2.2.2.1, hide HX.out.2.2.2.2⟩
          case measure => simp [intOf]; omega
        · have hsy := sync_any wr d g m E HD2.out
          have es : E.sync = (E.act.synced, 0) := by unfold Dk.sync; simp [HE2.out.1, HE2.out.2.1]
          rw [es] at hsy
          have hpk := fun w => pick_any w act 40 ha (by omega) (by omega)
          obtain ⟨p, hp, hp40⟩ := pick24 act 40 (by omega)
          have hp' : pickP act 40 = (p : Int) := hp
          rw [hp'] at hpk
          obtain ⟨E1, hE1⟩ : ∃ E1, E.act.synced = E1 := ⟨_, rfl⟩
          rw [hE1] at hsy
          have hE1f : E1.dead = false ∧ E1.old.length = 24 ∧ (∀ k, k < 24 → E1.cur k = E.cur k ∧ E1.old.getD k [] = E.cur k) := by
            rw [← hE1]
            refine ⟨?_, by simp [Dk.synced, Dk.act, HE2.out.2.2], fun k hk => synced_cur E k (by rw [HE2.out.2.2]; exact hk)⟩
            simp [Dk.synced, Dk.act, HE2.out.1, HE2.out.2.1]
          have HE1 := hide hE1f
          clear es hp hp' hE1 hE1f
          go_wp2_with fail
          refine hsy.mono ?_
          rintro e w4 ⟨rfl, hD4, hO4⟩
          have HD4 := hide hD4
          have HR4 := hide (HR2.out.kept hO4 (fun ho => by have := HQ.out q ho; omega))
          have HO4 := hide (HO2.out.trans hO4 HS.out)
          clear hsy hD4 hO4
          go_wp2_with (first | (go_at_call 15; refine (hpk _).mono ?_; rintro e w' ⟨rfl, hw⟩; obtain rfl := hw.symm; clear hw))
          have har := arm_any w4 d g m E1 HD4.out (p : Int) (by omega)
          have ea : E1.arm (p : Int) = ({ E1 with armed := (p : Int) }, 0) := by unfold Dk.arm; simp [HE1.out.1]
          rw [ea] at har
          obtain ⟨E2, hE2⟩ : ∃ E2 : Dk, ({ E1 with armed := (p : Int) } : Dk) = E2 := ⟨_, rfl⟩
          simp only [hE2] at har
          have hE2f : E2.dead = false ∧ E2.old.length = 24 ∧ (∀ k, k < 24 → E2.cur k = E.cur k ∧ E2.old.getD k [] = E.cur k) := by
            rw [← hE2]
            exact HE1.out
          have HE3 := hide hE2f
          clear ea hE2 hE2f hpk
          refine har.mono ?_
          rintro e w5 ⟨rfl, hD5, hO5⟩
          have hR5 := HR4.out.kept hO5 (fun ho => by have := HQ.out q ho; omega)
          have hO5w := HO4.out.trans hO5 HS.out
          obtain ⟨w6, hmk6, hS6, hO6⟩ := srow_made w5
          obtain ⟨r, hr⟩ : ∃ r, w5.heap.size = r := ⟨_, rfl⟩
          rw [hr] at hmk6 hS6
          have hR6 := hR5.kept hO6 (fun h => h)
          obtain ⟨w7, hcp7, hS7, hO7⟩ := srow_copied hS6 hR6 (by simp) HT2.out.1
          have hqr : q < r := by have := hR5.lt; omega
          have hrd : ∀ i, own d g m i → i < r := fun i hi => by have := HQ.out i hi; omega
          have HR7 := hide (hR6.kept hO7 (fun e => by omega))
          have HS7 := hide hS7
          have HD7 := hide ((hD5.same hO6).kept hO7 (fun e => by have := hrd d (.inl rfl); omega) (fun e => by have := hrd g (.inr (.inl rfl)); omega) (fun e => by have := hrd m (.inr (.inr rfl)); omega))
          have HO7 : Hid (Only (fun _ => False) w w7) := (hO5w.trans hO6 (fun _ _ h => h)).trans hO7 (fun i hi e => by omega)
          have HRD := hide hrd
          have HTo : Hid (Tells l2 (fun k => E2.old.getD k [])) := HT2.out.congr (fun k hk => (HE3.out.2.2 k hk).2)
          have HTl : Hid (Tells l2 E2.cur) := HT2.out.congr (fun k hk => (HE3.out.2.2 k hk).1)
          clear har hD5 hO5 hR5 hO5w hS6 hO6 hr hR6 hS7 hO7 hrd HR4 HD4 HO4 HE1
          go_wp2_with fail
          go_loopw [17] (fun y wr3 => ∃ (i : Nat) (l3 : List ByteArray) (F : Dk), i ≤ n2 ∧ y = .int .i64 (i : Int) ∧ Hid (SRow wr3 q l2) ∧ Hid (SRow wr3 r l3) ∧ Hid (Tells l3 F.cur) ∧ Hid (F.old = E2.old ∧ Dsk wr3 d g m F) ∧ Hid (Only (fun _ => False) w wr3)) (fun y _ => n2 - (intOf y).toNat)
          case atStart => exact ⟨0, l2, E2, by omega, rfl, HR7, HS7, HTl, hide ⟨rfl, HD7.out⟩, HO7⟩
          case round =>
            obtain ⟨i, l3, F, hi, rfl, HQ3, HR3, HT3, HF, HO3⟩ := hrel
            by_cases hil : i < n2
            · have hsp := H2.out.kept HO3.out (fun _ h => h)
              obtain ⟨of, hao, hcs⟩ := hsp.at_ (by omega)
              obtain ⟨hcA, hcF⟩ := hcs i hil
              have hAw := hsp.wf i hil
              obtain ⟨aa, haa⟩ : ∃ aa, A2 i = aa := ⟨_, rfl⟩
              obtain ⟨fv, hfv⟩ : ∃ fv, F2 i = fv := ⟨_, rfl⟩
              rw [haa] at hcA hAw
              rw [hfv] at hcF
              have HFv := hide hfv
              subst hao
              have hpk := fun w => pick_any w aa 24 hAw (by omega) (by omega)
              obtain ⟨k, hk, hk24⟩ := pick24 aa 24 (by omega)
              have hk' : pickP aa 24 = (k : Int) := hk
              rw [hk'] at hpk
              have hfl := fun w => fill_any w fv
              have hfz := fill_size fv
              obtain ⟨sf, hsf⟩ : ∃ sf : ByteArray, (⟨(fillB fv).toArray⟩ : ByteArray) = sf := ⟨_, rfl⟩
              have hsd : sf.data.toList = fillB fv := by rw [← hsf]
              rw [hsf] at hfl hfz
              have HSd := hide hsd
              clear hsp hcs haa hfv hk hk' hsf hsd
              cases hdead : F.dead
              · by_cases harm : F.armed = 1
                · skip
                  have hFn : F.write (k : Int) (fillB fv) = ((F.put k (fillB fv)).act, 5) := by rw [write_one hdead k _ (by rw [HF.out.1, HE3.out.2.1]; exact hk24) (fillB_len _)]; simp [harm]
                  have hGd : ((F.put k (fillB fv)).act).dead = true := by
                    have : (F.put k (fillB fv)).armed = F.armed := rfl
                    simp only [Dk.act, this]
                    simp [harm]
                  obtain ⟨G, hG⟩ : ∃ G, (F.put k (fillB fv)).act = G := ⟨_, rfl⟩
                  have HGc : Hid (∀ j, G.cur j = if j = k then fillB fv else F.cur j) := fun j => by rw [← hG]; exact put_cur F k j _
                  have HGo : Hid (G.old = E2.old) := by unfold Hid; rw [← hG]; exact HF.out.1
                  rw [hG] at hFn hGd
                  have HFn := hide hFn
                  have HGd := hide hGd
                  have hdd := dead_any wr d g m F HF.out.2
                  rw [hdead] at hdd
                  clear hFn hGd hG hdead harm
                  go_wp2_with (first
                    | (go_at_call 15; refine (hpk _).mono ?_; rintro e w' ⟨rfl, hw⟩; obtain rfl := hw.symm; clear hw)
                    | (go_at_call 20; refine hdd.mono ?_; rintro e w' ⟨rfl, hw⟩; obtain rfl := hw.symm; clear hw))
                  refine (hfl _).mono ?_
                  rintro e w8 ⟨rfl, hO8⟩
                  have hww := write_any w8 d g m F (HF.out.2.same hO8) (k : Int) sf (by omega) (by omega)
                  rw [HSd.out, HFn.out] at hww
                  clear hdd
                  go_wp2_with fail
                  refine hww.mono ?_
                  rintro e w9 ⟨rfl, hD9, hO9⟩
                  have hdd := dead_any w9 d g m G hD9
                  rw [HGd.out] at hdd
                  have HD9 := hide hD9
                  have HO9 := hide ((HO3.out.trans hO8 (fun _ _ h => h)).trans hO9 HS.out)
                  have HQ9 := hide ((HQ3.out.kept hO8 (fun h => h)).kept hO9 (fun ho => by have := HQ.out q ho; omega))
                  have HR9 := hide ((HR3.out.kept hO8 (fun h => h)).kept hO9 (fun ho => by have := HRD.out r ho; omega))
                  have hcF9 := (((H2.out.kept HO9.out (fun _ h => h)).at_ (by omega))).choose_spec.2 i hil
                  clear hww hD9 hO9 hO8
                  obtain ⟨of9, hof9, hcs9⟩ := (H2.out.kept HO9.out (fun _ h => h)).at_ (by omega)
                  obtain rfl : of9 = of := by cases hof9; rfl
                  have hcf9 := (hcs9 i hil).2
                  rw [HFv.out] at hcf9
                  clear hcs9 hof9 hcF9
                  go_wp2_with (first
                    | (go_at_call 20; refine hdd.mono ?_; rintro e w' ⟨rfl, hw⟩; obtain rfl := hw.symm; clear hw))
                  refine (hfl _).mono ?_
                  rintro e w10 ⟨rfl, hO10⟩
                  have hS10 := HR9.out.kept hO10 (fun h => h)
                  have hc10 := hS10.cell (j := k) (by rw [HT3.out.1]; exact hk24)
                  have hf10 := hS10.frozen k
                  obtain ⟨hS11, hO11⟩ := hS10.set k sf
                  have HX : Hid (SRow (w10.setCell ⟨r, k, none⟩ (.string sf)) q l2 ∧ SRow (w10.setCell ⟨r, k, none⟩ (.string sf)) r (l3.set k sf) ∧ Tells (l3.set k sf) G.cur ∧ (G.old = E2.old ∧ Dsk (w10.setCell ⟨r, k, none⟩ (.string sf)) d g m G) ∧ Only (fun _ => False) w (w10.setCell ⟨r, k, none⟩ (.string sf))) := by
                    refine ⟨(HQ9.out.kept hO10 (fun h => h)).kept hO11 (fun e => by omega), hS11, HT3.out.set hk24 (by rw [HSd.out, HGc.out]; simp) (fun j hj => by rw [HGc.out, if_neg hj]), ⟨HGo.out, (HD9.out.same hO10).kept hO11 (fun e => by have := HRD.out d (.inl rfl); omega) (fun e => by have := HRD.out g (.inr (.inl rfl)); omega) (fun e => by have := HRD.out m (.inr (.inr rfl)); omega)⟩, (HO9.out.trans hO10 (fun _ _ h => h)).trans hO11 (fun i hi e => by omega)⟩
                  have hk0 : (0 : Int) ≤ (k : Int) := by omega
                  have hk1 : (k : Int) < 24 := by omega
                  clear hdd hS10 hS11 hO11 hO10 HD9 HO9 HQ9 HR9
                  go_wp2_with fail
                  go_roundw
                  case rel => exact ⟨i + 1, _, G, by omega, by go_num, hide HX.out.1, hide HX.out.2.1, hide HX.out.2.2.1, hide HX.out.2.2.2.1, hide HX.out.2.2.2.2⟩
                  case measure => simp [intOf]; omega
                · skip
                  have hFn : F.write (k : Int) (fillB fv) = ((F.put k (fillB fv)).act, 0) := by rw [write_one hdead k _ (by rw [HF.out.1, HE3.out.2.1]; exact hk24) (fillB_len _)]; simp [harm]
                  have hGd : ((F.put k (fillB fv)).act).dead = false := by
                    have : (F.put k (fillB fv)).armed = F.armed := rfl
                    simp only [Dk.act, this]
                    by_cases h0 : F.armed = 0
                    · simp [h0, Dk.put, hdead]
                    · simp [h0, harm]
                  obtain ⟨G, hG⟩ : ∃ G, (F.put k (fillB fv)).act = G := ⟨_, rfl⟩
                  have HGc : Hid (∀ j, G.cur j = if j = k then fillB fv else F.cur j) := fun j => by rw [← hG]; exact put_cur F k j _
                  have HGo : Hid (G.old = E2.old) := by unfold Hid; rw [← hG]; exact HF.out.1
                  rw [hG] at hFn hGd
                  have HFn := hide hFn
                  have HGd := hide hGd
                  have hdd := dead_any wr d g m F HF.out.2
                  rw [hdead] at hdd
                  clear hFn hGd hG hdead harm
                  go_wp2_with (first
                    | (go_at_call 15; refine (hpk _).mono ?_; rintro e w' ⟨rfl, hw⟩; obtain rfl := hw.symm; clear hw)
                    | (go_at_call 20; refine hdd.mono ?_; rintro e w' ⟨rfl, hw⟩; obtain rfl := hw.symm; clear hw))
                  refine (hfl _).mono ?_
                  rintro e w8 ⟨rfl, hO8⟩
                  have hww := write_any w8 d g m F (HF.out.2.same hO8) (k : Int) sf (by omega) (by omega)
                  rw [HSd.out, HFn.out] at hww
                  clear hdd
                  go_wp2_with fail
                  refine hww.mono ?_
                  rintro e w9 ⟨rfl, hD9, hO9⟩
                  have hdd := dead_any w9 d g m G hD9
                  rw [HGd.out] at hdd
                  have HD9 := hide hD9
                  have HO9 := hide ((HO3.out.trans hO8 (fun _ _ h => h)).trans hO9 HS.out)
                  have HQ9 := hide ((HQ3.out.kept hO8 (fun h => h)).kept hO9 (fun ho => by have := HQ.out q ho; omega))
                  have HR9 := hide ((HR3.out.kept hO8 (fun h => h)).kept hO9 (fun ho => by have := HRD.out r ho; omega))
                  have hcF9 := (((H2.out.kept HO9.out (fun _ h => h)).at_ (by omega))).choose_spec.2 i hil
                  clear hww hD9 hO9 hO8
                  obtain ⟨of9, hof9, hcs9⟩ := (H2.out.kept HO9.out (fun _ h => h)).at_ (by omega)
                  obtain rfl : of9 = of := by cases hof9; rfl
                  have hcf9 := (hcs9 i hil).2
                  rw [HFv.out] at hcf9
                  clear hcs9 hof9 hcF9
                  go_wp2_with (first
                    | (go_at_call 20; refine hdd.mono ?_; rintro e w' ⟨rfl, hw⟩; obtain rfl := hw.symm; clear hw))
                  refine (hfl _).mono ?_
                  rintro e w10 ⟨rfl, hO10⟩
                  have hS10 := HR9.out.kept hO10 (fun h => h)
                  have hc10 := hS10.cell (j := k) (by rw [HT3.out.1]; exact hk24)
                  have hf10 := hS10.frozen k
                  obtain ⟨hS11, hO11⟩ := hS10.set k sf
                  have HX : Hid (SRow (w10.setCell ⟨r, k, none⟩ (.string sf)) q l2 ∧ SRow (w10.setCell ⟨r, k, none⟩ (.string sf)) r (l3.set k sf) ∧ Tells (l3.set k sf) G.cur ∧ (G.old = E2.old ∧ Dsk (w10.setCell ⟨r, k, none⟩ (.string sf)) d g m G) ∧ Only (fun _ => False) w (w10.setCell ⟨r, k, none⟩ (.string sf))) := by
                    refine ⟨(HQ9.out.kept hO10 (fun h => h)).kept hO11 (fun e => by omega), hS11, HT3.out.set hk24 (by rw [HSd.out, HGc.out]; simp) (fun j hj => by rw [HGc.out, if_neg hj]), ⟨HGo.out, (HD9.out.same hO10).kept hO11 (fun e => by have := HRD.out d (.inl rfl); omega) (fun e => by have := HRD.out g (.inr (.inl rfl)); omega) (fun e => by have := HRD.out m (.inr (.inr rfl)); omega)⟩, (HO9.out.trans hO10 (fun _ _ h => h)).trans hO11 (fun i hi e => by omega)⟩
                  have hk0 : (0 : Int) ≤ (k : Int) := by omega
                  have hk1 : (k : Int) < 24 := by omega
                  clear hdd hS10 hS11 hO11 hO10 HD9 HO9 HQ9 HR9
                  go_wp2_with fail
                  go_roundw
                  case rel => exact ⟨i + 1, _, G, by omega, by go_num, hide HX.out.1, hide HX.out.2.1, hide HX.out.2.2.1, hide HX.out.2.2.2.1, hide HX.out.2.2.2.2⟩
                  case measure => simp [intOf]; omega
              · have hdd := dead_any wr d g m F HF.out.2
                rw [hdead] at hdd
                have HDD := hide hdead
                clear hdead
                go_wp2_with (first
                  | (go_at_call 15; refine (hpk _).mono ?_; rintro e w' ⟨rfl, hw⟩; obtain rfl := hw.symm; clear hw)
                  | (go_at_call 20; refine hdd.mono ?_; rintro e w' ⟨rfl, hw⟩; obtain rfl := hw.symm; clear hw))
                refine (hfl _).mono ?_
                rintro e w8 ⟨rfl, hO8⟩
                have hww := write_dead w8 d g m F (HF.out.2.same hO8) HDD.out (.int .i64 (k : Int)) (.string sf)
                have hdd8 := dead_any w8 d g m F (HF.out.2.same hO8)
                rw [HDD.out] at hdd8
                have HX : Hid (SRow w8 q l2 ∧ SRow w8 r l3 ∧ Tells l3 F.cur ∧ (F.old = E2.old ∧ Dsk w8 d g m F) ∧ Only (fun _ => False) w w8) := ⟨HQ3.out.kept hO8 (fun h => h), HR3.out.kept hO8 (fun h => h), HT3.out, ⟨HF.out.1, HF.out.2.same hO8⟩, HO3.out.trans hO8 (fun _ _ h => h)⟩
                clear hdd hO8
                go_wp2_with (first
                  | (go_at_call 17; refine hww.mono ?_; rintro e w' ⟨rfl, hw⟩; obtain rfl := hw.symm; clear hw)
                  | (go_at_call 20; refine hdd8.mono ?_; rintro e w' ⟨rfl, hw⟩; obtain rfl := hw.symm; clear hw))
                go_roundw
                case rel => exact ⟨i + 1, l3, F, by omega, by go_num, hide HX.out.1, hide HX.out.2.1, hide HX.out.2.2.1, hide HX.out.2.2.2.1, hide HX.out.2.2.2.2⟩
                case measure => simp [intOf]; omega
            · have hcr := crash_any wr d g m F HF.out.2 B ao cp how (HI.out.kept HO3.out (fun _ h => h)) (fun hl ho => HS.out B (HI.out.lt hl) ho)
              obtain ⟨G, hG⟩ : ∃ G, F.crash how = G := ⟨_, rfl⟩
              rw [hG] at hcr
              have hGf : G.dead = false ∧ G.pend = [] ∧ G.old.length = 24 := by
                rw [← hG]
                refine ⟨rfl, ?_, by simp [Dk.crash, falls_len, HF.out.1, HE3.out.2.1]⟩
                unfold Dk.pend
                simp [Dk.crash]
              have HGc : Hid (∀ k, ∃ b, b ≤ 64 ∧ G.cur k = (F.cur k).take b ++ (F.old.getD k []).drop b) := fun k => by rw [← hG]; exact crash_get F how k
              have HG := hide hGf
              clear hG hGf
              go_wp2_with fail
              refine hcr.mono ?_
              rintro e w8 ⟨rfl, hD8, hO8⟩
              have HD8 := hide hD8
              have HO8 := hide (HO3.out.trans hO8 HS.out)
              have HQ8 := hide (HQ3.out.kept hO8 (fun ho => by have := HQ.out q ho; omega))
              have HR8 := hide (HR3.out.kept hO8 (fun ho => by have := HRD.out r ho; omega))
              have hdd := dead_any w8 d g m G hD8
              rw [HG.out.1] at hdd
              have hpp := pending_any w8 d g m G hD8
              rw [HG.out.2.1] at hpp
              clear hcr hD8 hO8
              go_wp2_with (first
                | (go_at_call 20; refine hdd.mono ?_; rintro e w' ⟨rfl, hw⟩; obtain rfl := hw.symm; clear hw))
              refine hpp.mono ?_
              rintro e w9 ⟨gg, cap, rfl, _, hO9⟩
              have HD9 := hide (HD8.out.same hO9)
              have HO9 := hide (HO8.out.trans hO9 (fun _ _ h => h))
              have HQ9 := hide (HQ8.out.kept hO9 (fun h => h))
              have HR9 := hide (HR8.out.kept hO9 (fun h => h))
              clear hdd hpp hO9 HD8 HO8 HQ8 HR8
              go_wp2_with fail
              go_loopw [21] (fun y wr4 => ∃ (k : Nat), k ≤ 24 ∧ y = .int .i64 (k : Int) ∧ Hid (SRow wr4 q l2) ∧ Hid (SRow wr4 r l3) ∧ Hid (Dsk wr4 d g m G) ∧ Hid (Only (fun _ => False) w wr4)) (fun y _ => 24 - (intOf y).toNat)
              case atStart => exact ⟨0, by omega, rfl, HQ9, HR9, HD9, HO9⟩
              case round =>
                obtain ⟨k, hk, rfl, HQ4, HR4, HD4, HO4⟩ := hrel
                by_cases hk24 : k < 24
                · have hrd := read_ok wr d g m G HD4.out k 1 HG.out.1 (by rw [HG.out.2.2]; omega)
                  have e1 : G.bytes k 1 = G.cur k := by unfold Dk.bytes; simp
                  rw [e1] at hrd
                  obtain ⟨ss, hss⟩ : ∃ ss : ByteArray, (⟨(G.cur k).toArray⟩ : ByteArray) = ss := ⟨_, rfl⟩
                  have hsd : ss.data.toList = G.cur k := by rw [← hss]
                  have hsz : ss.size = 64 := by
                    have := HD4.out.ok.cur64 (k := k) (by rw [HG.out.2.2]; exact hk24)
                    rw [← hsd, size_len] at this
                    exact this
                  rw [hss] at hrd
                  obtain ⟨so, hso⟩ : ∃ so, l2.getD k ByteArray.empty = so := ⟨_, rfl⟩
                  obtain ⟨sl, hsl⟩ : ∃ sl, l3.getD k ByteArray.empty = sl := ⟨_, rfl⟩
                  have hsod : so.data.toList = F.old.getD k [] := by rw [← hso, HTo.out.2 k hk24, HF.out.1]
                  have hsld : sl.data.toList = F.cur k := by rw [← hsl]; exact HT3.out.2 k hk24
                  have hsoz : so.size = 64 := by
                    have := HF.out.2.ok.o64 k (by rw [HF.out.1, HE3.out.2.1]; exact hk24)
                    rw [← hsod, size_len] at this
                    exact this
                  have hslz : sl.size = 64 := by
                    have := HF.out.2.ok.cur64 (k := k) (by rw [HF.out.1, HE3.out.2.1]; exact hk24)
                    rw [← hsld, size_len] at this
                    exact this
                  obtain ⟨b0, hb0, hbe⟩ := HGc.out k
                  have HEq : Hid (ss = sl.extract 0 b0 ++ so.extract b0 64) := by
                    unfold Hid
                    apply ByteArray.ext
                    simp only [ByteArray.data_append, ByteArray.data_extract]
                    apply Array.ext'
                    rw [hsd, hbe, ← hsld, ← hsod]
                    have : (so.data.toList.drop b0).length ≤ 64 - b0 := by
                      have : so.data.toList.length = 64 := by rw [size_len]; exact hsoz
                      simp only [List.length_drop]
                      omega
                    simp [List.extract_eq_take_drop, List.take_of_length_le this]
                  have HSO := hide hso
                  have HSL := hide hsl
                  clear e1 hss hsd hso hsl hsod hsld hbe
                  go_wp2_with fail
                  refine hrd.mono ?_
                  rintro e w10 ⟨rfl, hO10⟩
                  have hQ10 := HQ4.out.kept hO10 (fun h => h)
                  have hR10 := HR4.out.kept hO10 (fun h => h)
                  have HD10 := hide (HD4.out.same hO10)
                  have HO10 := hide (HO4.out.trans hO10 (fun _ _ h => h))
                  have hcq := hQ10.cell (j := k) (by rw [HTo.out.1]; exact hk24)
                  have hcr := hR10.cell (j := k) (by rw [HT3.out.1]; exact hk24)
                  rw [HSO.out] at hcq
                  rw [HSL.out] at hcr
                  have HQ10 := hide hQ10
                  have HR10 := hide hR10
                  clear hrd hO10 hQ10 hR10
                  have hk0 : (0 : Int) ≤ (k : Int) := by omega
                  have hk1 : (k : Int) < 24 := by omega
                  go_wp2_with fail
                  go_loopw [24, 25] (fun x y wr5 => ∃ (t : Bool) (bb : Nat), bb ≤ 65 ∧ x = .bool t ∧ y = .int .i64 (bb : Int) ∧ Hid (b0 < bb → t = true) ∧ Hid (Only (fun _ => False) w10 wr5)) (fun _ y _ => 65 - (intOf y).toNat)
                  case atStart => exact ⟨false, 0, by omega, rfl, rfl, hide (fun h => by omega), hide (Only.refl _ _)⟩
                  case round =>
                    obtain ⟨t, bb, hbb, rfl, rfl, HTT, HO5⟩ := hrel
                    have hcq5 := (HO5.out.cell (p := ⟨q, k, none⟩) (World.block_lt_of_cell? _ _ hcq) (fun h => h)).trans hcq
                    have hcr5 := (HO5.out.cell (p := ⟨r, k, none⟩) (World.block_lt_of_cell? _ _ hcr) (fun h => h)).trans hcr
                    by_cases hbl : bb < 65
                    · have hb0' : (0 : Int) ≤ (bb : Int) := by omega
                      have hb1 : (bb : Int) ≤ 64 := by omega
                      cases t
                      · have HE5 : Hid (b0 = bb → (ss.toList == (sl.extract 0 bb ++ so.extract bb 64).toList) = true) := fun e => by subst e; rw [← HEq.out]; exact beq_self_eq_true _
                        go_wp2_with fail
                        go_region
                        go_wp2_with fail
                        go_roundw
                        case rel =>
                          refine ⟨_, bb + 1, by omega, rfl, by go_num, hide (fun h => ?_), hide (HO5.out.trans (Only.drew _ _) (fun _ _ h => h))⟩
                          by_cases e : b0 = bb
                          · exact HE5.out e
                          · have := HTT.out (by omega)
                            cases this
                        case measure => simp [intOf]; omega
                      · go_wp2_with fail
                        go_region
                        go_wp2_with fail
                        go_roundw
                        case rel => exact ⟨true, bb + 1, by omega, rfl, by go_num, hide (fun _ => rfl), hide (HO5.out.trans (Only.drew _ _) (fun _ _ h => h))⟩
                        case measure => simp [intOf]; omega
                    · have ht : t = true := HTT.out (by omega)
                      subst ht
                      have HX : Hid (SRow wr q l2 ∧ SRow wr r l3 ∧ Dsk wr d g m G ∧ Only (fun _ => False) w wr) := ⟨HQ10.out.kept HO5.out (fun h => h), HR10.out.kept HO5.out (fun h => h), HD10.out.same HO5.out, HO10.out.trans HO5.out (fun _ _ h => h)⟩
                      go_wp2_with fail
                      go_roundw
                      case rel => exact ⟨k + 1, by omega, by go_num, hide HX.out.1, hide HX.out.2.1, hide HX.out.2.2.1, hide HX.out.2.2.2⟩
                      case measure => simp [intOf]; omega
                · go_wp2_with fail
                  refine (awake_any _).mono ?_
                  rintro e w10 ⟨rfl, hO10⟩
                  have HO10 := hide (HO4.out.trans hO10 (fun _ _ h => h))
                  clear hO10
                  go_wp2_with fail
                  go_ret
                  exact ⟨rfl, HO10.out⟩
end Go.Proofs.Ytedanlbbpfaleaa
