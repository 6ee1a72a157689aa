/- Parts. -/
import Derived.Test.YtajjakljheafjaaGreatK10
import Derived.Lib.IndexBytes
import Derived.Laws.IdiomStrings
import Derived.Maps.AppendAt
import Derived.Carry
import Derived.Deep.LoopGhost
set_option maxRecDepth 100000
namespace Go.Proofs.YtajjakljheafjaaGreat
open Go.RowKit
/-- A status laid over what stood there, as the code has it. -/
theorem lay_byte : ∀ b : Fin 256, ∀ k : Fin 4, ∀ v : Fin 4, bits BinOp.or IntKind.u8 (bits BinOp.andNot IntKind.u8 (b.val : Int) ((3 * 4 ^ k.val : Nat) % 256 : Int)) ((v.val * 4 ^ k.val : Nat) : Int) = (put4 b.val k.val v.val : Int) := by
  decide +kernel
instance (m : Int) (s : ByteArray) : Decidable (topOk m s) := by unfold topOk; infer_instance
theorem empty_iff (h : ByteArray) : h.toList.isEmpty = decide (h = ⟨#[]⟩) := by
  rw [ByteArray.toList_eq]
  obtain ⟨⟨l⟩⟩ := h
  cases l <;> simp
theorem careStatuses_any (m : Int) (s : ByteArray) (w : World) (h : Md m) :
    Calls Tryz.prog 120 #[.int .i64 m, .string s] w fun e w' => e = .returned (.bool (decide (s.size = nb m ∧ topOk m s))) ∧ w' = w := by
  have HB := hide (statusBytes_any m w h)
  have h16 := h.1
  have h1024 := h.2.1
  by_cases hn : s.size = nb m
  · have HP := hide (cplace_any m w (by omega) h1024)
    have hq : ((m - 1).toNat / 4 : Nat) < s.size := by have := nb_bd h; omega
    have e1 : ((m - 1) / 4).toNat = (m - 1).toNat / 4 := by omega
    have e2 : ((m - 1) % 4).toNat = (m - 1).toNat % 4 := by omega
    have hk4 : (m - 1).toNat % 4 < 4 := by omega
    obtain ⟨R, hR⟩ : ∃ R, decide (s.size = nb m ∧ topOk m s) = R := ⟨_, rfl⟩
    have HT : Hid (R = decide (byt (bl s) ((m - 1).toNat / 4) / 4 ^ ((m - 1).toNat % 4) ≤ 3)) := by
      unfold Hid
      rw [← hR]
      refine decide_eq_decide.2 ?_
      unfold topOk
      rw [e1, e2]
      exact ⟨fun h => h.2, fun h => ⟨hn, h⟩⟩
    rw [hR]
    have hsn : (s.size : Int) = (nb m : Int) := by omega
    obtain ⟨q, hqq⟩ : ∃ q, (m - 1).toNat / 4 = q := ⟨_, rfl⟩
    obtain ⟨k, hkk⟩ : ∃ k, (m - 1).toNat % 4 = k := ⟨_, rfl⟩
    rw [hqq, hkk] at HP HT
    rw [hqq] at hq
    rw [hkk] at hk4
    clear e1 e2 hn hqq hkk h hR
    have HBY : Hid (byt (bl s) q = (s[q]'hq).toNat) := by
      unfold Hid byt
      rw [List.getD_eq_getElem?_getD, List.getElem?_eq_getElem (by rw [bl_len]; exact hq)]
      rfl
    have hqi : (q : Int) < (s.size : Int) := by omega
    rcases k4 hk4 with rfl | rfl | rfl | rfl
    · go_enter Tryz.func120, Tryz.ntmps120
      go_wp2_with fail
      refine HB.out.mono ?_
      rintro e w1 ⟨rfl, hw⟩
      obtain rfl := hw.symm
      clear hw
      go_wp2_with fail
      refine HP.out.mono ?_
      rintro e w1 ⟨rfl, hw⟩
      obtain rfl := hw.symm
      clear hw
      go_wp2_with fail
      go_ret
      refine ⟨ret_bool ?_, rfl⟩
      rw [HT.out, HBY.out]
      exact decide_eq_decide.2 (by simp only [Nat.reducePow]; omega)
    · go_enter Tryz.func120, Tryz.ntmps120
      go_wp2_with fail
      refine HB.out.mono ?_
      rintro e w1 ⟨rfl, hw⟩
      obtain rfl := hw.symm
      clear hw
      go_wp2_with fail
      refine HP.out.mono ?_
      rintro e w1 ⟨rfl, hw⟩
      obtain rfl := hw.symm
      clear hw
      go_wp2_with fail
      go_ret
      refine ⟨ret_bool ?_, rfl⟩
      rw [HT.out, HBY.out]
      exact decide_eq_decide.2 (by simp only [Nat.reducePow]; omega)
    · go_enter Tryz.func120, Tryz.ntmps120
      go_wp2_with fail
      refine HB.out.mono ?_
      rintro e w1 ⟨rfl, hw⟩
      obtain rfl := hw.symm
      clear hw
      go_wp2_with fail
      refine HP.out.mono ?_
      rintro e w1 ⟨rfl, hw⟩
      obtain rfl := hw.symm
      clear hw
      go_wp2_with fail
      go_ret
      refine ⟨ret_bool ?_, rfl⟩
      rw [HT.out, HBY.out]
      exact decide_eq_decide.2 (by simp only [Nat.reducePow]; omega)
    · go_enter Tryz.func120, Tryz.ntmps120
      go_wp2_with fail
      refine HB.out.mono ?_
      rintro e w1 ⟨rfl, hw⟩
      obtain rfl := hw.symm
      clear hw
      go_wp2_with fail
      refine HP.out.mono ?_
      rintro e w1 ⟨rfl, hw⟩
      obtain rfl := hw.symm
      clear hw
      go_wp2_with fail
      go_ret
      refine ⟨ret_bool ?_, rfl⟩
      rw [HT.out, HBY.out]
      exact decide_eq_decide.2 (by simp only [Nat.reducePow]; omega)
  · have hd : decide (s.size = nb m ∧ topOk m s) = false := by simp [hn]
    rw [hd]
    obtain ⟨n, hnn⟩ : ∃ n, nb m = n := ⟨_, rfl⟩
    have hne : ¬ (s.size : Int) = (n : Int) := by omega
    rw [hnn] at HB
    clear hn hd hnn h
    go_enter Tryz.func120, Tryz.ntmps120
    go_wp2_with fail
    refine HB.out.mono ?_
    rintro e w1 ⟨rfl, hw⟩
    obtain rfl := hw.symm
    clear hw
    go_wp2_with fail
    go_ret
    exact ⟨rfl, rfl⟩
theorem isHead_any (w : World) (a k v r : Int) (h : ByteArray) (cp n : Nat) (ao : Option Addr) :
    Calls Tryz.prog 118 #[.agg #[.int .i64 a, .int .i64 k, .int .i64 v, .int .i64 r, .string h, .slice ao n cp]] w fun e w' => e = .returned (.bool (decide (k = 1 ∧ 0 ≤ a ∧ v = 0 ∧ r = 0 ∧ h = ⟨#[]⟩))) ∧ Only (fun _ => False) w w' := by
  have HO := hide (onlyA w (.cells #[.int .i64 a, .int .i64 k, .int .i64 v, .int .i64 r, .string h, .slice ao n cp] 37))
  go_enter Tryz.func118, Tryz.ntmps118
  go_wp2_with fail
  all_goals go_ret
  all_goals refine ⟨ret_bool ?_, onlyA _ _⟩
  all_goals clear HO
  all_goals (try rw [empty_iff])
  all_goals simp_all
  all_goals omega
/-- Bytes in block g that may be written. -/
structure Byt (w : World) (g : Nat) (l : List UInt8) : Prop where
  c : ∀ j (h : j < l.length), w.cell? ⟨g, j, none⟩ = some (.int .u8 (l[j].toNat : Int))
  f : ∀ j, j < l.length → w.frozen? ⟨g, j, none⟩ = false
  lt : g < w.heap.size
theorem Byt.set {w : World} {g : Nat} {l : List UInt8} (h : Byt w g l) {j n : Nat} (hj : j < l.length) (hn : n < 256) {V : Int} (hV : V = (n : Int)) :
    Byt (w.setCell ⟨g, j, none⟩ (.int .u8 V)).drew g (l.set j (UInt8.ofNat n)) ∧ Only (fun k => k = g) w (w.setCell ⟨g, j, none⟩ (.int .u8 V)).drew := by
  subst hV
  refine ⟨⟨fun i hi => ?_, fun i hi => ?_, ?_⟩, (Only.setCell (S := fun k => k = g) w ⟨g, j, none⟩ _ rfl).trans (Only.drew _ _) (fun _ _ h => h)⟩
  · have hi' := hi
    rw [List.length_set] at hi'
    show (w.setCell ⟨g, j, none⟩ (.int .u8 (n : Int))).cell? ⟨g, i, none⟩ = _
    by_cases e : i = j
    · subst e
      rw [World.cell?_setCell_same _ _ _ (h.c i hi')]
      simp only [List.getElem_set_self]
      rw [UInt8.toNat_ofNat_of_lt' hn]
    · rw [World.cell?_setCell_other _ _ _ _ (by intro q; injection q with _ q; exact e q.symm), h.c i hi', List.getElem_set_ne (by omega)]
  · rw [List.length_set] at hi
    have := h.f i hi
    simpa using this
  · have := h.lt
    simpa using this
theorem Byt.st {w : World} {g : Nat} {l : List UInt8} (h : Byt w g l) {i v k : Nat} (hi : i / 4 < l.length) (hk : i % 4 = k) (hv : v < 4) {V : Int} (hV : V = (put4 (l[i / 4]).toNat k v : Int)) :
    Byt (w.setCell ⟨g, i / 4, none⟩ (.int .u8 V)).drew g (stSet l i v) ∧ Only (fun k => k = g) w (w.setCell ⟨g, i / 4, none⟩ (.int .u8 V)).drew := by
  have hb : byt l (i / 4) = (l[i / 4]).toNat := by
    unfold byt
    rw [List.getD_eq_getElem?_getD, List.getElem?_eq_getElem hi]
    rfl
  subst hk
  rw [← hb] at hV
  exact h.set hi (put4_lt (byt_lt _ _) (Nat.mod_lt _ (by decide)) hv) hV
theorem clay_any (w : World) (g cp : Nat) (l : List UInt8) (x : Int) (v : Nat) (hB : Byt w g l) (h1 : 1 ≤ x) (h2 : x ≤ 1024) (hx : (x - 1).toNat / 4 < l.length) (hv : v < 4) :
    Calls Tryz.prog 42 #[.slice (some ⟨g, 0, none⟩) l.length cp, .int .i64 x, .int .u8 (v : Int)] w fun e w' => e = .returned (.tuple #[]) ∧ Byt w' g (stSet l (x - 1).toNat v) ∧ Only (fun k => k = g) w w' := by
  have HP := hide (cplace_any x w h1 h2)
  obtain ⟨q, hq⟩ : ∃ q, (x - 1).toNat / 4 = q := ⟨_, rfl⟩
  obtain ⟨k, hk⟩ : ∃ k, (x - 1).toNat % 4 = k := ⟨_, rfl⟩
  have hk4 : k < 4 := by omega
  have c0 := hB.c q (by omega)
  have f0 := hB.f q (by omega)
  rw [hq, hk] at HP
  have hql : (q : Int) < (l.length : Int) := by omega
  have HST : Hid (∀ V : Int, V = (put4 (l[q]).toNat k v : Int) → Byt (w.setCell ⟨g, q, none⟩ (.int .u8 V)).drew g (stSet l (x - 1).toNat v) ∧ Only (fun k => k = g) w (w.setCell ⟨g, q, none⟩ (.int .u8 V)).drew) := by
    intro V hV
    subst hq
    exact hB.st hx hk hv hV
  have hb := UInt8.toNat_lt l[q]
  have HLB := hide (lay_byte ⟨(l[q]).toNat, hb⟩ ⟨k, hk4⟩ ⟨v, hv⟩)
  obtain ⟨n, hn⟩ : ∃ n, (l[q]).toNat = n := ⟨_, rfl⟩
  simp only [hn] at HLB HST hb
  rw [hn] at c0
  clear hB hn hk h1 h2
  rcases k4 hk4 with rfl | rfl | rfl | rfl
  · go_enter Tryz.func42, Tryz.ntmps42
    go_wp2_with fail
    refine HP.out.mono ?_
    rintro e w1 ⟨rfl, hw⟩
    obtain rfl := hw.symm
    clear hw
    go_wp2_with fail
    go_region
    go_wp2_with fail
    go_end0
    refine ⟨rfl, HST.out _ ?_⟩
    have := HLB.out
    simp at this
    exact this
  · go_enter Tryz.func42, Tryz.ntmps42
    go_wp2_with fail
    refine HP.out.mono ?_
    rintro e w1 ⟨rfl, hw⟩
    obtain rfl := hw.symm
    clear hw
    go_wp2_with fail
    go_region
    go_wp2_with fail
    go_end0
    refine ⟨rfl, HST.out _ ?_⟩
    have := HLB.out
    simp at this
    exact this
  · go_enter Tryz.func42, Tryz.ntmps42
    go_wp2_with fail
    refine HP.out.mono ?_
    rintro e w1 ⟨rfl, hw⟩
    obtain rfl := hw.symm
    clear hw
    go_wp2_with fail
    go_region
    go_wp2_with fail
    go_end0
    refine ⟨rfl, HST.out _ ?_⟩
    have := HLB.out
    simp at this
    exact this
  · go_enter Tryz.func42, Tryz.ntmps42
    go_wp2_with fail
    refine HP.out.mono ?_
    rintro e w1 ⟨rfl, hw⟩
    obtain rfl := hw.symm
    clear hw
    go_wp2_with fail
    go_region
    go_wp2_with fail
    go_end0
    refine ⟨rfl, HST.out _ ?_⟩
    have := HLB.out
    simp at this
    exact this
theorem two_of {l : List ByteArray} (h : l.length = 2) : ∃ s t, l = [s, t] := by
  match l, h with
  | [s, t], _ => exact ⟨s, t, rfl⟩
theorem check_mod (w : World) (m a k v r : Int) (h : ByteArray) (cp n : Nat) (ao : Option Addr) (hm : I64 m) (hM : ¬ Md m) :
    Calls Tryz.prog 74 #[.int .i64 m, .agg #[.int .i64 a, .int .i64 k, .int .i64 v, .int .i64 r, .string h, .slice ao n cp]] w fun e w' => e = .returned (.int .i64 1) ∧ Only (fun _ => False) w w' := by
  have HM := hide (fun W => cisModulus_any m W hm)
  simp only [decide_eq_false hM] at HM
  clear hM
  have HO := hide (onlyA w (.cells #[.int .i64 a, .int .i64 k, .int .i64 v, .int .i64 r, .string h, .slice ao n cp] 37))
  go_enter Tryz.func74, Tryz.ntmps74
  go_wp2_with fail
  refine (HM.out _).mono ?_
  rintro e w1 ⟨rfl, hw⟩
  obtain rfl := hw.symm
  clear hw
  go_wp2_with fail
  go_ret
  exact ⟨rfl, HO.out⟩
theorem check_head (w : World) (m a k v r : Int) (h : ByteArray) (cp n : Nat) (ao : Option Addr) (hM : Md m) (hH : ¬ ((k = 1 ∧ 0 ≤ a ∧ v = 0 ∧ r = 0 ∧ h = ⟨#[]⟩) ∧ n = 2)) :
    Calls Tryz.prog 74 #[.int .i64 m, .agg #[.int .i64 a, .int .i64 k, .int .i64 v, .int .i64 r, .string h, .slice ao n cp]] w fun e w' => e = .returned (.int .i64 31) ∧ Only (fun _ => False) w w' := by
  have HM := hide (fun W => cisModulus_any m W ⟨by have := hM.1; omega, by have := hM.2.1; omega⟩)
  simp only [decide_eq_true hM] at HM
  clear hM
  have HI := hide (fun W => isHead_any W a k v r h cp n ao)
  have HO := hide (onlyA w (.cells #[.int .i64 a, .int .i64 k, .int .i64 v, .int .i64 r, .string h, .slice ao n cp] 37))
  have HP := hide (Pag.new w (.int .i64 a) (.int .i64 k) (.int .i64 v) (.int .i64 r) (.string h) (.slice ao n cp))
  by_cases hd : (k = 1 ∧ 0 ≤ a ∧ v = 0 ∧ r = 0 ∧ h = ⟨#[]⟩)
  · simp only [decide_eq_true hd] at HI
    have hn : ¬ (n : Int) = 2 := fun e => hH ⟨hd, by omega⟩
    clear hd hH
    go_enter Tryz.func74, Tryz.ntmps74
    go_wp2_with fail
    refine (HM.out _).mono ?_
    rintro e w1 ⟨rfl, hw⟩
    obtain rfl := hw.symm
    clear hw
    go_wp2_with fail
    refine (HI.out _).mono ?_
    rintro e w2 ⟨rfl, ho2⟩
    have c5 := (HP.out.more ho2).c5
    have HO2 := hide (o2 HO.out ho2)
    clear ho2
    go_wp2_with fail
    go_ret
    exact ⟨rfl, HO2.out⟩
  · simp only [decide_eq_false hd] at HI
    clear hd hH
    go_enter Tryz.func74, Tryz.ntmps74
    go_wp2_with fail
    refine (HM.out _).mono ?_
    rintro e w1 ⟨rfl, hw⟩
    obtain rfl := hw.symm
    clear hw
    go_wp2_with fail
    refine (HI.out _).mono ?_
    rintro e w2 ⟨rfl, ho2⟩
    have HO2 := hide (o2 HO.out ho2)
    clear ho2
    go_wp2_with fail
    go_ret
    exact ⟨rfl, HO2.out⟩
theorem check_two (w : World) (m a : Int) (cp B : Nat) (ao : Option Addr) (s0 s1 : ByteArray) (hM : Md m) (ha : 0 ≤ a) (hS : Strs w B ao [s0, s1]) :
    Calls Tryz.prog 74 #[.int .i64 m, .agg #[.int .i64 a, .int .i64 1, .int .i64 0, .int .i64 0, .string ⟨#[]⟩, .slice ao 2 cp]] w fun e w' => e = .returned (.int .i64 (if lim m s0 = 0 ∨ ¬ (s1.size = nb m ∧ topOk m s1) then 31 else 0)) ∧ Only (fun _ => False) w w' := by
  have HM := hide (fun W => cisModulus_any m W ⟨by have := hM.1; omega, by have := hM.2.1; omega⟩)
  simp only [decide_eq_true hM] at HM
  have HI : Hid (∀ W, Calls Tryz.prog 118 #[.agg #[.int .i64 a, .int .i64 1, .int .i64 0, .int .i64 0, .string ⟨#[]⟩, .slice ao 2 cp]] W fun e w' => e = .returned (.bool true) ∧ Only (fun _ => False) W w') := by
    intro W
    have q := isHead_any W a 1 0 0 ⟨#[]⟩ cp 2 ao
    rw [decide_eq_true (⟨rfl, ha, rfl, rfl, rfl⟩ : (1 : Int) = 1 ∧ 0 ≤ a ∧ (0 : Int) = 0 ∧ (0 : Int) = 0 ∧ (⟨#[]⟩ : ByteArray) = ⟨#[]⟩)] at q
    exact q
  have HL := hide (fun W => readLimit_any m s0 W (by have := hM.1; omega))
  have HA := hide (fun W => careStatuses_any m s1 W hM)
  have HO := hide (onlyA w (.cells #[.int .i64 a, .int .i64 1, .int .i64 0, .int .i64 0, .string ⟨#[]⟩, .slice ao 2 cp] 37))
  have HP := hide (Pag.new w (.int .i64 a) (.int .i64 1) (.int .i64 0) (.int .i64 0) (.string ⟨#[]⟩) (.slice ao 2 cp))
  have hlb := lim_bd (by have := hM.1; omega : 0 ≤ m) s0
  have hm2 := hM.2.1
  obtain ⟨o, rfl, hc⟩ := hS.at_ (by simp)
  have HS := hide hS
  have hB := hS.lt (by simp)
  have hc0 := hc 0 (by simp)
  have hc1 := hc 1 (by simp)
  simp only [List.getElem_cons_zero, List.getElem_cons_succ, Nat.add_zero] at hc0 hc1
  have HC0 := hide hc0
  have HC1 := hide hc1
  clear hS hc hc0 hc1 hM
  obtain ⟨L, hL⟩ : ∃ L, lim m s0 = L := ⟨_, rfl⟩
  obtain ⟨T, hT⟩ : ∃ T, decide (s1.size = nb m ∧ topOk m s1) = T := ⟨_, rfl⟩
  have HR : Hid ((if lim m s0 = 0 ∨ ¬ (s1.size = nb m ∧ topOk m s1) then (31 : Int) else 0) = if L = 0 ∨ T = false then 31 else 0) := by
    unfold Hid
    rw [hL]
    by_cases hq : s1.size = nb m ∧ topOk m s1
    · rw [decide_eq_true hq] at hT
      rw [← hT]
      simp [hq]
    · rw [decide_eq_false hq] at hT
      rw [← hT]
      simp [hq]
  rw [HR.out]
  simp only [hL] at HL hlb
  simp only [hT] at HA
  clear HR hL hT
  by_cases h0 : L = 0
  · rw [if_pos (.inl h0)]
    subst h0
    go_enter Tryz.func74, Tryz.ntmps74
    go_wp2_with fail
    refine (HM.out _).mono ?_
    rintro e w1 ⟨rfl, hw⟩
    obtain rfl := hw.symm
    clear hw
    go_wp2_with fail
    refine (HI.out _).mono ?_
    rintro e w2 ⟨rfl, ho2⟩
    have c5 := (HP.out.more ho2).c5
    have HO2 := hide (o2 HO.out ho2)
    have d0 := (HO2.out.cell (p := ⟨B, o, none⟩) hB (fun h => h)).trans HC0.out
    clear ho2
    go_wp2_with fail
    refine (HL.out _).mono ?_
    rintro e w3 ⟨rfl, ho3⟩
    have HO3 := hide (o2 HO2.out ho3)
    clear ho3
    go_wp2_with fail
    go_ret
    exact ⟨rfl, HO3.out⟩
  · have hne : (L == 0) = false := by simp [h0]
    cases T with
    | false =>
      rw [if_pos (.inr rfl)]
      go_enter Tryz.func74, Tryz.ntmps74
      go_wp2_with fail
      refine (HM.out _).mono ?_
      rintro e w1 ⟨rfl, hw⟩
      obtain rfl := hw.symm
      clear hw
      go_wp2_with fail
      refine (HI.out _).mono ?_
      rintro e w2 ⟨rfl, ho2⟩
      have c5 := (HP.out.more ho2).c5
      have HP2 := hide (HP.out.more ho2)
      have HO2 := hide (o2 HO.out ho2)
      have d0 := (HO2.out.cell (p := ⟨B, o, none⟩) hB (fun h => h)).trans HC0.out
      clear ho2
      go_wp2_with fail
      refine (HL.out _).mono ?_
      rintro e w3 ⟨rfl, ho3⟩
      clear c5 d0
      have c5 := (HP2.out.more ho3).c5
      have HO3 := hide (o2 HO2.out ho3)
      have d1 := (HO3.out.cell (p := ⟨B, o + 1, none⟩) hB (fun h => h)).trans HC1.out
      clear ho3
      go_wp2_with fail
      refine (HA.out _).mono ?_
      rintro e w4 ⟨rfl, hw⟩
      obtain rfl := hw.symm
      clear hw
      go_wp2_with fail
      go_ret
      exact ⟨rfl, HO3.out⟩
    | true =>
      rw [if_neg (fun h => h.elim h0 (fun e => by cases e))]
      go_enter Tryz.func74, Tryz.ntmps74
      go_wp2_with fail
      refine (HM.out _).mono ?_
      rintro e w1 ⟨rfl, hw⟩
      obtain rfl := hw.symm
      clear hw
      go_wp2_with fail
      refine (HI.out _).mono ?_
      rintro e w2 ⟨rfl, ho2⟩
      have c5 := (HP.out.more ho2).c5
      have HP2 := hide (HP.out.more ho2)
      have HO2 := hide (o2 HO.out ho2)
      have d0 := (HO2.out.cell (p := ⟨B, o, none⟩) hB (fun h => h)).trans HC0.out
      clear ho2
      go_wp2_with fail
      refine (HL.out _).mono ?_
      rintro e w3 ⟨rfl, ho3⟩
      clear c5 d0
      have c5 := (HP2.out.more ho3).c5
      have HO3 := hide (o2 HO2.out ho3)
      have d1 := (HO3.out.cell (p := ⟨B, o + 1, none⟩) hB (fun h => h)).trans HC1.out
      clear ho3
      go_wp2_with fail
      refine (HA.out _).mono ?_
      rintro e w4 ⟨rfl, hw⟩
      obtain rfl := hw.symm
      clear hw
      go_wp2_with fail
      go_ret
      exact ⟨rfl, HO3.out⟩
theorem ccheck_any (w : World) (m a k v r : Int) (h : ByteArray) (cp B : Nat) (ao : Option Addr) (l : List ByteArray) (hm : I64 m) (hS : Strs w B ao l) :
    Calls Tryz.prog 74 #[.int .i64 m, .agg #[.int .i64 a, .int .i64 k, .int .i64 v, .int .i64 r, .string h, .slice ao l.length cp]] w fun e w' => e = .returned (.int .i64 (chk m ⟨a, k, v, r, h, l⟩)) ∧ Only (fun _ => False) w w' := by
  by_cases hM : Md m
  · by_cases hH : (k = 1 ∧ 0 ≤ a ∧ v = 0 ∧ r = 0 ∧ h = ⟨#[]⟩) ∧ l.length = 2
    · obtain ⟨⟨rfl, ha, rfl, rfl, rfl⟩, hl⟩ := hH
      obtain ⟨s0, s1, rfl⟩ := two_of hl
      refine (check_two w m a cp B ao s0 s1 hM ha hS).mono ?_
      rintro e w' ⟨rfl, ho⟩
      refine ⟨ret_int ?_, ho⟩
      by_cases hq : lim m s0 = 0 ∨ ¬ (s1.size = nb m ∧ topOk m s1)
      · rw [if_pos hq, chk_bad hM]
        intro hk
        rcases hq with hq | hq
        · exact hk.lm hq
        · exact hq ⟨hk.size, hk.top⟩
      · rw [if_neg hq, chk_ok hM]
        simp only [not_or, Classical.not_not] at hq
        exact ⟨rfl, ha, rfl, rfl, rfl, rfl, hq.1, hq.2.1, hq.2.2⟩
    · rw [chk_bad hM (fun hk => hH ⟨⟨hk.kind, hk.lsn, hk.level, hk.right, hk.high⟩, hk.two⟩)]
      exact check_head w m a k v r h cp l.length ao hM hH
  · rw [chk_mod hM]
    exact check_mod w m a k v r h cp l.length ao hm hM
/-- What checkWithID answers. -/
noncomputable def cid (m : Int) (p : Pg) (x : Int) : Int := if chk m p = 0 then (if Idd m x then 0 else 1) else chk m p
theorem chk_bd (m : Int) (p : Pg) : chk m p = 0 ∨ chk m p = 1 ∨ chk m p = 31 := by
  unfold chk
  split
  · split
    · exact .inl rfl
    · exact .inr (.inr rfl)
  · exact .inr (.inl rfl)
theorem cid_bd (m : Int) (p : Pg) (x : Int) : cid m p x = 0 ∨ cid m p x = 1 ∨ cid m p x = 31 := by
  unfold cid
  split
  · split
    · exact .inl rfl
    · exact .inr (.inl rfl)
  · exact chk_bd m p
theorem chk_zero {m : Int} {p : Pg} (h : chk m p = 0) : Md m ∧ OkP m p := by
  by_cases hM : Md m
  · refine ⟨hM, Classical.byContradiction fun hk => ?_⟩
    rw [chk_bad hM hk] at h
    omega
  · rw [chk_mod hM] at h
    omega
theorem cid_zero {m x : Int} {p : Pg} (h : cid m p x = 0) : Idd m x ∧ OkP m p := by
  unfold cid at h
  split at h
  · rename_i h1
    split at h
    · rename_i h2
      exact ⟨h2, (chk_zero h1).2⟩
    · omega
  · rename_i h1
    exact absurd h h1
theorem cid_ok {m x : Int} {p : Pg} (h : Idd m x) (k : OkP m p) : cid m p x = 0 := by
  unfold cid
  rw [if_pos (chk_ok h.1 k), if_pos h]
theorem checkWithID_any (w : World) (m a k v r x : Int) (h : ByteArray) (cp B : Nat) (ao : Option Addr) (l : List ByteArray) (hm : I64 m) (hx : I64 x) (hS : Strs w B ao l) :
    Calls Tryz.prog 41 #[.int .i64 m, .agg #[.int .i64 a, .int .i64 k, .int .i64 v, .int .i64 r, .string h, .slice ao l.length cp], .int .i64 x] w fun e w' => e = .returned (.int .i64 (cid m ⟨a, k, v, r, h, l⟩ x)) ∧ Only (fun _ => False) w w' := by
  have HC := hide (fun W (ho : Only (fun _ => False) w W) => ccheck_any W m a k v r h cp B ao l hm (hS.more ho))
  have HI := hide (fun W => cisID_any m x W hm hx)
  have hcb := chk_bd m ⟨a, k, v, r, h, l⟩
  have HO := hide (onlyA w (.cells #[.int .i64 a, .int .i64 k, .int .i64 v, .int .i64 r, .string h, .slice ao l.length cp] 37))
  obtain ⟨C, hC⟩ : ∃ C, chk m ⟨a, k, v, r, h, l⟩ = C := ⟨_, rfl⟩
  obtain ⟨I, hI⟩ : ∃ I, decide (Idd m x) = I := ⟨_, rfl⟩
  have HR : Hid (cid m ⟨a, k, v, r, h, l⟩ x = if C = 0 then (if I = true then 0 else 1) else C) := by
    unfold Hid cid
    rw [hC, ← hI]
    simp
  rw [HR.out]
  simp only [hC] at HC hcb
  simp only [hI] at HI
  have hm1 := hm.1
  have hm2 := hm.2
  have hx1 := hx.1
  have hx2 := hx.2
  clear HR hC hI hm hx hS
  by_cases h0 : C = 0
  · rw [if_pos h0]
    subst h0
    clear hcb
    cases I
    all_goals
      go_enter Tryz.func41, Tryz.ntmps41
      go_wp2_with fail
      refine (HC.out _ HO.out).mono ?_
      rintro e w1 ⟨rfl, ho⟩
      have HO1 := hide (o2 HO.out ho)
      clear ho
      go_wp2_with fail
      refine (HI.out _).mono ?_
      rintro e w2 ⟨rfl, hw⟩
      obtain rfl := hw.symm
      clear hw
      go_wp2_with fail
      go_ret
      exact ⟨rfl, HO1.out⟩
  · rw [if_neg h0]
    have hne : (C != 0) = true := by simp [h0]
    clear h0
    go_enter Tryz.func41, Tryz.ntmps41
    go_wp2_with fail
    refine (HC.out _ HO.out).mono ?_
    rintro e w1 ⟨rfl, ho⟩
    have HO1 := hide (o2 HO.out ho)
    clear ho
    go_wp2_with fail
    go_ret
    exact ⟨rfl, HO1.out⟩
theorem and3 : ∀ n : Fin 256, bits BinOp.and IntKind.u8 (n.val : Int) 3 = ((n.val % 4 : Nat) : Int) := by
  decide +kernel
theorem st_and {n : Nat} (h : n < 256) (d k : Nat) (hd : d = 4 ^ k) : bits BinOp.and IntKind.u8 ((n : Int) / (d : Int)) 3 = (dig n k : Int) := by
  have hle : n / d ≤ n := Nat.div_le_self _ _
  have := and3 ⟨n / d, by omega⟩
  unfold dig
  rw [← hd, ← this]
  simp
theorem ret_st {a b : Int} (h : a = b) : Ending.returned (.tuple #[.int .u8 a, .int .i64 0]) = .returned (.tuple #[.int .u8 b, .int .i64 0]) := by rw [h]
/-- What Get answers. -/
noncomputable def gst (m : Int) (p : Pg) (x : Int) : Nat := if cid m p x = 0 then stAt (bl (it1 p)) (x - 1).toNat else 0
theorem cget_err (w : World) (m a k v r x : Int) (h : ByteArray) (cp B : Nat) (ao : Option Addr) (l : List ByteArray) (hm : I64 m) (hx : I64 x) (hS : Strs w B ao l) (hc : ¬ cid m ⟨a, k, v, r, h, l⟩ x = 0) :
    Calls Tryz.prog 203 #[.int .i64 m, .agg #[.int .i64 a, .int .i64 k, .int .i64 v, .int .i64 r, .string h, .slice ao l.length cp], .int .i64 x] w fun e w' => e = .returned (.tuple #[.int .u8 0, .int .i64 (cid m ⟨a, k, v, r, h, l⟩ x)]) ∧ Only (fun _ => False) w w' := by
  have HC := hide (fun W (ho : Only (fun _ => False) w W) => checkWithID_any W m a k v r x h cp B ao l hm hx (hS.more ho))
  have HO := hide (onlyA w (.cells #[.int .i64 a, .int .i64 k, .int .i64 v, .int .i64 r, .string h, .slice ao l.length cp] 37))
  have hcb := cid_bd m ⟨a, k, v, r, h, l⟩ x
  obtain ⟨C, hC⟩ : ∃ C, cid m ⟨a, k, v, r, h, l⟩ x = C := ⟨_, rfl⟩
  rw [hC] at hc hcb
  simp only [hC] at HC
  rw [hC]
  have hne : (C != 0) = true := by simp [hc]
  have hx1 := hx.1
  have hx2 := hx.2
  clear hC hc hm hx hS
  go_enter Tryz.func203, Tryz.ntmps203
  go_wp2_with fail
  refine (HC.out _ HO.out).mono ?_
  rintro e w1 ⟨rfl, ho⟩
  have HO1 := hide (o2 HO.out ho)
  clear ho
  go_wp2_with fail
  go_ret2
  exact ⟨rfl, HO1.out⟩
theorem byt_is {s : ByteArray} {q : Nat} (hq : q < s.size) : byt (bl s) q = (s[q]'hq).toNat := by
  unfold byt
  rw [List.getD_eq_getElem?_getD, List.getElem?_eq_getElem (by rw [bl_len]; exact hq)]
  rfl
theorem cget_ok (w : World) (m a x : Int) (cp B : Nat) (ao : Option Addr) (s0 s1 : ByteArray) (hS : Strs w B ao [s0, s1]) (hO : OkP m ⟨a, 1, 0, 0, ⟨#[]⟩, [s0, s1]⟩) (hI : Idd m x) :
    Calls Tryz.prog 203 #[.int .i64 m, .agg #[.int .i64 a, .int .i64 1, .int .i64 0, .int .i64 0, .string ⟨#[]⟩, .slice ao 2 cp], .int .i64 x] w fun e w' => e = .returned (.tuple #[.int .u8 (stAt (bl s1) (x - 1).toNat : Int), .int .i64 0]) ∧ Only (fun _ => False) w w' := by
  have hm : I64 m := ⟨by have := hI.1.1; omega, by have := hI.1.2.1; omega⟩
  have hx : I64 x := ⟨by have := hI.2; omega, by have := hI.2; have := hI.1.2.1; omega⟩
  have HC := hide (fun W (ho : Only (fun _ => False) w W) => checkWithID_any W m a 1 0 0 x ⟨#[]⟩ cp B ao [s0, s1] hm hx (hS.more ho))
  simp only [cid_ok hI hO] at HC
  have HO := hide (onlyA w (.cells #[.int .i64 a, .int .i64 1, .int .i64 0, .int .i64 0, .string ⟨#[]⟩, .slice ao 2 cp] 37))
  have HPL := hide (fun W => cplace_any x W hI.2.1 (by have := hI.2; have := hI.1.2.1; omega))
  have HP := hide (Pag.new w (.int .i64 a) (.int .i64 1) (.int .i64 0) (.int .i64 0) (.string ⟨#[]⟩) (.slice ao 2 cp))
  have hq : (x - 1).toNat / 4 < s1.size := by have := at_lt hI hO.size; rw [bl_len] at this; exact this
  obtain ⟨R, hR⟩ : ∃ R, stAt (bl s1) (x - 1).toNat = R := ⟨_, rfl⟩
  have HV : Hid (R = dig (byt (bl s1) ((x - 1).toNat / 4)) ((x - 1).toNat % 4)) := hR.symm
  rw [hR]
  clear hR
  obtain ⟨o, rfl, hc⟩ := hS.at_ (by simp)
  have hB := hS.lt (by simp)
  have hc1 := hc 1 (by simp)
  simp only [List.getElem_cons_zero, List.getElem_cons_succ] at hc1
  have HC1 := hide hc1
  have hk4 : (x - 1).toNat % 4 < 4 := by omega
  obtain ⟨q, hqq⟩ : ∃ q, (x - 1).toNat / 4 = q := ⟨_, rfl⟩
  obtain ⟨k, hkk⟩ : ∃ k, (x - 1).toNat % 4 = k := ⟨_, rfl⟩
  simp only [hqq, hkk] at HPL hk4 HV
  rw [hqq] at hq
  have hqs : (q : Int) < (s1.size : Int) := by omega
  rw [byt_is hq] at HV
  have hx1 := hx.1
  have hx2 := hx.2
  have hb := UInt8.toNat_lt (s1[q]'hq)
  clear hkk hqq hc hc1 hS hO hI hm hx
  simp only [List.length_cons, List.length_nil, Nat.zero_add, Nat.reduceAdd] at HC
  rcases k4 hk4 with rfl | rfl | rfl | rfl
  · go_enter Tryz.func203, Tryz.ntmps203
    go_wp2_with fail
    refine (HC.out _ HO.out).mono ?_
    rintro e w1 ⟨rfl, ho⟩
    have HO1 := hide (o2 HO.out ho)
    have c5 := (HP.out.more ho).c5
    have d1 := (HO1.out.cell (p := ⟨B, o + 1, none⟩) hB (fun h => h)).trans HC1.out
    clear ho
    go_wp2_with fail
    refine (HPL.out _).mono ?_
    rintro e w2 ⟨rfl, hw⟩
    obtain rfl := hw.symm
    clear hw
    go_wp2_with fail
    go_ret2
    refine ⟨ret_st ?_, HO1.out⟩
    have hv := st_and hb 1 0 rfl
    rw [HV.out]
    simpa using hv
  · go_enter Tryz.func203, Tryz.ntmps203
    go_wp2_with fail
    refine (HC.out _ HO.out).mono ?_
    rintro e w1 ⟨rfl, ho⟩
    have HO1 := hide (o2 HO.out ho)
    have c5 := (HP.out.more ho).c5
    have d1 := (HO1.out.cell (p := ⟨B, o + 1, none⟩) hB (fun h => h)).trans HC1.out
    clear ho
    go_wp2_with fail
    refine (HPL.out _).mono ?_
    rintro e w2 ⟨rfl, hw⟩
    obtain rfl := hw.symm
    clear hw
    go_wp2_with fail
    go_ret2
    refine ⟨ret_st ?_, HO1.out⟩
    have hv := st_and hb 4 1 rfl
    rw [HV.out]
    simpa using hv
  · go_enter Tryz.func203, Tryz.ntmps203
    go_wp2_with fail
    refine (HC.out _ HO.out).mono ?_
    rintro e w1 ⟨rfl, ho⟩
    have HO1 := hide (o2 HO.out ho)
    have c5 := (HP.out.more ho).c5
    have d1 := (HO1.out.cell (p := ⟨B, o + 1, none⟩) hB (fun h => h)).trans HC1.out
    clear ho
    go_wp2_with fail
    refine (HPL.out _).mono ?_
    rintro e w2 ⟨rfl, hw⟩
    obtain rfl := hw.symm
    clear hw
    go_wp2_with fail
    go_ret2
    refine ⟨ret_st ?_, HO1.out⟩
    have hv := st_and hb 16 2 rfl
    rw [HV.out]
    simpa using hv
  · go_enter Tryz.func203, Tryz.ntmps203
    go_wp2_with fail
    refine (HC.out _ HO.out).mono ?_
    rintro e w1 ⟨rfl, ho⟩
    have HO1 := hide (o2 HO.out ho)
    have c5 := (HP.out.more ho).c5
    have d1 := (HO1.out.cell (p := ⟨B, o + 1, none⟩) hB (fun h => h)).trans HC1.out
    clear ho
    go_wp2_with fail
    refine (HPL.out _).mono ?_
    rintro e w2 ⟨rfl, hw⟩
    obtain rfl := hw.symm
    clear hw
    go_wp2_with fail
    go_ret2
    refine ⟨ret_st ?_, HO1.out⟩
    have hv := st_and hb 64 3 rfl
    rw [HV.out]
    simpa using hv
theorem cget_any (w : World) (m a k v r x : Int) (h : ByteArray) (cp B : Nat) (ao : Option Addr) (l : List ByteArray) (hm : I64 m) (hx : I64 x) (hS : Strs w B ao l) :
    Calls Tryz.prog 203 #[.int .i64 m, .agg #[.int .i64 a, .int .i64 k, .int .i64 v, .int .i64 r, .string h, .slice ao l.length cp], .int .i64 x] w fun e w' => e = .returned (.tuple #[.int .u8 (gst m ⟨a, k, v, r, h, l⟩ x : Int), .int .i64 (cid m ⟨a, k, v, r, h, l⟩ x)]) ∧ Only (fun _ => False) w w' := by
  by_cases hc : cid m ⟨a, k, v, r, h, l⟩ x = 0
  · obtain ⟨hI, hO⟩ := cid_zero hc
    unfold gst
    rw [if_pos hc, hc]
    clear hc
    have h1 := hO.kind
    have h2 := hO.level
    have h3 := hO.right
    have h4 := hO.high
    simp only at h1 h2 h3 h4
    subst h1 h2 h3 h4
    obtain ⟨s0, s1, rfl⟩ := two_of hO.two
    exact cget_ok w m a x cp B ao s0 s1 hS hO hI
  · unfold gst
    rw [if_neg hc]
    exact cget_err w m a k v r x h cp B ao l hm hx hS hc
theorem bytes_made (w : World) (s : ByteArray) : ∃ (W1 : World) (cap : Nat), (convert 9 112 (.string s)).run Tryz.prog w = .ok (.slice (some ⟨w.heap.size, 0, none⟩) s.size cap) W1 ∧ Byt W1 w.heap.size (bl s) ∧ Only (fun _ => False) w W1 := by
  refine ⟨_, _, run_bytes_of_string (P := Tryz.prog) w 9 112 5 s Tryz.underlying9 Tryz.underlying112 Tryz.underlying5, ⟨?_, ?_, ?_⟩, ?_⟩
  · intro j hj
    rw [bl_len] at hj
    generalize grownCap w s.size 0 5 = cap
    have hb : (w.drew.alloc (.cells (bytesRow s cap) 5 ((bytesRow s cap).size, (bytesRow s cap).size + 1))).heap[w.heap.size]? = some (.cells (bytesRow s cap) 5 ((bytesRow s cap).size, (bytesRow s cap).size + 1)) := heap_alloc_new w.drew _
    rw [cell_of_row _ w.heap.size j (bytesRow s cap) 5 _ hb]
    unfold bytesRow
    rw [Array.getElem?_append_left (by simpa using hj)]
    have hj' : j < s.data.size := hj
    simp [Array.getElem?_map, Array.getElem?_eq_getElem hj']
  · intro j hj
    rw [bl_len] at hj
    generalize hcap : grownCap w s.size 0 5 = cap
    have hb : (w.drew.alloc (.cells (bytesRow s cap) 5 ((bytesRow s cap).size, (bytesRow s cap).size + 1))).heap[w.heap.size]? = some (.cells (bytesRow s cap) 5 ((bytesRow s cap).size, (bytesRow s cap).size + 1)) := heap_alloc_new w.drew _
    have hl : s.size ≤ (bytesRow s cap).size := by unfold bytesRow; rw [Array.size_append, Array.size_map]; exact Nat.le_add_right _ _
    unfold World.frozen?
    rw [hb]
    simp
    omega
  · simp
  · exact (Only.drew _ w).trans (Only.alloc _ _ _) (fun _ _ h => h) (T := fun _ => False)
theorem Byt.back {w : World} {g cp : Nat} {l : List UInt8} (h : Byt w g l) : (convert 112 9 (.slice (some ⟨g, 0, none⟩) l.length cp)).run Tryz.prog w = .ok (.string (str l)) w := by
  refine run_convert_bytes_back w 112 9 5 ⟨g, 0, none⟩ cp l Tryz.underlying112 Tryz.underlying5 Tryz.underlying9 (fun j hj => ?_)
  rw [add_at, Nat.zero_add]
  exact h.c j hj
/-- An answer stored into its cell. -/
theorem res_end {w w6 : World} {b B cp : Nat} {ao : Option Addr} (hb : w.heap.size ≤ b) (p : Pg) (hS : Strs w6 B ao p.items) (hF : Fit ao p.items.length cp) (ho : Only (fun _ => False) w w6) (hB : 0 < p.items.length → b < B) (c : Int) (v0 v1 v2 v3 v4 v5 : Value) :
    Res w ((((((w6.setCell ⟨b, 0, none⟩ v0).setCell ⟨b, 1, none⟩ v1).setCell ⟨b, 2, none⟩ v2).setCell ⟨b, 3, none⟩ v3).setCell ⟨b, 4, none⟩ v4).setCell ⟨b, 5, none⟩ v5)
      (.returned (.tuple #[.agg #[.int .i64 p.lsn, .int .i64 p.kind, .int .i64 p.level, .int .i64 p.right, .string p.high, .slice ao p.items.length cp], .int .i64 c])) p c := by
  have h6 := Only.six w6 b v0 v1 v2 v3 v4 v5
  exact ⟨B, ao, cp, rfl, hS.kept h6 (fun h e => by have := hB h; omega), hF, ho.trans h6 (fun i hi e => by omega), fun h => by have := hB h; omega⟩
set_option maxRecDepth 100000 in
set_option maxHeartbeats 800000 in
theorem cset_ok (w : World) (m a x : Int) (cp B : Nat) (ao : Option Addr) (s0 s1 : ByteArray) (s : Nat) (hS : Strs w B ao [s0, s1]) (hO : OkP m ⟨a, 1, 0, 0, ⟨#[]⟩, [s0, s1]⟩) (hI : Idd m x) (hs : s < 4) :
    Calls Tryz.prog 20 #[.int .i64 m, .agg #[.int .i64 a, .int .i64 1, .int .i64 0, .int .i64 0, .string ⟨#[]⟩, .slice ao 2 cp], .int .i64 x, .int .u8 (s : Int)] w fun e w' => Res w w' e ⟨a, 1, 0, 0, ⟨#[]⟩, [s0, str (stSet (bl s1) (x - 1).toNat s)]⟩ 0 := by
  have hm : I64 m := ⟨by have := hI.1.1; omega, by have := hI.1.2.1; omega⟩
  have hx : I64 x := ⟨by have := hI.2; omega, by have := hI.2; have := hI.1.2.1; omega⟩
  have HC := hide (fun W (ho : Only (fun _ => False) w W) => checkWithID_any W m a 1 0 0 x ⟨#[]⟩ cp B ao [s0, s1] hm hx (hS.more ho))
  simp only [cid_ok hI hO] at HC
  have HO := hide (boxes_only w a 1 0 0 ⟨#[]⟩ (.slice ao 2 cp))
  have HP := hide (boxes_two w a 1 0 0 ⟨#[]⟩ (.slice ao 2 cp))
  have HQ := hide (boxes_one w a 1 0 0 ⟨#[]⟩ (.slice ao 2 cp))
  unfold boxes at HO HP HQ
  have hq := at_lt hI hO.size
  have hsz : s1.size = nb m := hO.size
  have hnb := nb_bd hI.1
  have HLY := hide (fun (W : World) (g cap : Nat) (hB : Byt W g (bl s1)) => clay_any W g cap (bl s1) x s hB hI.2.1 (by have := hI.2; have := hI.1.2.1; omega) hq hs)
  obtain ⟨T, hT⟩ : ∃ T, stSet (bl s1) (x - 1).toNat s = T := ⟨_, rfl⟩
  have hTl : T.length = s1.size := by rw [← hT, stSet_len, bl_len]
  rw [hT]
  simp only [hT] at HLY
  have HTL := hide hTl
  have hs0 : s0.size ≤ 10 := by
    have hc := lim_canon hO.lm
    have : s0 = str (sev (lim m s0).toNat) := hc
    rw [this, str_size]
    exact sevF_len 9 _
  have HFIT : Hid (¬ (255 < ([s0, s1].set 1 (str T)).length ∨ 512 < 20 + (⟨#[]⟩ : ByteArray).size + isz ([s0, s1].set 1 (str T)))) := by
    unfold Hid
    have e : [s0, s1].set 1 (str T) = [s0, str T] := rfl
    have e0 : (⟨#[]⟩ : ByteArray).size = 0 := rfl
    rw [e, isz_cons, isz_cons, isz_nil, str_size, e0]
    simp only [List.length_cons, List.length_nil]
    omega
  have HW := hide (fun (W : World) (ho : Only (fun _ => False) w W) => with_some W a 1 0 0 ⟨#[]⟩ B cp ao [s0, s1] 1 (str T) (hS.more ho) (Nat.zero_le _) (by rw [str_size]; omega) (by simp))
  obtain ⟨o, rfl, hc⟩ := hS.at_ (by simp)
  have hB := hS.lt (by simp)
  have hc1 := hc 1 (by simp)
  simp only [List.getElem_cons_zero, List.getElem_cons_succ] at hc1
  have HC1 := hide hc1
  have hx1 := hx.1
  have hx2 := hx.2
  clear hc hc1 hS hO hI hm hx hT hTl hnb hsz hq hs0
  simp only [List.length_cons, List.length_nil, Nat.zero_add, Nat.reduceAdd] at HC HW
  go_enter Tryz.func20, Tryz.ntmps20
  go_wp2_with fail
  refine (HC.out _ HO.out).mono ?_
  rintro e w1 ⟨rfl, ho⟩
  have HO1 := hide (o2 HO.out ho)
  have HP1 := hide (HP.out.more ho)
  have HQ1 := hide (HQ.out.more ho)
  have c5 := HQ1.out.c5
  have d1 := (HO1.out.cell (p := ⟨B, o + 1, none⟩) hB (fun h => h)).trans HC1.out
  clear ho
  obtain ⟨w2, cap, hcv, hby, ho2⟩ := bytes_made w1 s1
  obtain ⟨g, hg⟩ : ∃ g, w1.heap.size = g := ⟨_, rfl⟩
  rw [hg] at hcv hby
  have HBY := hide hby
  have HG := hide hg
  have HO2 := hide (o2 HO1.out ho2)
  have HP2 := hide (HP1.out.more ho2)
  have HQ2 := hide (HQ1.out.more ho2)
  have HW1 := hide HP1.out.lt
  clear hby hg ho2
  go_wp2_with fail
  have q := HLY.out w2 g cap HBY.out
  rw [bl_len] at q
  refine q.mono ?_
  clear q
  rintro e w3 ⟨rfl, hby3, ho3⟩
  have HBY3 := hide hby3
  have HO3 : Hid (Only (fun _ => False) w w3) := HO2.out.trans ho3 (fun i hi e => by have := HG.out; have := HO1.out.size; omega)
  have HP3 : Hid (Pag w3 (w.heap.size + 1) (.int .i64 0) (.int .i64 0) (.int .i64 0) (.int .i64 0) (.string ⟨#[]⟩) (.slice none 0 0)) := HP2.out.kept ho3 (by have := HG.out; have := HW1.out; omega)
  have HQ3 : Hid (Pag w3 w.heap.size (.int .i64 a) (.int .i64 1) (.int .i64 0) (.int .i64 0) (.string ⟨#[]⟩) (.slice (some ⟨B, o, none⟩) 2 cp)) := HQ2.out.kept ho3 (by have := HG.out; have := HW1.out; omega)
  clear hby3 ho3 c5 d1 hcv
  have hcb := HBY3.out.back (cp := cap)
  rw [HTL.out] at hcb
  obtain ⟨r0, r1, r2, r3, r4, r5, _, _, _, _, _, _, _⟩ := HQ3.out
  go_wp2_with fail
  refine (HW.out w3 HO3.out).mono ?_
  rintro e w4 H4
  obtain ⟨B4, ao4, cp4, rfl, hS4, hF4, ho4, hB4⟩ := H4.2 HFIT.out
  have HS4 := hide hS4
  have HF4 := hide hF4
  have HB4 : Hid (w.heap.size + 1 < B4) := by
    have := hB4 (by simp)
    have := HP3.out.lt
    unfold Hid
    omega
  have HO4 := hide (o2 HO3.out ho4)
  have HP4 := hide (HP3.out.more ho4)
  clear hS4 hF4 hB4 ho4 H4 hcb r0 r1 r2 r3 r4 r5
  obtain ⟨q0, q1, q2, q3, q4, q5, t0, t1, t2, t3, t4, t5, tl⟩ := HP4.out
  simp only [List.set_cons_succ, List.set_cons_zero, List.length_cons, List.length_nil, Nat.zero_add, Nat.reduceAdd] at HS4 HF4 ⊢
  go_wp2_with fail
  refine bodyPost_ret (results_page rfl rfl (Pag.six HP4.out _ _ _ _ _ _)) rfl ?_
  exact res_end (by omega) ⟨a, 1, 0, 0, ⟨#[]⟩, [s0, str T]⟩ HS4.out HF4.out HO4.out (fun _ => HB4.out) 0 _ _ _ _ _ _
/-- Two texts in a new block. -/
theorem Strs.two (w : World) (s t : ByteArray) (hs : s.size ≤ 140737488355328) (ht : t.size ≤ 140737488355328) : Strs (w.alloc (.cells #[.string s, .string t] 9)) w.heap.size (some ⟨w.heap.size, 0, none⟩) [s, t] :=
  ⟨fun _ => ⟨0, rfl, fun j hj => by
    have hj2 : j = 0 ∨ j = 1 := by simp at hj; omega
    rcases hj2 with rfl | rfl <;> simp⟩, fun _ => by simp, by simp, fun u hu => by
    simp at hu
    rcases hu with rfl | rfl
    · exact hs
    · exact ht⟩
theorem repeat_any (c : Nat) (hc : c ≤ 512) (W : World) :
    Calls Tryz.prog 39 #[.string ⟨#[0]⟩, .int .i64 (c : Int)] W fun e w' => e = .returned (.string (str (List.replicate c 0))) ∧ Only (fun _ => False) W w' := by
  have e1 : (⟨#[0]⟩ : ByteArray).size = 1 := rfl
  have h1 := Tryz.strings_Repeat ⟨#[0]⟩ c W (by omega) (by rw [e1]; omega)
  refine Calls.mono h1 ?_
  rintro e w' ⟨rfl, hb⟩
  refine ⟨?_, only_below hb⟩
  rw [rep_zero]
  rfl
theorem Pag.zero (w : World) : Pag (w.alloc (.cells #[.int .i64 0, .int .i64 0, .int .i64 0, .int .i64 0, .string ⟨#[]⟩, .slice none 0 0] 37)) w.heap.size (.int .i64 0) (.int .i64 0) (.int .i64 0) (.int .i64 0) (.string ⟨#[]⟩) (.slice none 0 0) := Pag.new w _ _ _ _ _ _
set_option maxRecDepth 100000 in
set_option maxHeartbeats 800000 in
theorem cblank_ok (w : World) (m f : Int) (hI : Idd m f) :
    Calls Tryz.prog 19 #[.int .i64 m, .int .i64 f] w fun e w' => Res w w' e (blankP m f) 0 := by
  have hm : I64 m := ⟨by have := hI.1.1; omega, by have := hI.1.2.1; omega⟩
  have hx : I64 f := ⟨by have := hI.2; omega, by have := hI.2; have := hI.1.2.1; omega⟩
  have HI := hide (fun W => cisID_any m f W hm hx)
  simp only [decide_eq_true hI] at HI
  have HL := hide (fun W => laidLimit_any f W (by have := hI.2; omega) (by have := hI.2; have := hI.1.2.1; omega))
  have HB := hide (fun W => statusBytes_any m W hI.1)
  have hn := (nb_bd hI.1).2.1
  have HR := hide (fun W => repeat_any (nb m) (by omega) W)
  have HP := hide (Pag.zero w)
  have HO := hide (onlyA w (.cells #[.int .i64 0, .int .i64 0, .int .i64 0, .int .i64 0, .string ⟨#[]⟩, .slice none 0 0] 37))
  have hm1 := hm.1
  have hm2 := hm.2
  have hf1 := hx.1
  have hf2 := hx.2
  have hse : (sev f.toNat).length ≤ 10 := sevF_len 9 _
  unfold blankP
  obtain ⟨n, hnn⟩ : ∃ n, nb m = n := ⟨_, rfl⟩
  simp only [hnn] at HB HR hn
  rw [hnn]
  obtain ⟨S, hS⟩ : ∃ S, str (sev f.toNat) = S := ⟨_, rfl⟩
  obtain ⟨Z, hZ⟩ : ∃ Z, str (List.replicate n 0) = Z := ⟨_, rfl⟩
  have HS : Hid (S.size ≤ 140737488355328) := by unfold Hid; rw [← hS, str_size]; omega
  have HZ : Hid (Z.size ≤ 140737488355328) := by unfold Hid; rw [← hZ, str_size, List.length_replicate]; omega
  simp only [hS] at HL
  simp only [hZ] at HR
  rw [hS, hZ]
  clear hI hm hx hnn hS hZ hse
  go_enter Tryz.func19, Tryz.ntmps19
  go_wp2_with fail
  refine (HI.out _).mono ?_
  rintro e w1 ⟨rfl, hw⟩
  obtain rfl := hw.symm
  clear hw
  go_wp2_with fail
  refine (HL.out _).mono ?_
  rintro e w2 ⟨rfl, ho2⟩
  have HO2 := hide (o2 HO.out ho2)
  have HP2 := hide (HP.out.more ho2)
  clear ho2
  go_wp2_with fail
  refine (HB.out _).mono ?_
  rintro e w1 ⟨rfl, hw⟩
  obtain rfl := hw.symm
  clear hw
  go_wp2_with fail
  refine (HR.out _).mono ?_
  rintro e w3 ⟨rfl, ho3⟩
  have HO3 := hide (o2 HO2.out ho3)
  have HP3 := hide (HP2.out.more ho3)
  clear ho3
  have HP4 := hide (HP3.out.more (onlyA w3 (.cells #[.string S, .string Z] 9)))
  have HO4 := hide (o2 HO3.out (onlyA w3 (.cells #[.string S, .string Z] 9)))
  have HS4 := hide (Strs.two w3 S Z HS.out HZ.out)
  have hlt := HP3.out.lt
  go_upto_region 4 with fail
  obtain ⟨g, hg⟩ : ∃ g, w3.heap.size = g := ⟨_, rfl⟩
  obtain ⟨w4, hw4⟩ : ∃ w4, w3.alloc (.cells #[.string S, .string Z] 9) = w4 := ⟨_, rfl⟩
  rw [hw4] at HP4 HO4 HS4 ⊢
  rw [hg] at HS4 hlt ⊢
  clear hw4 hg HP3 HO3
  obtain ⟨q0, q1, q2, q3, q4, q5, t0, t1, t2, t3, t4, t5, tl⟩ := HP4.out
  go_wp2_with fail
  refine bodyPost_ret (results_page rfl rfl (Pag.six HP4.out _ _ _ _ _ _)) rfl ?_
  exact res_end (cp := 2) (Nat.le_refl _) ⟨0, 1, 0, 0, ⟨#[]⟩, [S, Z]⟩ HS4.out ⟨(fun h => by cases h), Nat.le_refl _, (by unfold maxLen; omega)⟩ HO4.out (fun _ => hlt) 0 _ _ _ _ _ _
end Go.Proofs.YtajjakljheafjaaGreat
namespace Go.Proofs.YtajjakljheafjaaGreat
open Go.RowKit Go.Maps
/-- An element's cells: so many, one value each. -/
structure Lyt (α : Type) where
  c : Nat
  e : α → List Value
  len : ∀ x, (e x).length = c
  one : ∀ x, ∀ u ∈ e x, u.oneCell' = true
theorem Lyt.length {α : Type} (E : Lyt α) (L : List α) : (L.flatMap E.e).length = L.length * E.c := by
  induction L with
  | nil => simp
  | cons x L ih => rw [List.flatMap_cons, List.length_append, ih, E.len, List.length_cons, Nat.add_mul]; omega
theorem Lyt.ones {α : Type} (E : Lyt α) (L : List α) : ∀ u ∈ L.flatMap E.e, u.oneCell' = true := by
  intro u hu
  obtain ⟨x, _, hx⟩ := List.mem_flatMap.1 hu
  exact E.one x u hx
theorem Lyt.get {α : Type} (E : Lyt α) {L : List α} {j i : Nat} (hj : j < L.length) (hi : i < E.c) : (L.flatMap E.e)[j * E.c + i]? = (E.e L[j])[i]? := by
  have e : L = L.take j ++ L[j] :: L.drop (j + 1) := by rw [← List.drop_eq_getElem_cons hj, List.take_append_drop]
  have e2 : L.flatMap E.e = (L.take j).flatMap E.e ++ (E.e L[j] ++ (L.drop (j + 1)).flatMap E.e) := by
    conv => lhs; rw [e]
    rw [List.flatMap_append, List.flatMap_cons]
  have hl : ((L.take j).flatMap E.e).length = j * E.c := by rw [E.length, List.length_take]; rw [Nat.min_eq_left (by omega)]
  rw [e2, List.getElem?_append_right (by omega), hl, List.getElem?_append_left (by rw [E.len]; omega)]
  congr 1
  omega
/-- A row that the value v owns, in a block from base on. -/
def GRow {α : Type} (E : Lyt α) (ty : TypeId) (w : World) (base : Nat) (v : Value) (L : List α) : Prop := w.ownsRow base ty E.c v L.length (L.flatMap E.e)
section
variable {α : Type} {E : Lyt α} {ty : TypeId}
theorem GRow.nil (w : World) (base : Nat) : GRow E ty w base (.slice none 0 0) [] := ⟨by simp, .inl ⟨rfl, rfl⟩⟩
theorem GRow.kept {S : Nat → Prop} {w w' : World} {base : Nat} {v : Value} {L : List α} (h : GRow E ty w base v L) (ho : Only S w w') (hS : ∀ k, v.ownBlock = some k → ¬ S k) : GRow E ty w' base v L := by
  obtain ⟨h1, h2⟩ := h
  refine ⟨h1, ?_⟩
  rcases h2 with h2 | ⟨g, cap, cur, hv, hg, hh, r⟩
  · exact .inl h2
  · subst hv
    exact .inr ⟨g, cap, cur, rfl, hg, by rw [ho.block g (Array.getElem?_eq_some_iff.1 hh).1 (hS g rfl)]; exact hh, r⟩
theorem GRow.more {w w' : World} {base : Nat} {v : Value} {L : List α} (h : GRow E ty w base v L) (ho : Only (fun _ => False) w w') : GRow E ty w' base v L := h.kept ho (fun _ _ => id)
theorem GRow.low {w : World} {base : Nat} {v : Value} {L : List α} (h : GRow E ty w base v L) : ∀ k, v.ownBlock = some k → base ≤ k ∧ k < w.heap.size := fun k hk => World.ownsRow.lt h k hk
theorem GRow.base {w : World} {b b' : Nat} {v : Value} {L : List α} (h : GRow E ty w b v L) (hb : b' ≤ b) : GRow E ty w b' v L := by
  obtain ⟨h1, h2⟩ := h
  refine ⟨h1, ?_⟩
  rcases h2 with h2 | ⟨g, cap, cur, hv, hg, r⟩
  · exact .inl h2
  · exact .inr ⟨g, cap, cur, hv, Nat.le_trans hb hg, r⟩
theorem GRow.form {w : World} {base : Nat} {v : Value} {L : List α} (h : GRow E ty w base v L) : ∃ ao cp, v = .slice ao L.length cp := by
  rcases h.2 with ⟨rfl, h0⟩ | ⟨g, cap, cur, rfl, _⟩
  · exact ⟨none, 0, by rw [h0]⟩
  · exact ⟨_, _, rfl⟩
/-- What a row's slice looks like: nil, or the head of its block. -/
theorem GRow.head {w : World} {base cp : Nat} {ao : Option Addr} {L : List α} (h : GRow E ty w base (.slice ao L.length cp) L) : (ao = none ∧ L = [] ∧ cp = 0) ∨ ∃ g, ao = some ⟨g, 0, none⟩ ∧ base ≤ g ∧ g < w.heap.size ∧ L.length ≤ cp ∧ cp ≤ maxLen ∧ (∀ i, w.frozen? ⟨g, i, none⟩ = false) ∧ ∀ i u, (L.flatMap E.e)[i]? = some u → w.cell? ⟨g, i, none⟩ = some u := by
  have h' := h
  rcases h.2 with ⟨e, h0⟩ | ⟨g, cap, cur, e, hb, hh, hc, hm, _, _⟩
  · injection e with e1 e2 e3
    exact .inl ⟨e1, List.eq_nil_of_length_eq_zero e2, e3⟩
  · injection e with e1 e2 e3
    subst e1
    subst e3
    refine .inr ⟨g, rfl, hb, (Array.getElem?_eq_some_iff.1 hh).1, hc, hm, ?_, fun i u hu => ?_⟩
    · simp [World.frozen?, hh]
    · have := World.ownsRow.cells h' (g := g) rfl i u hu
      rwa [show (⟨g, 0, none⟩ : Addr).add i = ⟨g, i, none⟩ from by rw [add_at]; simp] at this
theorem GRow.at_ {w : World} {base cp : Nat} {ao : Option Addr} {L : List α} (h : GRow E ty w base (.slice ao L.length cp) L) {j : Nat} (hj : j < L.length) : ∃ g, ao = some ⟨g, 0, none⟩ ∧ base ≤ g ∧ g < w.heap.size ∧ L.length ≤ cp ∧ ∀ i u, i < E.c → (E.e L[j])[i]? = some u → w.cell? ⟨g, j * E.c + i, none⟩ = some u := by
  rcases h.head with ⟨_, e, _⟩ | ⟨g, e, h1, h2, h3, _, _, h4⟩
  · subst e; simp at hj
  · exact ⟨g, e, h1, h2, h3, fun i u hi hu => h4 _ u (by rw [E.get hj hi]; exact hu)⟩
/-- What is appended: so many elements from an address on. -/
def GSrc (E : Lyt α) (w : World) (ao : Option Addr) (m : Nat) (N : List α) : Prop :=
  N.length = m ∧ ((ao = none ∧ m = 0) ∨ ∃ a, ao = some a ∧ ∀ j u, (N.flatMap E.e)[j]? = some u → w.cell? (a.add j) = some u)
theorem GSrc.new (w : World) (x : α) (t : TypeId) : GSrc E (w.alloc (.cells (E.e x).toArray t)) (some ⟨w.heap.size, 0, none⟩) 1 [x] := by
  refine ⟨rfl, .inr ⟨_, rfl, fun j u hu => ?_⟩⟩
  have hu' : (E.e x)[j]? = some u := by simpa using hu
  rw [add_at]
  have hj := (List.getElem?_eq_some_iff.1 hu').1
  simp only [World.cell?, World.alloc]
  simpa using hu'
theorem own_grownE (w : World) {base : Nat} {e : TypeId} {n m old c : Nat} {z : Value} {xs news : List Value} (hz : z.cells.size = c) (hx : xs.length = n * c) (hl : news.length = m * c) (h63 : n + m ≤ maxLen) (hbase : base ≤ w.heap.size) (row : Option Nat) :
    (w.drew.alloc (.cells (xs.toArray ++ news.toArray ++ Builtin.zeroCells z.cells (grownCap w (n + m) old e - (n + m))) e)).ownsRow base e c (.slice (some ⟨w.heap.size, 0, none⟩) (n + m) (grownCap w (n + m) old e)) (n + m) (xs ++ news) ∧
    w.grownBy (w.drew.alloc (.cells (xs.toArray ++ news.toArray ++ Builtin.zeroCells z.cells (grownCap w (n + m) old e - (n + m))) e)) row := by
  have hge := grownCap_ge w (n + m) old e
  have hcm : grownCap w (n + m) old e ≤ maxLen := grownCap_le_maxLen w (n + m) old e h63
  have hlen : (xs ++ news).length = (n + m) * c := by rw [List.length_append, hx, hl, Nat.add_mul]
  refine ⟨⟨hlen, .inr ⟨w.heap.size, _, _, rfl, hbase, heap_alloc_new w.drew _, hge, hcm, ?_, ?_⟩⟩, ⟨rfl, rfl, rfl, by simp, fun k hk _ => Below.heap_alloc w.drew _ k hk⟩⟩
  · simp only [Array.size_append, List.size_toArray, size_zeroCells, hz, hx, hl]
    rw [← Nat.add_mul, ← Nat.add_mul]
    congr 1
    omega
  · simp only [Array.toList_append, List.append_assoc]
    rw [← List.append_assoc, ← hlen]
    exact List.take_left
theorem grow_append {w : World} {base : Nat} {v : Value} {L N : List α} {ao : Option Addr} {m : Nat} {t : TypeId} {z : Value} {bytes : Nat} (ht : Tryz.prog.underlying t = some (.slice ty)) (hinf : (Tryz.prog.info? ty).map (fun i => (i.zero, i.size, i.bytes)) = some (some z, E.c, bytes)) (hzs : z.cells.size = E.c)
    (h : GRow E ty w base v L) (hs : GSrc E w ao m N) (hn : (L.length + m + (L.length + m) / 4 + 512) * bytes ≤ 281474976710656) (hn2 : L.length + m ≤ maxLen) (hb : base ≤ w.heap.size) (tr : TypeId) (c : Nat) :
    ∃ v' w', (Builtin.append_ #[t, t] tr #[v, .slice ao m c]).run Tryz.prog w = .ok v' w' ∧ GRow E ty w' base v' (L ++ N) ∧ w.grownBy w' v.ownBlock ∧ (v'.ownBlock = v.ownBlock ∨ v'.ownBlock = some w.heap.size) := by
  obtain ⟨i0, hi, hz0, hz1, hz2⟩ := info_parts hinf
  obtain ⟨hl, h0 | ⟨a, rfl, hc⟩⟩ := hs
  · obtain ⟨rfl, rfl⟩ := h0
    have hN : N = [] := List.eq_nil_of_length_eq_zero hl
    subst hN
    refine ⟨v, w, ?_, by rw [List.append_nil]; exact h, ⟨rfl, rfl, rfl, Nat.le_refl _, fun _ _ _ => rfl⟩, .inl rfl⟩
    rcases h.2 with ⟨rfl, _⟩ | ⟨g, cap, cur, rfl, _, _, hle, _⟩
    · simp [Builtin.append_, run_underlying ht, sizeOf, typeInfo, hi, Builtin.lenOf, Builtin.firstCells]
    · simp [Builtin.append_, run_underlying ht, sizeOf, typeInfo, hi, Builtin.lenOf, Builtin.firstCells, storeCells, hle]
  · have h63 : L.length + m ≤ maxLen := hn2
    have hlN : (N.flatMap E.e).length = m * i0.size := by rw [E.length, hl, hz1]
    have hLN : (L ++ N).length = L.length + m := by rw [List.length_append, hl]
    have hm63 : ((L.length + m : Nat) : Int) ≤ 9223372036854775807 := by unfold maxLen at h63; omega
    have grn : ∀ old, old < L.length + m → Builtin.nextslicecap (L.length + m) old * i0.bytes ≤ 281474976710656 := fun old ho => by
      rw [hz2]
      exact Nat.le_trans (Nat.mul_le_mul_right _ (next_le ho)) hn
    have fold : ∀ w' v', w'.ownsRow base ty E.c v' (L.length + m) (L.flatMap E.e ++ N.flatMap E.e) → GRow E ty w' base v' (L ++ N) := fun w' v' ho => by
      unfold GRow
      rw [hLN, List.flatMap_append]
      exact ho
    rcases h.2 with ⟨rfl, e0⟩ | ⟨g, cap, cur, rfl, hbg, hg, hnc, hcm, hcs, htake⟩
    · have hL : L = [] := List.eq_nil_of_length_eq_zero e0
      subst hL
      by_cases hm : m = 0
      · subst hm
        have hN : N = [] := List.eq_nil_of_length_eq_zero hl
        subst hN
        refine ⟨.slice none 0 0, w, ?_, h, ⟨rfl, rfl, rfl, Nat.le_refl _, fun _ _ _ => rfl⟩, .inl rfl⟩
        simp [Builtin.append_, run_underlying ht, sizeOf, typeInfo, hi, Builtin.lenOf, Builtin.firstCells, loadCells, loadCellsFrom]
      · have h48 : m * i0.bytes ≤ 281474976710656 := by
          rw [hz2]
          refine Nat.le_trans (Nat.mul_le_mul_right _ ?_) hn
          simp
          omega
        have hr := run_append_nil (P := Tryz.prog) w t tr ty i0 z ht hi hz0 a m c (N.flatMap E.e) hlN hc (by omega) (by simpa using hm63) h48
        have hgr := own_grownE w (base := base) (e := ty) (n := 0) (m := m) (old := 0) (xs := []) hzs (by simp) (by rw [E.length, hl]) (by simpa using h63) hb (Value.ownBlock (.slice none 0 0))
        simp only [Nat.zero_add, List.nil_append, Array.empty_append] at hgr ⊢
        have hf := fold _ _ (by simpa using hgr.1)
        simp only [List.nil_append] at hf
        exact ⟨_, _, hr, hf, hgr.2, .inr rfl⟩
    · by_cases hrm : L.length + m ≤ cap
      · have hfit : L.length * i0.size + (N.flatMap E.e).length ≤ cur.size := by
          rw [hlN, hz1, hcs, ← Nat.add_mul]
          exact Nat.mul_le_mul_right _ hrm
        have hr := run_append_room (P := Tryz.prog) w t tr ty i0 ht hi g L.length cap cur hg a m c (N.flatMap E.e) hlN hc (E.ones N) hrm hfit
        rw [hz1] at hr hfit
        refine ⟨_, _, hr, fold _ _ ⟨by rw [List.length_append, E.length, E.length, hl, Nat.add_mul], .inr ⟨g, cap, _, rfl, hbg, setRow_heap w g cur _ ty _ hg, hrm, hcm, ?_, ?_⟩⟩, ⟨rfl, rfl, rfl, by simp, fun k _ hk => setRow_other w g k _ (fun e => hk (by simp [Value.ownBlock, e]))⟩, .inl rfl⟩
        · simp only [List.size_toArray, List.length_append, List.length_take, List.length_drop, Array.length_toList]
          omega
        · have hlen : (L.flatMap E.e ++ N.flatMap E.e).length = (L.length + m) * E.c := by rw [List.length_append, E.length, E.length, hl, Nat.add_mul]
          rw [htake, ← hlen]
          exact List.take_left
      · have hr := run_append_grow (P := Tryz.prog) w t tr ty i0 z ht hi hz0 ⟨g, 0, none⟩ L.length cap (L.flatMap E.e) (by rw [hz1, E.length]) (World.ownsRow.cells h (g := g) rfl) a m c (N.flatMap E.e) hlN hc (by omega) hm63 (grn cap (by omega))
        have hgr := own_grownE w (base := base) (e := ty) (n := L.length) (m := m) (old := cap) (xs := L.flatMap E.e) hzs (E.length L) (by rw [E.length, hl]) h63 hb (Value.ownBlock (.slice (some ⟨g, 0, none⟩) L.length cap))
        exact ⟨_, _, hr, fold _ _ hgr.1, hgr.2, .inr rfl⟩
end
/-- A row of an answer: its key, its value. -/
def ERw : Lyt (ByteArray × ByteArray) := ⟨2, fun p => [.string p.1, .string p.2], fun _ => rfl, fun x u hu => by simp at hu; rcases hu with rfl | rfl <;> rfl⟩
theorem Tryz.infoRow : (Tryz.prog.info? 80).map (fun i => (i.zero, i.size, i.bytes)) = some (some (.agg #[.string ⟨#[]⟩, .string ⟨#[]⟩]), 2, 32) := by kernel_rfl
abbrev RowsAt (w : World) (base : Nat) (v : Value) (L : List (ByteArray × ByteArray)) : Prop := GRow ERw 80 w base v L
theorem rows_one {w : World} {base : Nat} {v : Value} {L : List (ByteArray × ByteArray)} (h : RowsAt w base v L) (x : ByteArray × ByteArray) (hn : L.length ≤ 1000) (hb : base ≤ w.heap.size) (tr : TypeId) (c : Nat) :
    ∃ v' w', (Builtin.append_ #[53, 53] tr #[v, .slice (some ⟨w.heap.size, 0, none⟩) 1 c]).run Tryz.prog (w.alloc (.cells #[.string x.1, .string x.2] 80)) = .ok v' w' ∧ RowsAt w' base v' (L ++ [x]) ∧ Only (fun k => v.ownBlock = some k) w w' ∧ (v'.ownBlock = v.ownBlock ∨ v'.ownBlock = some (w.heap.size + 1)) := by
  obtain ⟨v', w', h1, h2, h3, h4⟩ := grow_append (w := w.alloc (.cells #[.string x.1, .string x.2] 80)) (N := [x]) (ao := some ⟨w.heap.size, 0, none⟩) (m := 1) Tryz.underlying53 Tryz.infoRow rfl (h.more (onlyA _ _)) (GSrc.new w x 80) (by omega) (by unfold maxLen; omega) (by simp; omega) tr c
  refine ⟨v', w', h1, h2, ?_, by simpa using h4⟩
  exact ((onlyA w _).mono (fun _ _ h => h.elim)).trans (Only.grown h3 (fun k hk => hk)) (fun _ _ h => h)
end Go.Proofs.YtajjakljheafjaaGreat
namespace Go.Proofs.YtajjakljheafjaaGreat
open Go.RowKit
/-- The High of a page whose head is a node's; the least, where there is none. -/
def hdO (k v r : Int) (h : ByteArray) : Option En := if k = 3 ∧ 0 ≤ v ∧ v ≤ 255 ∧ 0 ≤ r ∧ r ≤ 65535 then (if h = ⟨#[]⟩ then some noE else decE (bl h)) else none
theorem readHead_few (w : World) (a k v r : Int) (h : ByteArray) (ao : Option Addr) (n cp : Nat) (hb : ¬ (k = 3 ∧ 0 ≤ v ∧ v ≤ 255 ∧ 0 ≤ r ∧ r ≤ 65535)) :
    Calls Tryz.prog 124 #[pgv a k v r h ao n cp] w fun e w' => e = .returned (.tuple #[noE.agg, .bool false]) ∧ Only (fun _ => False) w w' := by
  by_cases hk : k = 3
  · subst hk
    have HX := hide (hd_new w (.int .i64 a) (.int .i64 3) (.int .i64 v) (.int .i64 r) (.string h) (.slice ao n cp))
    by_cases h1 : v < 0
    · clear hb
      unfold pgv
      go_enter Tryz.func124, Tryz.ntmps124
      go_upto_region 1 with fail
      obtain ⟨W0, hW0⟩ : ∃ x, (w.alloc (.cells #[.int .i64 a, .int .i64 3, .int .i64 v, .int .i64 r, .string h, .slice ao n cp] 37)).alloc (.cells #[.string ⟨#[]⟩, .int .i64 0, .int .i64 0] 89) = x := ⟨_, rfl⟩
      rw [hW0] at HX ⊢
      clear hW0
      obtain ⟨p0, p1, p2, p3, p4, p5, _⟩ := HX.out.1
      obtain ⟨q0, q1, q2, g0, g1, g2, ql⟩ := HX.out.2.1
      go_wp2_with fail
      refine bodyPost_ret (results_ev rfl rfl (HX.out.2.1.all noE)) rfl ?_
      exact ⟨rfl, HX.out.2.2.trans (Only.three _ _ _ _ _) (fun i hi e => by omega)⟩
    · by_cases h2 : (255 : Int) < v
      · clear hb
        unfold pgv
        go_enter Tryz.func124, Tryz.ntmps124
        go_upto_region 1 with fail
        obtain ⟨W0, hW0⟩ : ∃ x, (w.alloc (.cells #[.int .i64 a, .int .i64 3, .int .i64 v, .int .i64 r, .string h, .slice ao n cp] 37)).alloc (.cells #[.string ⟨#[]⟩, .int .i64 0, .int .i64 0] 89) = x := ⟨_, rfl⟩
        rw [hW0] at HX ⊢
        clear hW0
        obtain ⟨p0, p1, p2, p3, p4, p5, _⟩ := HX.out.1
        obtain ⟨q0, q1, q2, g0, g1, g2, ql⟩ := HX.out.2.1
        go_wp2_with fail
        refine bodyPost_ret (results_ev rfl rfl (HX.out.2.1.all noE)) rfl ?_
        exact ⟨rfl, HX.out.2.2.trans (Only.three _ _ _ _ _) (fun i hi e => by omega)⟩
      · have HN : Hid (∀ W, Calls Tryz.prog 126 #[.int .i64 r] W fun e w' => e = .returned (.bool false) ∧ w' = W) := fun W => by
          have := isNumber_any r W
          rwa [show nm r = false by unfold nm; simp; omega] at this
        clear hb
        unfold pgv
        go_enter Tryz.func124, Tryz.ntmps124
        go_upto_region 1 with fail
        obtain ⟨W0, hW0⟩ : ∃ x, (w.alloc (.cells #[.int .i64 a, .int .i64 3, .int .i64 v, .int .i64 r, .string h, .slice ao n cp] 37)).alloc (.cells #[.string ⟨#[]⟩, .int .i64 0, .int .i64 0] 89) = x := ⟨_, rfl⟩
        rw [hW0] at HX ⊢
        clear hW0
        obtain ⟨p0, p1, p2, p3, p4, p5, _⟩ := HX.out.1
        obtain ⟨q0, q1, q2, g0, g1, g2, ql⟩ := HX.out.2.1
        go_wp2_with fail
        refine (HN.out _).mono ?_
        rintro x w1 ⟨rfl, h1⟩
        obtain rfl := h1.symm
        go_wp2_with fail
        refine bodyPost_ret (results_ev rfl rfl (HX.out.2.1.all noE)) rfl ?_
        exact ⟨rfl, HX.out.2.2.trans (Only.three _ _ _ _ _) (fun i hi e => by omega)⟩
  · exact readHead_bad w a k v r h ao n cp hk
theorem readHead_none (w : World) (a v r : Int) (h : ByteArray) (ao : Option Addr) (n cp : Nat) (hv : 0 ≤ v ∧ v ≤ 255) (hr : 0 ≤ r ∧ r ≤ 65535) (hx : ¬ h = ⟨#[]⟩) (hd : decE (bl h) = none) :
    Calls Tryz.prog 124 #[pgv a 3 v r h ao n cp] w fun e w' => e = .returned (.tuple #[noE.agg, .bool false]) ∧ Only (fun _ => False) w w' := by
  have HX := hide (hd_new w (.int .i64 a) (.int .i64 3) (.int .i64 v) (.int .i64 r) (.string h) (.slice ao n cp))
  have HN : Hid (∀ W, Calls Tryz.prog 126 #[.int .i64 r] W fun e w' => e = .returned (.bool true) ∧ w' = W) := fun W => by
    have := isNumber_any r W
    rwa [show nm r = true by unfold nm; simp; omega] at this
  have t1 : ¬ v < 0 := by omega
  have t2 : ¬ (255 : Int) < v := by omega
  have HD : Hid (∀ W, Calls Tryz.prog 99 #[.string h] W fun e w' => e = .returned (.tuple #[.agg #[.string ⟨#[]⟩, .int .i64 0, .int .i64 0], .int .i64 140]) ∧ Only (fun _ => False) W w') := fun W => by
    have := decode_any h W
    rw [hd] at this
    exact this
  have hne := ba_neN (s := h) (t := ⟨#[]⟩) hx
  have hne' : ¬ h.toList = [] := by
    have h2 : ¬ h.toList = (⟨#[]⟩ : ByteArray).toList := by simpa using hne
    rw [ByteArray.toList_eq ⟨#[]⟩] at h2
    exact h2
  have hn1 : (h.toList == []) = false := by simpa using hne'
  have hn2 : h.toList.isEmpty = false := by
    cases e : h.toList with
    | nil => exact absurd e hne'
    | cons _ _ => rfl
  clear hx hd hne hv hr
  unfold pgv
  go_enter Tryz.func124, Tryz.ntmps124
  go_upto_region 1 with fail
  obtain ⟨W0, hW0⟩ : ∃ x, (w.alloc (.cells #[.int .i64 a, .int .i64 3, .int .i64 v, .int .i64 r, .string h, .slice ao n cp] 37)).alloc (.cells #[.string ⟨#[]⟩, .int .i64 0, .int .i64 0] 89) = x := ⟨_, rfl⟩
  rw [hW0] at HX ⊢
  clear hW0
  obtain ⟨p0, p1, p2, p3, p4, p5, _⟩ := HX.out.1
  go_wp2_with fail
  refine (HN.out _).mono ?_
  rintro x w1 ⟨rfl, h1⟩
  obtain rfl := h1.symm
  go_wp2_with fail
  refine (HD.out _).mono ?_
  rintro x w2 ⟨rfl, ho⟩
  have HE2 := hide (HX.out.2.1.more ho)
  have HO2 := hide (o2 HX.out.2.2 ho)
  clear ho p0 p1 p2 p3 p4 p5 HX
  go_upto_region 6 with fail
  have HE3 := hide (HE2.out.more (onlyA w2 (.cells #[.string ⟨#[]⟩, .int .i64 0, .int .i64 0] 89)))
  have HO3 := hide (o2 HO2.out (onlyA w2 (.cells #[.string ⟨#[]⟩, .int .i64 0, .int .i64 0] 89)))
  have HV3 := hide (Ev.new w2 noE)
  clear HE2 HO2
  obtain ⟨W3, hW3⟩ : ∃ x, w2.alloc (.cells #[.string ⟨#[]⟩, .int .i64 0, .int .i64 0] 89) = x := ⟨_, rfl⟩
  have HV4 : Hid (Ev W3 w2.heap.size noE) := by rw [← hW3]; exact HV3.out
  rw [hW3] at HE3 HO3 ⊢
  clear hW3 HV3
  obtain ⟨q0, q1, q2, g0, g1, g2, ql⟩ := HE3.out
  obtain ⟨d0, d1, d2, _⟩ := HV4.out
  go_wp2_with fail
  refine bodyPost_ret (results_ev rfl rfl (HE3.out.all noE)) rfl ?_
  exact ⟨rfl, HO3.out.trans (Only.three _ _ _ _ _) (fun i hi e => by omega)⟩
theorem HiIs.of_dec {h : ByteArray} {hi : En} (hd : decE (bl h) = some hi) : HiIs h hi := by
  obtain ⟨o1, o2⟩ := decE_some hd
  exact .inr ⟨by unfold En.enc; rw [← o2, str_bl], o1⟩
/-- readHead of any page. -/
theorem readHead_any (w : World) (a k v r : Int) (h : ByteArray) (ao : Option Addr) (n cp : Nat) :
    Calls Tryz.prog 124 #[pgv a k v r h ao n cp] w fun e w' => e = .returned (.tuple #[((hdO k v r h).getD noE).agg, .bool (hdO k v r h).isSome]) ∧ Only (fun _ => False) w w' := by
  unfold hdO
  by_cases hb : k = 3 ∧ 0 ≤ v ∧ v ≤ 255 ∧ 0 ≤ r ∧ r ≤ 65535
  · rw [if_pos hb]
    obtain ⟨rfl, h1, h2, h3, h4⟩ := hb
    by_cases hx : h = ⟨#[]⟩
    · rw [if_pos hx]
      exact readHead_ok w a v r h noE ao n cp ⟨h1, h2⟩ ⟨h3, h4⟩ (.inl ⟨hx, rfl⟩)
    · rw [if_neg hx]
      cases hd : decE (bl h) with
      | none => exact readHead_none w a v r h ao n cp ⟨h1, h2⟩ ⟨h3, h4⟩ hx hd
      | some hi => exact readHead_ok w a v r h hi ao n cp ⟨h1, h2⟩ ⟨h3, h4⟩ (HiIs.of_dec hd)
  · rw [if_neg hb]
    exact readHead_few w a k v r h ao n cp hb
end Go.Proofs.YtajjakljheafjaaGreat
