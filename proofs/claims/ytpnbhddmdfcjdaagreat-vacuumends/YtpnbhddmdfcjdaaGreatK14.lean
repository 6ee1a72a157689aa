/- Parts. -/
import Derived.Test.YtpnbhddmdfcjdaaGreatK13
import Derived.Lib.IndexBytes
set_option maxRecDepth 100000
namespace Go.Proofs.YtpnbhddmdfcjdaaGreat
open Go.RowKit
/-- A status laid over what stood there, as the code has it. -/
theorem lay_byte : ∀ b : Fin 256, ∀ k : Fin 4, ∀ v : Fin 4, bits BinOp.or IntKind.u8 (bits BinOp.andNot IntKind.u8 (b.val : Int) ((3 * 4 ^ k.val : Nat) % 256 : Int)) ((v.val * 4 ^ k.val : Nat) : Int) = (put4 b.val k.val v.val : Int) := by
  decide +kernel
instance (m : Int) (s : ByteArray) : Decidable (topOk m s) := by unfold topOk; infer_instance
theorem empty_iff (h : ByteArray) : h.toList.isEmpty = decide (h = ⟨#[]⟩) := by
  rw [ByteArray.toList_eq]
  obtain ⟨⟨l⟩⟩ := h
  cases l <;> simp
theorem careStatuses_any (m : Int) (s : ByteArray) (w : World) (h : Md m) :
    Calls Tryz.prog 138 #[.int .i64 m, .string s] w fun e w' => e = .returned (.bool (decide (s.size = nb m ∧ topOk m s))) ∧ w' = w := by
  have HB := hide (statusBytes_any m w h)
  have h16 := h.1
  have h1024 := h.2.1
  by_cases hn : s.size = nb m
  · have HP := hide (cplace_any m w (by omega) h1024)
    have hq : ((m - 1).toNat / 4 : Nat) < s.size := by have := nb_bd h; omega
    have e1 : ((m - 1) / 4).toNat = (m - 1).toNat / 4 := by omega
    have e2 : ((m - 1) % 4).toNat = (m - 1).toNat % 4 := by omega
    have hk4 : (m - 1).toNat % 4 < 4 := by omega
    obtain ⟨R, hR⟩ : ∃ R, decide (s.size = nb m ∧ topOk m s) = R := ⟨_, rfl⟩
    have HT : Hid (R = decide (byt (bl s) ((m - 1).toNat / 4) / 4 ^ ((m - 1).toNat % 4) ≤ 3)) := by
      unfold Hid
      rw [← hR]
      refine decide_eq_decide.2 ?_
      unfold topOk
      rw [e1, e2]
      exact ⟨fun h => h.2, fun h => ⟨hn, h⟩⟩
    rw [hR]
    have hsn : (s.size : Int) = (nb m : Int) := by omega
    obtain ⟨q, hqq⟩ : ∃ q, (m - 1).toNat / 4 = q := ⟨_, rfl⟩
    obtain ⟨k, hkk⟩ : ∃ k, (m - 1).toNat % 4 = k := ⟨_, rfl⟩
    rw [hqq, hkk] at HP HT
    rw [hqq] at hq
    rw [hkk] at hk4
    clear e1 e2 hn hqq hkk h hR
    have HBY : Hid (byt (bl s) q = (s[q]'hq).toNat) := by
      unfold Hid byt
      rw [List.getD_eq_getElem?_getD, List.getElem?_eq_getElem (by rw [bl_len]; exact hq)]
      rfl
    have hqi : (q : Int) < (s.size : Int) := by omega
    rcases k4 hk4 with rfl | rfl | rfl | rfl
    · go_enter Tryz.func138, Tryz.ntmps138
      go_wp2_with fail
      refine HB.out.mono ?_
      rintro e w1 ⟨rfl, hw⟩
      obtain rfl := hw.symm
      clear hw
      go_wp2_with fail
      refine HP.out.mono ?_
      rintro e w1 ⟨rfl, hw⟩
      obtain rfl := hw.symm
      clear hw
      go_wp2_with fail
      go_ret
      refine ⟨ret_bool ?_, rfl⟩
      rw [HT.out, HBY.out]
      exact decide_eq_decide.2 (by simp only [Nat.reducePow]; omega)
    · go_enter Tryz.func138, Tryz.ntmps138
      go_wp2_with fail
      refine HB.out.mono ?_
      rintro e w1 ⟨rfl, hw⟩
      obtain rfl := hw.symm
      clear hw
      go_wp2_with fail
      refine HP.out.mono ?_
      rintro e w1 ⟨rfl, hw⟩
      obtain rfl := hw.symm
      clear hw
      go_wp2_with fail
      go_ret
      refine ⟨ret_bool ?_, rfl⟩
      rw [HT.out, HBY.out]
      exact decide_eq_decide.2 (by simp only [Nat.reducePow]; omega)
    · go_enter Tryz.func138, Tryz.ntmps138
      go_wp2_with fail
      refine HB.out.mono ?_
      rintro e w1 ⟨rfl, hw⟩
      obtain rfl := hw.symm
      clear hw
      go_wp2_with fail
      refine HP.out.mono ?_
      rintro e w1 ⟨rfl, hw⟩
      obtain rfl := hw.symm
      clear hw
      go_wp2_with fail
      go_ret
      refine ⟨ret_bool ?_, rfl⟩
      rw [HT.out, HBY.out]
      exact decide_eq_decide.2 (by simp only [Nat.reducePow]; omega)
    · go_enter Tryz.func138, Tryz.ntmps138
      go_wp2_with fail
      refine HB.out.mono ?_
      rintro e w1 ⟨rfl, hw⟩
      obtain rfl := hw.symm
      clear hw
      go_wp2_with fail
      refine HP.out.mono ?_
      rintro e w1 ⟨rfl, hw⟩
      obtain rfl := hw.symm
      clear hw
      go_wp2_with fail
      go_ret
      refine ⟨ret_bool ?_, rfl⟩
      rw [HT.out, HBY.out]
      exact decide_eq_decide.2 (by simp only [Nat.reducePow]; omega)
  · have hd : decide (s.size = nb m ∧ topOk m s) = false := by simp [hn]
    rw [hd]
    obtain ⟨n, hnn⟩ : ∃ n, nb m = n := ⟨_, rfl⟩
    have hne : ¬ (s.size : Int) = (n : Int) := by omega
    rw [hnn] at HB
    clear hn hd hnn h
    go_enter Tryz.func138, Tryz.ntmps138
    go_wp2_with fail
    refine HB.out.mono ?_
    rintro e w1 ⟨rfl, hw⟩
    obtain rfl := hw.symm
    clear hw
    go_wp2_with fail
    go_ret
    exact ⟨rfl, rfl⟩
theorem isHead_any (w : World) (a k v r : Int) (h : ByteArray) (cp n : Nat) (ao : Option Addr) :
    Calls Tryz.prog 137 #[.agg #[.int .i64 a, .int .i64 k, .int .i64 v, .int .i64 r, .string h, .slice ao n cp]] w fun e w' => e = .returned (.bool (decide (k = 1 ∧ 0 ≤ a ∧ v = 0 ∧ r = 0 ∧ h = ⟨#[]⟩))) ∧ Only (fun _ => False) w w' := by
  have HO := hide (onlyA w (.cells #[.int .i64 a, .int .i64 k, .int .i64 v, .int .i64 r, .string h, .slice ao n cp] 30))
  go_enter Tryz.func137, Tryz.ntmps137
  go_wp2_with fail
  all_goals go_ret
  all_goals refine ⟨ret_bool ?_, onlyA _ _⟩
  all_goals clear HO
  all_goals (try rw [empty_iff])
  all_goals simp_all
  all_goals omega
/-- Bytes in block g that may be written. -/
structure Byt (w : World) (g : Nat) (l : List UInt8) : Prop where
  c : ∀ j (h : j < l.length), w.cell? ⟨g, j, none⟩ = some (.int .u8 (l[j].toNat : Int))
  f : ∀ j, j < l.length → w.frozen? ⟨g, j, none⟩ = false
  lt : g < w.heap.size
theorem Byt.set {w : World} {g : Nat} {l : List UInt8} (h : Byt w g l) {j n : Nat} (hj : j < l.length) (hn : n < 256) {V : Int} (hV : V = (n : Int)) :
    Byt (w.setCell ⟨g, j, none⟩ (.int .u8 V)).drew g (l.set j (UInt8.ofNat n)) ∧ Only (fun k => k = g) w (w.setCell ⟨g, j, none⟩ (.int .u8 V)).drew := by
  subst hV
  refine ⟨⟨fun i hi => ?_, fun i hi => ?_, ?_⟩, (Only.setCell (S := fun k => k = g) w ⟨g, j, none⟩ _ rfl).trans (Only.drew _ _) (fun _ _ h => h)⟩
  · have hi' := hi
    rw [List.length_set] at hi'
    show (w.setCell ⟨g, j, none⟩ (.int .u8 (n : Int))).cell? ⟨g, i, none⟩ = _
    by_cases e : i = j
    · subst e
      rw [World.cell?_setCell_same _ _ _ (h.c i hi')]
      simp only [List.getElem_set_self]
      rw [UInt8.toNat_ofNat_of_lt' hn]
    · rw [World.cell?_setCell_other _ _ _ _ (by intro q; injection q with _ q; exact e q.symm), h.c i hi', List.getElem_set_ne (by omega)]
  · rw [List.length_set] at hi
    have := h.f i hi
    simpa using this
  · have := h.lt
    simpa using this
theorem Byt.kept {S : Nat → Prop} {w w' : World} {g : Nat} {l : List UInt8} (h : Byt w g l) (ho : Only S w w') (hS : ¬ S g) : Byt w' g l :=
  ⟨fun j hj => (ho.cell (p := ⟨g, j, none⟩) h.lt hS).trans (h.c j hj), fun j hj => (ho.frozen (p := ⟨g, j, none⟩) h.lt hS).trans (h.f j hj), Nat.lt_of_lt_of_le h.lt ho.size⟩
theorem Byt.st {w : World} {g : Nat} {l : List UInt8} (h : Byt w g l) {i v k : Nat} (hi : i / 4 < l.length) (hk : i % 4 = k) (hv : v < 4) {V : Int} (hV : V = (put4 (l[i / 4]).toNat k v : Int)) :
    Byt (w.setCell ⟨g, i / 4, none⟩ (.int .u8 V)).drew g (stSet l i v) ∧ Only (fun k => k = g) w (w.setCell ⟨g, i / 4, none⟩ (.int .u8 V)).drew := by
  have hb : byt l (i / 4) = (l[i / 4]).toNat := by
    unfold byt
    rw [List.getD_eq_getElem?_getD, List.getElem?_eq_getElem hi]
    rfl
  subst hk
  rw [← hb] at hV
  exact h.set hi (put4_lt (byt_lt _ _) (Nat.mod_lt _ (by decide)) hv) hV
theorem clay_any (w : World) (g cp : Nat) (l : List UInt8) (x : Int) (v : Nat) (hB : Byt w g l) (h1 : 1 ≤ x) (h2 : x ≤ 1024) (hx : (x - 1).toNat / 4 < l.length) (hv : v < 4) :
    Calls Tryz.prog 46 #[.slice (some ⟨g, 0, none⟩) l.length cp, .int .i64 x, .int .u8 (v : Int)] w fun e w' => e = .returned (.tuple #[]) ∧ Byt w' g (stSet l (x - 1).toNat v) ∧ Only (fun k => k = g) w w' := by
  have HP := hide (cplace_any x w h1 h2)
  obtain ⟨q, hq⟩ : ∃ q, (x - 1).toNat / 4 = q := ⟨_, rfl⟩
  obtain ⟨k, hk⟩ : ∃ k, (x - 1).toNat % 4 = k := ⟨_, rfl⟩
  have hk4 : k < 4 := by omega
  have c0 := hB.c q (by omega)
  have f0 := hB.f q (by omega)
  rw [hq, hk] at HP
  have hql : (q : Int) < (l.length : Int) := by omega
  have HST : Hid (∀ V : Int, V = (put4 (l[q]).toNat k v : Int) → Byt (w.setCell ⟨g, q, none⟩ (.int .u8 V)).drew g (stSet l (x - 1).toNat v) ∧ Only (fun k => k = g) w (w.setCell ⟨g, q, none⟩ (.int .u8 V)).drew) := by
    intro V hV
    subst hq
    exact hB.st hx hk hv hV
  have hb := UInt8.toNat_lt l[q]
  have HLB := hide (lay_byte ⟨(l[q]).toNat, hb⟩ ⟨k, hk4⟩ ⟨v, hv⟩)
  obtain ⟨n, hn⟩ : ∃ n, (l[q]).toNat = n := ⟨_, rfl⟩
  simp only [hn] at HLB HST hb
  rw [hn] at c0
  clear hB hn hk h1 h2
  rcases k4 hk4 with rfl | rfl | rfl | rfl
  · go_enter Tryz.func46, Tryz.ntmps46
    go_wp2_with fail
    refine HP.out.mono ?_
    rintro e w1 ⟨rfl, hw⟩
    obtain rfl := hw.symm
    clear hw
    go_wp2_with fail
    go_region
    go_wp2_with fail
    go_end0
    refine ⟨rfl, HST.out _ ?_⟩
    have := HLB.out
    simp at this
    exact this
  · go_enter Tryz.func46, Tryz.ntmps46
    go_wp2_with fail
    refine HP.out.mono ?_
    rintro e w1 ⟨rfl, hw⟩
    obtain rfl := hw.symm
    clear hw
    go_wp2_with fail
    go_region
    go_wp2_with fail
    go_end0
    refine ⟨rfl, HST.out _ ?_⟩
    have := HLB.out
    simp at this
    exact this
  · go_enter Tryz.func46, Tryz.ntmps46
    go_wp2_with fail
    refine HP.out.mono ?_
    rintro e w1 ⟨rfl, hw⟩
    obtain rfl := hw.symm
    clear hw
    go_wp2_with fail
    go_region
    go_wp2_with fail
    go_end0
    refine ⟨rfl, HST.out _ ?_⟩
    have := HLB.out
    simp at this
    exact this
  · go_enter Tryz.func46, Tryz.ntmps46
    go_wp2_with fail
    refine HP.out.mono ?_
    rintro e w1 ⟨rfl, hw⟩
    obtain rfl := hw.symm
    clear hw
    go_wp2_with fail
    go_region
    go_wp2_with fail
    go_end0
    refine ⟨rfl, HST.out _ ?_⟩
    have := HLB.out
    simp at this
    exact this
theorem two_of {l : List ByteArray} (h : l.length = 2) : ∃ s t, l = [s, t] := by
  match l, h with
  | [s, t], _ => exact ⟨s, t, rfl⟩
theorem check_mod (w : World) (m a k v r : Int) (h : ByteArray) (cp n : Nat) (ao : Option Addr) (hm : I64 m) (hM : ¬ Md m) :
    Calls Tryz.prog 91 #[.int .i64 m, .agg #[.int .i64 a, .int .i64 k, .int .i64 v, .int .i64 r, .string h, .slice ao n cp]] w fun e w' => e = .returned (.int .i64 1) ∧ Only (fun _ => False) w w' := by
  have HM := hide (fun W => cisModulus_any m W hm)
  simp only [decide_eq_false hM] at HM
  clear hM
  have HO := hide (onlyA w (.cells #[.int .i64 a, .int .i64 k, .int .i64 v, .int .i64 r, .string h, .slice ao n cp] 30))
  go_enter Tryz.func91, Tryz.ntmps91
  go_wp2_with fail
  refine (HM.out _).mono ?_
  rintro e w1 ⟨rfl, hw⟩
  obtain rfl := hw.symm
  clear hw
  go_wp2_with fail
  go_ret
  exact ⟨rfl, HO.out⟩
theorem check_head (w : World) (m a k v r : Int) (h : ByteArray) (cp n : Nat) (ao : Option Addr) (hM : Md m) (hH : ¬ ((k = 1 ∧ 0 ≤ a ∧ v = 0 ∧ r = 0 ∧ h = ⟨#[]⟩) ∧ n = 2)) :
    Calls Tryz.prog 91 #[.int .i64 m, .agg #[.int .i64 a, .int .i64 k, .int .i64 v, .int .i64 r, .string h, .slice ao n cp]] w fun e w' => e = .returned (.int .i64 31) ∧ Only (fun _ => False) w w' := by
  have HM := hide (fun W => cisModulus_any m W ⟨by have := hM.1; omega, by have := hM.2.1; omega⟩)
  simp only [decide_eq_true hM] at HM
  clear hM
  have HI := hide (fun W => isHead_any W a k v r h cp n ao)
  have HO := hide (onlyA w (.cells #[.int .i64 a, .int .i64 k, .int .i64 v, .int .i64 r, .string h, .slice ao n cp] 30))
  have HP := hide (Pag.new w (.int .i64 a) (.int .i64 k) (.int .i64 v) (.int .i64 r) (.string h) (.slice ao n cp))
  by_cases hd : (k = 1 ∧ 0 ≤ a ∧ v = 0 ∧ r = 0 ∧ h = ⟨#[]⟩)
  · simp only [decide_eq_true hd] at HI
    have hn : ¬ (n : Int) = 2 := fun e => hH ⟨hd, by omega⟩
    clear hd hH
    go_enter Tryz.func91, Tryz.ntmps91
    go_wp2_with fail
    refine (HM.out _).mono ?_
    rintro e w1 ⟨rfl, hw⟩
    obtain rfl := hw.symm
    clear hw
    go_wp2_with fail
    refine (HI.out _).mono ?_
    rintro e w2 ⟨rfl, ho2⟩
    have c5 := (HP.out.more ho2).c5
    have HO2 := hide (o2 HO.out ho2)
    clear ho2
    go_wp2_with fail
    go_ret
    exact ⟨rfl, HO2.out⟩
  · simp only [decide_eq_false hd] at HI
    clear hd hH
    go_enter Tryz.func91, Tryz.ntmps91
    go_wp2_with fail
    refine (HM.out _).mono ?_
    rintro e w1 ⟨rfl, hw⟩
    obtain rfl := hw.symm
    clear hw
    go_wp2_with fail
    refine (HI.out _).mono ?_
    rintro e w2 ⟨rfl, ho2⟩
    have HO2 := hide (o2 HO.out ho2)
    clear ho2
    go_wp2_with fail
    go_ret
    exact ⟨rfl, HO2.out⟩
theorem check_two (w : World) (m a : Int) (cp B : Nat) (ao : Option Addr) (s0 s1 : ByteArray) (hM : Md m) (ha : 0 ≤ a) (hS : Strs w B ao [s0, s1]) :
    Calls Tryz.prog 91 #[.int .i64 m, .agg #[.int .i64 a, .int .i64 1, .int .i64 0, .int .i64 0, .string ⟨#[]⟩, .slice ao 2 cp]] w fun e w' => e = .returned (.int .i64 (if lim m s0 = 0 ∨ ¬ (s1.size = nb m ∧ topOk m s1) then 31 else 0)) ∧ Only (fun _ => False) w w' := by
  have HM := hide (fun W => cisModulus_any m W ⟨by have := hM.1; omega, by have := hM.2.1; omega⟩)
  simp only [decide_eq_true hM] at HM
  have HI : Hid (∀ W, Calls Tryz.prog 137 #[.agg #[.int .i64 a, .int .i64 1, .int .i64 0, .int .i64 0, .string ⟨#[]⟩, .slice ao 2 cp]] W fun e w' => e = .returned (.bool true) ∧ Only (fun _ => False) W w') := by
    intro W
    have q := isHead_any W a 1 0 0 ⟨#[]⟩ cp 2 ao
    rw [decide_eq_true (⟨rfl, ha, rfl, rfl, rfl⟩ : (1 : Int) = 1 ∧ 0 ≤ a ∧ (0 : Int) = 0 ∧ (0 : Int) = 0 ∧ (⟨#[]⟩ : ByteArray) = ⟨#[]⟩)] at q
    exact q
  have HL := hide (fun W => readLimit_any m s0 W (by have := hM.1; omega))
  have HA := hide (fun W => careStatuses_any m s1 W hM)
  have HO := hide (onlyA w (.cells #[.int .i64 a, .int .i64 1, .int .i64 0, .int .i64 0, .string ⟨#[]⟩, .slice ao 2 cp] 30))
  have HP := hide (Pag.new w (.int .i64 a) (.int .i64 1) (.int .i64 0) (.int .i64 0) (.string ⟨#[]⟩) (.slice ao 2 cp))
  have hlb := lim_bd (by have := hM.1; omega : 0 ≤ m) s0
  have hm2 := hM.2.1
  obtain ⟨o, rfl, hc⟩ := hS.at_ (by simp)
  have HS := hide hS
  have hB := hS.lt (by simp)
  have hc0 := hc 0 (by simp)
  have hc1 := hc 1 (by simp)
  simp only [List.getElem_cons_zero, List.getElem_cons_succ, Nat.add_zero] at hc0 hc1
  have HC0 := hide hc0
  have HC1 := hide hc1
  clear hS hc hc0 hc1 hM
  obtain ⟨L, hL⟩ : ∃ L, lim m s0 = L := ⟨_, rfl⟩
  obtain ⟨T, hT⟩ : ∃ T, decide (s1.size = nb m ∧ topOk m s1) = T := ⟨_, rfl⟩
  have HR : Hid ((if lim m s0 = 0 ∨ ¬ (s1.size = nb m ∧ topOk m s1) then (31 : Int) else 0) = if L = 0 ∨ T = false then 31 else 0) := by
    unfold Hid
    rw [hL]
    by_cases hq : s1.size = nb m ∧ topOk m s1
    · rw [decide_eq_true hq] at hT
      rw [← hT]
      simp [hq]
    · rw [decide_eq_false hq] at hT
      rw [← hT]
      simp [hq]
  rw [HR.out]
  simp only [hL] at HL hlb
  simp only [hT] at HA
  clear HR hL hT
  by_cases h0 : L = 0
  · rw [if_pos (.inl h0)]
    subst h0
    go_enter Tryz.func91, Tryz.ntmps91
    go_wp2_with fail
    refine (HM.out _).mono ?_
    rintro e w1 ⟨rfl, hw⟩
    obtain rfl := hw.symm
    clear hw
    go_wp2_with fail
    refine (HI.out _).mono ?_
    rintro e w2 ⟨rfl, ho2⟩
    have c5 := (HP.out.more ho2).c5
    have HO2 := hide (o2 HO.out ho2)
    have d0 := (HO2.out.cell (p := ⟨B, o, none⟩) hB (fun h => h)).trans HC0.out
    clear ho2
    go_wp2_with fail
    refine (HL.out _).mono ?_
    rintro e w3 ⟨rfl, ho3⟩
    have HO3 := hide (o2 HO2.out ho3)
    clear ho3
    go_wp2_with fail
    go_ret
    exact ⟨rfl, HO3.out⟩
  · have hne : (L == 0) = false := by simp [h0]
    cases T with
    | false =>
      rw [if_pos (.inr rfl)]
      go_enter Tryz.func91, Tryz.ntmps91
      go_wp2_with fail
      refine (HM.out _).mono ?_
      rintro e w1 ⟨rfl, hw⟩
      obtain rfl := hw.symm
      clear hw
      go_wp2_with fail
      refine (HI.out _).mono ?_
      rintro e w2 ⟨rfl, ho2⟩
      have c5 := (HP.out.more ho2).c5
      have HP2 := hide (HP.out.more ho2)
      have HO2 := hide (o2 HO.out ho2)
      have d0 := (HO2.out.cell (p := ⟨B, o, none⟩) hB (fun h => h)).trans HC0.out
      clear ho2
      go_wp2_with fail
      refine (HL.out _).mono ?_
      rintro e w3 ⟨rfl, ho3⟩
      clear c5 d0
      have c5 := (HP2.out.more ho3).c5
      have HO3 := hide (o2 HO2.out ho3)
      have d1 := (HO3.out.cell (p := ⟨B, o + 1, none⟩) hB (fun h => h)).trans HC1.out
      clear ho3
      go_wp2_with fail
      refine (HA.out _).mono ?_
      rintro e w4 ⟨rfl, hw⟩
      obtain rfl := hw.symm
      clear hw
      go_wp2_with fail
      go_ret
      exact ⟨rfl, HO3.out⟩
    | true =>
      rw [if_neg (fun h => h.elim h0 (fun e => by cases e))]
      go_enter Tryz.func91, Tryz.ntmps91
      go_wp2_with fail
      refine (HM.out _).mono ?_
      rintro e w1 ⟨rfl, hw⟩
      obtain rfl := hw.symm
      clear hw
      go_wp2_with fail
      refine (HI.out _).mono ?_
      rintro e w2 ⟨rfl, ho2⟩
      have c5 := (HP.out.more ho2).c5
      have HP2 := hide (HP.out.more ho2)
      have HO2 := hide (o2 HO.out ho2)
      have d0 := (HO2.out.cell (p := ⟨B, o, none⟩) hB (fun h => h)).trans HC0.out
      clear ho2
      go_wp2_with fail
      refine (HL.out _).mono ?_
      rintro e w3 ⟨rfl, ho3⟩
      clear c5 d0
      have c5 := (HP2.out.more ho3).c5
      have HO3 := hide (o2 HO2.out ho3)
      have d1 := (HO3.out.cell (p := ⟨B, o + 1, none⟩) hB (fun h => h)).trans HC1.out
      clear ho3
      go_wp2_with fail
      refine (HA.out _).mono ?_
      rintro e w4 ⟨rfl, hw⟩
      obtain rfl := hw.symm
      clear hw
      go_wp2_with fail
      go_ret
      exact ⟨rfl, HO3.out⟩
theorem ccheck_any (w : World) (m a k v r : Int) (h : ByteArray) (cp B : Nat) (ao : Option Addr) (l : List ByteArray) (hm : I64 m) (hS : Strs w B ao l) :
    Calls Tryz.prog 91 #[.int .i64 m, .agg #[.int .i64 a, .int .i64 k, .int .i64 v, .int .i64 r, .string h, .slice ao l.length cp]] w fun e w' => e = .returned (.int .i64 (chk m ⟨a, k, v, r, h, l⟩)) ∧ Only (fun _ => False) w w' := by
  by_cases hM : Md m
  · by_cases hH : (k = 1 ∧ 0 ≤ a ∧ v = 0 ∧ r = 0 ∧ h = ⟨#[]⟩) ∧ l.length = 2
    · obtain ⟨⟨rfl, ha, rfl, rfl, rfl⟩, hl⟩ := hH
      obtain ⟨s0, s1, rfl⟩ := two_of hl
      refine (check_two w m a cp B ao s0 s1 hM ha hS).mono ?_
      rintro e w' ⟨rfl, ho⟩
      refine ⟨ret_int ?_, ho⟩
      by_cases hq : lim m s0 = 0 ∨ ¬ (s1.size = nb m ∧ topOk m s1)
      · rw [if_pos hq, chk_bad hM]
        intro hk
        rcases hq with hq | hq
        · exact hk.lm hq
        · exact hq ⟨hk.size, hk.top⟩
      · rw [if_neg hq, chk_ok hM]
        simp only [not_or, Classical.not_not] at hq
        exact ⟨rfl, ha, rfl, rfl, rfl, rfl, hq.1, hq.2.1, hq.2.2⟩
    · rw [chk_bad hM (fun hk => hH ⟨⟨hk.kind, hk.lsn, hk.level, hk.right, hk.high⟩, hk.two⟩)]
      exact check_head w m a k v r h cp l.length ao hM hH
  · rw [chk_mod hM]
    exact check_mod w m a k v r h cp l.length ao hm hM
/-- What checkWithID answers. -/
noncomputable def cid (m : Int) (p : Pg) (x : Int) : Int := if chk m p = 0 then (if Idd m x then 0 else 1) else chk m p
theorem chk_bd (m : Int) (p : Pg) : chk m p = 0 ∨ chk m p = 1 ∨ chk m p = 31 := by
  unfold chk
  split
  · split
    · exact .inl rfl
    · exact .inr (.inr rfl)
  · exact .inr (.inl rfl)
theorem cid_bd (m : Int) (p : Pg) (x : Int) : cid m p x = 0 ∨ cid m p x = 1 ∨ cid m p x = 31 := by
  unfold cid
  split
  · split
    · exact .inl rfl
    · exact .inr (.inl rfl)
  · exact chk_bd m p
theorem chk_zero {m : Int} {p : Pg} (h : chk m p = 0) : Md m ∧ OkP m p := by
  by_cases hM : Md m
  · refine ⟨hM, Classical.byContradiction fun hk => ?_⟩
    rw [chk_bad hM hk] at h
    omega
  · rw [chk_mod hM] at h
    omega
theorem cid_zero {m x : Int} {p : Pg} (h : cid m p x = 0) : Idd m x ∧ OkP m p := by
  unfold cid at h
  split at h
  · rename_i h1
    split at h
    · rename_i h2
      exact ⟨h2, (chk_zero h1).2⟩
    · omega
  · rename_i h1
    exact absurd h h1
theorem cid_ok {m x : Int} {p : Pg} (h : Idd m x) (k : OkP m p) : cid m p x = 0 := by
  unfold cid
  rw [if_pos (chk_ok h.1 k), if_pos h]
theorem checkWithID_any (w : World) (m a k v r x : Int) (h : ByteArray) (cp B : Nat) (ao : Option Addr) (l : List ByteArray) (hm : I64 m) (hx : I64 x) (hS : Strs w B ao l) :
    Calls Tryz.prog 45 #[.int .i64 m, .agg #[.int .i64 a, .int .i64 k, .int .i64 v, .int .i64 r, .string h, .slice ao l.length cp], .int .i64 x] w fun e w' => e = .returned (.int .i64 (cid m ⟨a, k, v, r, h, l⟩ x)) ∧ Only (fun _ => False) w w' := by
  have HC := hide (fun W (ho : Only (fun _ => False) w W) => ccheck_any W m a k v r h cp B ao l hm (hS.more ho))
  have HI := hide (fun W => cisID_any m x W hm hx)
  have hcb := chk_bd m ⟨a, k, v, r, h, l⟩
  have HO := hide (onlyA w (.cells #[.int .i64 a, .int .i64 k, .int .i64 v, .int .i64 r, .string h, .slice ao l.length cp] 30))
  obtain ⟨C, hC⟩ : ∃ C, chk m ⟨a, k, v, r, h, l⟩ = C := ⟨_, rfl⟩
  obtain ⟨I, hI⟩ : ∃ I, decide (Idd m x) = I := ⟨_, rfl⟩
  have HR : Hid (cid m ⟨a, k, v, r, h, l⟩ x = if C = 0 then (if I = true then 0 else 1) else C) := by
    unfold Hid cid
    rw [hC, ← hI]
    simp
  rw [HR.out]
  simp only [hC] at HC hcb
  simp only [hI] at HI
  have hm1 := hm.1
  have hm2 := hm.2
  have hx1 := hx.1
  have hx2 := hx.2
  clear HR hC hI hm hx hS
  by_cases h0 : C = 0
  · rw [if_pos h0]
    subst h0
    clear hcb
    cases I
    all_goals
      go_enter Tryz.func45, Tryz.ntmps45
      go_wp2_with fail
      refine (HC.out _ HO.out).mono ?_
      rintro e w1 ⟨rfl, ho⟩
      have HO1 := hide (o2 HO.out ho)
      clear ho
      go_wp2_with fail
      refine (HI.out _).mono ?_
      rintro e w2 ⟨rfl, hw⟩
      obtain rfl := hw.symm
      clear hw
      go_wp2_with fail
      go_ret
      exact ⟨rfl, HO1.out⟩
  · rw [if_neg h0]
    have hne : (C != 0) = true := by simp [h0]
    clear h0
    go_enter Tryz.func45, Tryz.ntmps45
    go_wp2_with fail
    refine (HC.out _ HO.out).mono ?_
    rintro e w1 ⟨rfl, ho⟩
    have HO1 := hide (o2 HO.out ho)
    clear ho
    go_wp2_with fail
    go_ret
    exact ⟨rfl, HO1.out⟩
end Go.Proofs.YtpnbhddmdfcjdaaGreat
