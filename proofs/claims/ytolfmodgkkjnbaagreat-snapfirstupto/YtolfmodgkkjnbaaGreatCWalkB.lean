/- What areStatuses, isHead and lay do. -/
import Derived.Test.YtolfmodgkkjnbaaGreatCWalkA
import Derived.Lib.IndexBytes
namespace Go.Proofs.YtolfmodgkkjnbaaGreat
open Go.RowKit

/-- A status laid over what stood there, as the code has it. -/
theorem lay_byte : ∀ b : Fin 256, ∀ k : Fin 4, ∀ v : Fin 4, bits BinOp.or IntKind.u8 (bits BinOp.andNot IntKind.u8 (b.val : Int) ((3 * 4 ^ k.val : Nat) % 256 : Int)) ((v.val * 4 ^ k.val : Nat) : Int) = (put4 b.val k.val v.val : Int) := by
  decide +kernel
instance (m : Int) (s : ByteArray) : Decidable (topOk m s) := by unfold topOk; infer_instance
theorem empty_iff (h : ByteArray) : h.toList.isEmpty = decide (h = ⟨#[]⟩) := by
  rw [ByteArray.toList_eq]
  obtain ⟨⟨l⟩⟩ := h
  cases l <;> simp
theorem careStatuses_any (m : Int) (s : ByteArray) (w : World) (h : Md m) :
    Calls Tryz.prog 88 #[.int .i64 m, .string s] w fun e w' => e = .returned (.bool (decide (s.size = nb m ∧ topOk m s))) ∧ w' = w := by
  have HB := hide (statusBytes_any m w h)
  have h16 := h.1
  have h1024 := h.2.1
  by_cases hn : s.size = nb m
  · have HP := hide (place_any m w (by omega) h1024)
    have hq : ((m - 1).toNat / 4 : Nat) < s.size := by have := nb_bd h; omega
    have e1 : ((m - 1) / 4).toNat = (m - 1).toNat / 4 := by omega
    have e2 : ((m - 1) % 4).toNat = (m - 1).toNat % 4 := by omega
    have hk4 : (m - 1).toNat % 4 < 4 := by omega
    obtain ⟨R, hR⟩ : ∃ R, decide (s.size = nb m ∧ topOk m s) = R := ⟨_, rfl⟩
    have HT : Hid (R = decide (byt (bl s) ((m - 1).toNat / 4) / 4 ^ ((m - 1).toNat % 4) ≤ 3)) := by
      unfold Hid
      rw [← hR]
      refine decide_eq_decide.2 ?_
      unfold topOk
      rw [e1, e2]
      exact ⟨fun h => h.2, fun h => ⟨hn, h⟩⟩
    rw [hR]
    have hsn : (s.size : Int) = (nb m : Int) := by omega
    obtain ⟨q, hqq⟩ : ∃ q, (m - 1).toNat / 4 = q := ⟨_, rfl⟩
    obtain ⟨k, hkk⟩ : ∃ k, (m - 1).toNat % 4 = k := ⟨_, rfl⟩
    rw [hqq, hkk] at HP HT
    rw [hqq] at hq
    rw [hkk] at hk4
    clear e1 e2 hn hqq hkk h hR
    have HBY : Hid (byt (bl s) q = (s[q]'hq).toNat) := by
      unfold Hid byt
      rw [List.getD_eq_getElem?_getD, List.getElem?_eq_getElem (by rw [bl_len]; exact hq)]
      rfl
    have hqi : (q : Int) < (s.size : Int) := by omega
    rcases k4 hk4 with rfl | rfl | rfl | rfl
    · go_enter Tryz.func88, Tryz.ntmps88
      go_wp2_with fail
      refine HB.out.mono ?_
      rintro e w1 ⟨rfl, hw⟩
      obtain rfl := hw.symm
      clear hw
      go_wp2_with fail
      refine HP.out.mono ?_
      rintro e w1 ⟨rfl, hw⟩
      obtain rfl := hw.symm
      clear hw
      go_wp2_with fail
      go_ret
      refine ⟨ret_bool ?_, rfl⟩
      rw [HT.out, HBY.out]
      exact decide_eq_decide.2 (by simp only [Nat.reducePow]; omega)
    · go_enter Tryz.func88, Tryz.ntmps88
      go_wp2_with fail
      refine HB.out.mono ?_
      rintro e w1 ⟨rfl, hw⟩
      obtain rfl := hw.symm
      clear hw
      go_wp2_with fail
      refine HP.out.mono ?_
      rintro e w1 ⟨rfl, hw⟩
      obtain rfl := hw.symm
      clear hw
      go_wp2_with fail
      go_ret
      refine ⟨ret_bool ?_, rfl⟩
      rw [HT.out, HBY.out]
      exact decide_eq_decide.2 (by simp only [Nat.reducePow]; omega)
    · go_enter Tryz.func88, Tryz.ntmps88
      go_wp2_with fail
      refine HB.out.mono ?_
      rintro e w1 ⟨rfl, hw⟩
      obtain rfl := hw.symm
      clear hw
      go_wp2_with fail
      refine HP.out.mono ?_
      rintro e w1 ⟨rfl, hw⟩
      obtain rfl := hw.symm
      clear hw
      go_wp2_with fail
      go_ret
      refine ⟨ret_bool ?_, rfl⟩
      rw [HT.out, HBY.out]
      exact decide_eq_decide.2 (by simp only [Nat.reducePow]; omega)
    · go_enter Tryz.func88, Tryz.ntmps88
      go_wp2_with fail
      refine HB.out.mono ?_
      rintro e w1 ⟨rfl, hw⟩
      obtain rfl := hw.symm
      clear hw
      go_wp2_with fail
      refine HP.out.mono ?_
      rintro e w1 ⟨rfl, hw⟩
      obtain rfl := hw.symm
      clear hw
      go_wp2_with fail
      go_ret
      refine ⟨ret_bool ?_, rfl⟩
      rw [HT.out, HBY.out]
      exact decide_eq_decide.2 (by simp only [Nat.reducePow]; omega)
  · have hd : decide (s.size = nb m ∧ topOk m s) = false := by simp [hn]
    rw [hd]
    obtain ⟨n, hnn⟩ : ∃ n, nb m = n := ⟨_, rfl⟩
    have hne : ¬ (s.size : Int) = (n : Int) := by omega
    rw [hnn] at HB
    clear hn hd hnn h
    go_enter Tryz.func88, Tryz.ntmps88
    go_wp2_with fail
    refine HB.out.mono ?_
    rintro e w1 ⟨rfl, hw⟩
    obtain rfl := hw.symm
    clear hw
    go_wp2_with fail
    go_ret
    exact ⟨rfl, rfl⟩
theorem isHead_any (w : World) (a k v r : Int) (h : ByteArray) (cp n : Nat) (ao : Option Addr) :
    Calls Tryz.prog 86 #[.agg #[.int .i64 a, .int .i64 k, .int .i64 v, .int .i64 r, .string h, .slice ao n cp]] w fun e w' => e = .returned (.bool (decide (k = 1 ∧ 0 ≤ a ∧ v = 0 ∧ r = 0 ∧ h = ⟨#[]⟩))) ∧ Only (fun _ => False) w w' := by
  have HO := hide (onlyA w (.cells #[.int .i64 a, .int .i64 k, .int .i64 v, .int .i64 r, .string h, .slice ao n cp] 30))
  go_enter Tryz.func86, Tryz.ntmps86
  go_wp2_with fail
  all_goals go_ret
  all_goals refine ⟨ret_bool ?_, onlyA _ _⟩
  all_goals clear HO
  all_goals (try rw [empty_iff])
  all_goals simp_all
  all_goals omega
/-- Bytes in block g that may be written. -/
structure Byt (w : World) (g : Nat) (l : List UInt8) : Prop where
  c : ∀ j (h : j < l.length), w.cell? ⟨g, j, none⟩ = some (.int .u8 (l[j].toNat : Int))
  f : ∀ j, j < l.length → w.frozen? ⟨g, j, none⟩ = false
  lt : g < w.heap.size
theorem Byt.set {w : World} {g : Nat} {l : List UInt8} (h : Byt w g l) {j n : Nat} (hj : j < l.length) (hn : n < 256) {V : Int} (hV : V = (n : Int)) :
    Byt (w.setCell ⟨g, j, none⟩ (.int .u8 V)).drew g (l.set j (UInt8.ofNat n)) ∧ Only (fun k => k = g) w (w.setCell ⟨g, j, none⟩ (.int .u8 V)).drew := by
  subst hV
  refine ⟨⟨fun i hi => ?_, fun i hi => ?_, ?_⟩, (Only.setCell (S := fun k => k = g) w ⟨g, j, none⟩ _ rfl).trans (Only.drew _ _) (fun _ _ h => h)⟩
  · have hi' := hi
    rw [List.length_set] at hi'
    show (w.setCell ⟨g, j, none⟩ (.int .u8 (n : Int))).cell? ⟨g, i, none⟩ = _
    by_cases e : i = j
    · subst e
      rw [World.cell?_setCell_same _ _ _ (h.c i hi')]
      simp only [List.getElem_set_self]
      rw [UInt8.toNat_ofNat_of_lt' hn]
    · rw [World.cell?_setCell_other _ _ _ _ (by intro q; injection q with _ q; exact e q.symm), h.c i hi', List.getElem_set_ne (by omega)]
  · rw [List.length_set] at hi
    have := h.f i hi
    simpa using this
  · have := h.lt
    simpa using this
theorem Byt.kept {S : Nat → Prop} {w w' : World} {g : Nat} {l : List UInt8} (h : Byt w g l) (ho : Only S w w') (hS : ¬ S g) : Byt w' g l :=
  ⟨fun j hj => (ho.cell (p := ⟨g, j, none⟩) h.lt hS).trans (h.c j hj), fun j hj => (ho.frozen (p := ⟨g, j, none⟩) h.lt hS).trans (h.f j hj), Nat.lt_of_lt_of_le h.lt ho.size⟩
theorem Byt.st {w : World} {g : Nat} {l : List UInt8} (h : Byt w g l) {i v k : Nat} (hi : i / 4 < l.length) (hk : i % 4 = k) (hv : v < 4) {V : Int} (hV : V = (put4 (l[i / 4]).toNat k v : Int)) :
    Byt (w.setCell ⟨g, i / 4, none⟩ (.int .u8 V)).drew g (stSet l i v) ∧ Only (fun k => k = g) w (w.setCell ⟨g, i / 4, none⟩ (.int .u8 V)).drew := by
  have hb : byt l (i / 4) = (l[i / 4]).toNat := by
    unfold byt
    rw [List.getD_eq_getElem?_getD, List.getElem?_eq_getElem hi]
    rfl
  subst hk
  rw [← hb] at hV
  exact h.set hi (put4_lt (byt_lt _ _) (Nat.mod_lt _ (by decide)) hv) hV
theorem lay_any (w : World) (g cp : Nat) (l : List UInt8) (x : Int) (v : Nat) (hB : Byt w g l) (h1 : 1 ≤ x) (h2 : x ≤ 1024) (hx : (x - 1).toNat / 4 < l.length) (hv : v < 4) :
    Calls Tryz.prog 50 #[.slice (some ⟨g, 0, none⟩) l.length cp, .int .i64 x, .int .u8 (v : Int)] w fun e w' => e = .returned (.tuple #[]) ∧ Byt w' g (stSet l (x - 1).toNat v) ∧ Only (fun k => k = g) w w' := by
  have HP := hide (place_any x w h1 h2)
  obtain ⟨q, hq⟩ : ∃ q, (x - 1).toNat / 4 = q := ⟨_, rfl⟩
  obtain ⟨k, hk⟩ : ∃ k, (x - 1).toNat % 4 = k := ⟨_, rfl⟩
  have hk4 : k < 4 := by omega
  have c0 := hB.c q (by omega)
  have f0 := hB.f q (by omega)
  rw [hq, hk] at HP
  have hql : (q : Int) < (l.length : Int) := by omega
  have HST : Hid (∀ V : Int, V = (put4 (l[q]).toNat k v : Int) → Byt (w.setCell ⟨g, q, none⟩ (.int .u8 V)).drew g (stSet l (x - 1).toNat v) ∧ Only (fun k => k = g) w (w.setCell ⟨g, q, none⟩ (.int .u8 V)).drew) := by
    intro V hV
    subst hq
    exact hB.st hx hk hv hV
  have hb := UInt8.toNat_lt l[q]
  have HLB := hide (lay_byte ⟨(l[q]).toNat, hb⟩ ⟨k, hk4⟩ ⟨v, hv⟩)
  obtain ⟨n, hn⟩ : ∃ n, (l[q]).toNat = n := ⟨_, rfl⟩
  simp only [hn] at HLB HST hb
  rw [hn] at c0
  clear hB hn hk h1 h2
  rcases k4 hk4 with rfl | rfl | rfl | rfl
  · go_enter Tryz.func50, Tryz.ntmps50
    go_wp2_with fail
    refine HP.out.mono ?_
    rintro e w1 ⟨rfl, hw⟩
    obtain rfl := hw.symm
    clear hw
    go_wp2_with fail
    go_region
    go_wp2_with fail
    go_end0
    refine ⟨rfl, HST.out _ ?_⟩
    have := HLB.out
    simp at this
    exact this
  · go_enter Tryz.func50, Tryz.ntmps50
    go_wp2_with fail
    refine HP.out.mono ?_
    rintro e w1 ⟨rfl, hw⟩
    obtain rfl := hw.symm
    clear hw
    go_wp2_with fail
    go_region
    go_wp2_with fail
    go_end0
    refine ⟨rfl, HST.out _ ?_⟩
    have := HLB.out
    simp at this
    exact this
  · go_enter Tryz.func50, Tryz.ntmps50
    go_wp2_with fail
    refine HP.out.mono ?_
    rintro e w1 ⟨rfl, hw⟩
    obtain rfl := hw.symm
    clear hw
    go_wp2_with fail
    go_region
    go_wp2_with fail
    go_end0
    refine ⟨rfl, HST.out _ ?_⟩
    have := HLB.out
    simp at this
    exact this
  · go_enter Tryz.func50, Tryz.ntmps50
    go_wp2_with fail
    refine HP.out.mono ?_
    rintro e w1 ⟨rfl, hw⟩
    obtain rfl := hw.symm
    clear hw
    go_wp2_with fail
    go_region
    go_wp2_with fail
    go_end0
    refine ⟨rfl, HST.out _ ?_⟩
    have := HLB.out
    simp at this
    exact this
end Go.Proofs.YtolfmodgkkjnbaaGreat
