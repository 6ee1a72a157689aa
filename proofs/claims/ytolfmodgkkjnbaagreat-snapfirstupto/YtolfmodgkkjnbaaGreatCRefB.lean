/- The document's taken. -/
import Derived.Test.YtolfmodgkkjnbaaGreatCRefA
import Derived.Test.YtolfmodgkkjnbaaGreatCRdC
import Derived.Lib.AppendZeros
namespace Go.Proofs.YtolfmodgkkjnbaaGreat
open Go.RowKit

def stc (l : List Nat) : List Value := l.map fun (n : Nat) => Value.int .u8 (n : Int)
theorem stc_length (l : List Nat) : (stc l).length = l.length := by simp [stc]
/-- Statuses that the value v owns, in a block from base on. -/
def Sl (w : World) (base : Nat) (v : Value) (l : List Nat) : Prop := w.ownsRow base 37 1 v l.length (stc l)
theorem Tryz.infoSt : (Tryz.prog.info? 37).map (fun i => (i.zero, i.size, i.bytes)) = some (some (.int .u8 0), 1, 1) := by kernel_rfl
theorem Sl.nil (w : World) (base : Nat) : Sl w base (.slice none 0 0) [] := World.ownsRow_nil _ _ _ _
theorem Sl.kept {S : Nat → Prop} {w w' : World} {base : Nat} {v : Value} {l : List Nat} (h : Sl w base v l) (ho : Only S w w') (hS : ∀ k, v.ownBlock = some k → ¬ S k) : Sl w' base v l := by
  obtain ⟨h1, h2⟩ := h
  refine ⟨h1, ?_⟩
  rcases h2 with h2 | ⟨g, cap, cur, hv, hg, hh, r⟩
  · exact .inl h2
  · subst hv
    exact .inr ⟨g, cap, cur, rfl, hg, by rw [ho.block g (Array.getElem?_eq_some_iff.1 hh).1 (hS g rfl)]; exact hh, r⟩
theorem append_st (w : World) (base : Nat) (v : Value) (l : List Nat) (h : Sl w base v l) (hb : base ≤ w.heap.size) (n : Nat) (hl : l.length ≤ 5000) :
    ∃ v' w', (Builtin.append_ #[77, 77] 77 #[v, .slice (some ⟨w.heap.size, 0, none⟩) 1 1]).run Tryz.prog (w.alloc (.cells #[.int .u8 (n : Int)] 37)) = .ok v' w' ∧ Sl w' base v' (l ++ [n]) ∧ Only (fun k => base ≤ k) w w' := by
  obtain ⟨i0, hi, hz0, hz1, hz2⟩ := info_parts Tryz.infoSt
  have h' := h.kept (onlyA w (.cells #[.int .u8 (n : Int)] 37)) (fun _ _ h => h)
  have hc0 : (w.alloc (.cells #[.int .u8 (n : Int)] 37)).cell? ⟨w.heap.size, 0, none⟩ = some (.int .u8 (n : Int)) := by simp
  obtain ⟨v', w', hr, h2, h3, _⟩ := append_bytes (P := Tryz.prog) (w.alloc (.cells #[.int .u8 (n : Int)] 37)) base 77 77 37 i0 Tryz.underlying77 hi hz0 hz1 hz2 v l.length (stc l) h' ⟨w.heap.size, 0, none⟩ 1 1 [.int .u8 (n : Int)] rfl
    (by
      intro j u hj
      match j, hj with
      | 0, hj =>
        simp at hj
        subst hj
        rw [add_at]
        exact hc0) (by intro u hu; simp at hu; subst hu; rfl) (by omega) (by omega) (by simp; omega)
  refine ⟨v', w', hr, ?_, ?_⟩
  · unfold Sl
    have e : (l ++ [n]).length = l.length + 1 := by simp
    have e2 : stc (l ++ [n]) = stc l ++ [.int .u8 (n : Int)] := by simp [stc]
    rw [e, e2]
    exact h2
  · have ho : Only (fun k => base ≤ k) (w.alloc (.cells #[.int .u8 (n : Int)] 37)) w' := Only.grown h3 (fun k hk => (h'.lt k hk).1)
    exact (Only.alloc (fun k => base ≤ k) w _).trans ho (fun _ _ h => h)
/-- Statuses in block B that may be written. -/
structure StL (w : World) (B : Nat) (l : List Nat) : Prop where
  c : ∀ j (h : j < l.length), w.cell? ⟨B, j, none⟩ = some (.int .u8 (l[j] : Int))
  f : ∀ j, j < l.length → w.frozen? ⟨B, j, none⟩ = false
  lt : B < w.heap.size
  four : ∀ x ∈ l, x < 4
theorem StL.kept {S : Nat → Prop} {w w' : World} {B : Nat} {l : List Nat} (h : StL w B l) (ho : Only S w w') (hS : ¬ S B) : StL w' B l :=
  ⟨fun j hj => (ho.cell (p := ⟨B, j, none⟩) h.lt hS).trans (h.c j hj), fun j hj => (ho.frozen (p := ⟨B, j, none⟩) h.lt hS).trans (h.f j hj), Nat.lt_of_lt_of_le h.lt ho.size, h.four⟩
theorem StL.more {w w' : World} {B : Nat} {l : List Nat} (h : StL w B l) (ho : Only (fun _ => False) w w') : StL w' B l := h.kept ho (fun h => h)
theorem StL.sts {w : World} {B : Nat} {l : List Nat} (h : StL w B l) : Sts w B (some ⟨B, 0, none⟩) l :=
  ⟨fun _ => ⟨0, rfl, fun j hj => by rw [Nat.zero_add]; exact h.c j hj⟩, fun _ => h.lt, h.four⟩
theorem StL.set {w : World} {B : Nat} {l : List Nat} (h : StL w B l) {j n : Nat} (hj : j < l.length) (hn : n < 4) :
    StL (w.setCell ⟨B, j, none⟩ (.int .u8 (n : Int))) B (l.set j n) ∧ Only (fun k => k = B) w (w.setCell ⟨B, j, none⟩ (.int .u8 (n : Int))) := by
  refine ⟨⟨fun i hi => ?_, fun i hi => ?_, ?_, ?_⟩, Only.setCell (S := fun k => k = B) w ⟨B, j, none⟩ _ rfl⟩
  · have hi' := hi
    rw [List.length_set] at hi'
    by_cases e : i = j
    · subst e
      rw [World.cell?_setCell_same _ _ _ (h.c i hi')]
      simp only [List.getElem_set_self]
    · rw [World.cell?_setCell_other _ _ _ _ (by intro q; injection q with _ q; exact e q.symm), h.c i hi', List.getElem_set_ne (by omega)]
  · rw [List.length_set] at hi
    have := h.f i hi
    simpa using this
  · have := h.lt
    simpa using this
  · intro x hx
    rcases List.mem_or_eq_of_mem_set hx with hx | rfl
    · exact h.four x hx
    · exact hn
theorem Sl.stl {w : World} {base : Nat} {v : Value} {l : List Nat} (h : Sl w base v l) (h0 : 0 < l.length) (h4 : ∀ x ∈ l, x < 4) : ∃ B cap, v = .slice (some ⟨B, 0, none⟩) l.length cap ∧ base ≤ B ∧ StL w B l := by
  rcases h.2 with ⟨rfl, hn⟩ | ⟨g, cap, cur, rfl, hb, hg, hn, hm, _⟩
  · omega
  · refine ⟨g, cap, rfl, hb, ⟨fun j hj => ?_, fun j hj => World.ownsRow.frozenAt h j, (Array.getElem?_eq_some_iff.1 hg).1, h4⟩⟩
    rw [World.ownsRow.cellAt h j (by omega)]
    simp [stc, hj]
/-- The statuses of the first i ids, M of them at most. -/
def stsTo (l : List UInt8) (M i : Nat) : List Nat := (List.range (min i M)).map (stAt l)
theorem stsTo_len (l : List UInt8) (M i : Nat) : (stsTo l M i).length = min i M := by simp [stsTo]
theorem stsTo_next (l : List UInt8) (M i : Nat) (h : i < M) : stsTo l M (i + 1) = stsTo l M i ++ [stAt l i] := by
  unfold stsTo
  rw [show min (i + 1) M = i + 1 by omega, show min i M = i by omega, List.range_succ, List.map_append]
  rfl
theorem stsTo_past (l : List UInt8) (M i : Nat) (h : ¬ i < M) : stsTo l M (i + 1) = stsTo l M i := by
  unfold stsTo
  rw [show min (i + 1) M = min i M by omega]
theorem stsTo_four (l : List UInt8) (M i : Nat) : ∀ x ∈ stsTo l M i, x < 4 := by
  intro x hx
  unfold stsTo at hx
  obtain ⟨j, _, rfl⟩ := List.mem_map.1 hx
  exact stAt_lt _ _
theorem stsTo_get (l : List UInt8) (M i j : Nat) (h : j < min i M) : (stsTo l M i).getD j 0 = stAt l j := by
  unfold stsTo
  rw [List.getD_eq_getElem?_getD, List.getElem?_map, List.getElem?_range h]
  rfl
/-- What taken leaves where it refuses. -/
def TakN (w w' : World) (e : Ending) (c : Int) : Prop := e = .returned (.tuple #[.int .i64 0, .slice none 0 0, .int .i64 c]) ∧ Only (fun _ => False) w w'
/-- What taken leaves of a page of statuses. -/
def TakY (w w' : World) (e : Ending) (f : Int) (l : List Nat) : Prop := ∃ B cap, e = .returned (.tuple #[.int .i64 f, .slice (some ⟨B, 0, none⟩) l.length cap, .int .i64 0]) ∧ StL w' B l ∧ w.heap.size ≤ B ∧ Only (fun _ => False) w w'
-- {T
set_option maxRecDepth 100000 in
set_option maxHeartbeats 1600000 in
theorem taken_mod (w : World) (m a k v r : Int) (h : ByteArray) (cp n : Nat) (ao : Option Addr) (hm : I64 m) (hM : ¬ Md m) :
    Calls Tryz.prog 58 #[.int .i64 m, .agg #[.int .i64 a, .int .i64 k, .int .i64 v, .int .i64 r, .string h, .slice ao n cp]] w fun e w' => TakN w w' e 1 := by
  have HM := hide (fun W => right_any m W hm)
  simp only [decide_eq_false hM] at HM
  clear hM
  have HO := hide (onlyA w (.cells #[.int .i64 a, .int .i64 k, .int .i64 v, .int .i64 r, .string h, .slice ao n cp] 30))
  go_enter Tryz.func58, Tryz.ntmps58
  go_wp2_with fail
  refine (HM.out _).mono ?_
  rintro e w1 ⟨rfl, hw⟩
  obtain rfl := hw.symm
  clear hw
  go_wp2_with fail
  go_ret3
  exact ⟨rfl, HO.out⟩
set_option maxRecDepth 100000 in
set_option maxHeartbeats 1600000 in
theorem taken_k (w : World) (m : Int) (a k v r : Int) (h : ByteArray) (cp n : Nat) (ao : Option Addr) (hM : Md m) (hk : ¬ k = 1) :
    Calls Tryz.prog 58 #[.int .i64 m, .agg #[.int .i64 a, .int .i64 k, .int .i64 v, .int .i64 r, .string h, .slice ao n cp]] w fun e w' => TakN w w' e 31 := by
  have HM := hide (fun W => right_any m W ⟨by have := hM.1; omega, by have := hM.2.1; omega⟩)
  simp only [decide_eq_true hM] at HM
  have hm1 := hM.1
  have hm2 := hM.2.1
  clear hM
  have HO := hide (onlyA w (.cells #[.int .i64 a, .int .i64 k, .int .i64 v, .int .i64 r, .string h, .slice ao n cp] 30))
  go_enter Tryz.func58, Tryz.ntmps58
  go_wp2_with fail
  refine (HM.out _).mono ?_
  rintro e w1 ⟨rfl, hw⟩
  obtain rfl := hw.symm
  clear hw
  go_wp2_with fail
  go_ret3
  exact ⟨rfl, HO.out⟩
set_option maxRecDepth 100000 in
set_option maxHeartbeats 1600000 in
theorem taken_a (w : World) (m : Int) (a v r : Int) (h : ByteArray) (cp n : Nat) (ao : Option Addr) (hM : Md m) (hk : a < 0) :
    Calls Tryz.prog 58 #[.int .i64 m, .agg #[.int .i64 a, .int .i64 1, .int .i64 v, .int .i64 r, .string h, .slice ao n cp]] w fun e w' => TakN w w' e 31 := by
  have HM := hide (fun W => right_any m W ⟨by have := hM.1; omega, by have := hM.2.1; omega⟩)
  simp only [decide_eq_true hM] at HM
  have hm1 := hM.1
  have hm2 := hM.2.1
  clear hM
  have HO := hide (onlyA w (.cells #[.int .i64 a, .int .i64 1, .int .i64 v, .int .i64 r, .string h, .slice ao n cp] 30))
  go_enter Tryz.func58, Tryz.ntmps58
  go_wp2_with fail
  refine (HM.out _).mono ?_
  rintro e w1 ⟨rfl, hw⟩
  obtain rfl := hw.symm
  clear hw
  go_wp2_with fail
  go_ret3
  exact ⟨rfl, HO.out⟩
set_option maxRecDepth 100000 in
set_option maxHeartbeats 1600000 in
theorem taken_v (w : World) (m : Int) (a v r : Int) (h : ByteArray) (cp n : Nat) (ao : Option Addr) (hM : Md m) (ha : 0 ≤ a) (hk : ¬ v = 0) :
    Calls Tryz.prog 58 #[.int .i64 m, .agg #[.int .i64 a, .int .i64 1, .int .i64 v, .int .i64 r, .string h, .slice ao n cp]] w fun e w' => TakN w w' e 31 := by
  have HM := hide (fun W => right_any m W ⟨by have := hM.1; omega, by have := hM.2.1; omega⟩)
  simp only [decide_eq_true hM] at HM
  have hm1 := hM.1
  have hm2 := hM.2.1
  clear hM
  have HO := hide (onlyA w (.cells #[.int .i64 a, .int .i64 1, .int .i64 v, .int .i64 r, .string h, .slice ao n cp] 30))
  go_enter Tryz.func58, Tryz.ntmps58
  go_wp2_with fail
  refine (HM.out _).mono ?_
  rintro e w1 ⟨rfl, hw⟩
  obtain rfl := hw.symm
  clear hw
  go_wp2_with fail
  go_ret3
  exact ⟨rfl, HO.out⟩
set_option maxRecDepth 100000 in
set_option maxHeartbeats 1600000 in
theorem taken_r (w : World) (m : Int) (a r : Int) (h : ByteArray) (cp n : Nat) (ao : Option Addr) (hM : Md m) (ha : 0 ≤ a) (hk : ¬ r = 0) :
    Calls Tryz.prog 58 #[.int .i64 m, .agg #[.int .i64 a, .int .i64 1, .int .i64 0, .int .i64 r, .string h, .slice ao n cp]] w fun e w' => TakN w w' e 31 := by
  have HM := hide (fun W => right_any m W ⟨by have := hM.1; omega, by have := hM.2.1; omega⟩)
  simp only [decide_eq_true hM] at HM
  have hm1 := hM.1
  have hm2 := hM.2.1
  clear hM
  have HO := hide (onlyA w (.cells #[.int .i64 a, .int .i64 1, .int .i64 0, .int .i64 r, .string h, .slice ao n cp] 30))
  go_enter Tryz.func58, Tryz.ntmps58
  go_wp2_with fail
  refine (HM.out _).mono ?_
  rintro e w1 ⟨rfl, hw⟩
  obtain rfl := hw.symm
  clear hw
  go_wp2_with fail
  go_ret3
  exact ⟨rfl, HO.out⟩
set_option maxRecDepth 100000 in
set_option maxHeartbeats 1600000 in
theorem taken_h (w : World) (m : Int) (a : Int) (h : ByteArray) (cp n : Nat) (ao : Option Addr) (hM : Md m) (ha : 0 ≤ a) (hk : ¬ h = ⟨#[]⟩) :
    Calls Tryz.prog 58 #[.int .i64 m, .agg #[.int .i64 a, .int .i64 1, .int .i64 0, .int .i64 0, .string h, .slice ao n cp]] w fun e w' => TakN w w' e 31 := by
  have HM := hide (fun W => right_any m W ⟨by have := hM.1; omega, by have := hM.2.1; omega⟩)
  simp only [decide_eq_true hM] at HM
  have hm1 := hM.1
  have hm2 := hM.2.1
  clear hM
  have he : h.toList.isEmpty = false := by rw [empty_iff]; simp [hk]
  have HO := hide (onlyA w (.cells #[.int .i64 a, .int .i64 1, .int .i64 0, .int .i64 0, .string h, .slice ao n cp] 30))
  go_enter Tryz.func58, Tryz.ntmps58
  go_wp2_with fail
  refine (HM.out _).mono ?_
  rintro e w1 ⟨rfl, hw⟩
  obtain rfl := hw.symm
  clear hw
  go_wp2_with fail
  go_ret3
  exact ⟨rfl, HO.out⟩
set_option maxRecDepth 100000 in
set_option maxHeartbeats 1600000 in
theorem taken_n (w : World) (m : Int) (a : Int) (cp n : Nat) (ao : Option Addr) (hM : Md m) (ha : 0 ≤ a) (hk : ¬ n = 2) :
    Calls Tryz.prog 58 #[.int .i64 m, .agg #[.int .i64 a, .int .i64 1, .int .i64 0, .int .i64 0, .string ⟨#[]⟩, .slice ao n cp]] w fun e w' => TakN w w' e 31 := by
  have HM := hide (fun W => right_any m W ⟨by have := hM.1; omega, by have := hM.2.1; omega⟩)
  simp only [decide_eq_true hM] at HM
  have hm1 := hM.1
  have hm2 := hM.2.1
  clear hM
  have hn : ¬ (n : Int) = 2 := by omega
  have HO := hide (onlyA w (.cells #[.int .i64 a, .int .i64 1, .int .i64 0, .int .i64 0, .string ⟨#[]⟩, .slice ao n cp] 30))
  go_enter Tryz.func58, Tryz.ntmps58
  go_wp2_with fail
  refine (HM.out _).mono ?_
  rintro e w1 ⟨rfl, hw⟩
  obtain rfl := hw.symm
  clear hw
  go_wp2_with fail
  go_ret3
  exact ⟨rfl, HO.out⟩
set_option maxRecDepth 100000 in
set_option maxHeartbeats 1600000 in
theorem taken_s (w : World) (m a : Int) (cp B : Nat) (ao : Option Addr) (s0 s1 : ByteArray) (hM : Md m) (ha : 0 ≤ a) (hS : Strs w B ao [s0, s1]) (hk : ¬ s1.size = nb m) :
    Calls Tryz.prog 58 #[.int .i64 m, .agg #[.int .i64 a, .int .i64 1, .int .i64 0, .int .i64 0, .string ⟨#[]⟩, .slice ao 2 cp]] w fun e w' => TakN w w' e 31 := by
  have htd : (m + 3).tdiv 4 = (nb m : Int) := by
    have : (m + 3) / 4 = (nb m : Int) := by have := hM.1; unfold nb; omega
    rw [← this]
    exact Int.tdiv_eq_ediv_of_nonneg (by have := hM.1; omega)
  have hnb := (nb_bd hM).2.1
  have hnb4 := (nb_bd hM).1
  obtain ⟨N, hN⟩ : ∃ N, nb m = N := ⟨_, rfl⟩
  rw [hN] at htd hnb hnb4 hk
  clear hN
  have hne : ((s1.size : Int) != (N : Int)) = true := by simp; omega
  have hna : decide (a < 0) = false := decide_eq_false (by omega)
  clear hk ha
  have HM := hide (fun W => right_any m W ⟨by have := hM.1; omega, by have := hM.2.1; omega⟩)
  simp only [decide_eq_true hM] at HM
  have hm1 := hM.1
  have hm2 := hM.2.1
  clear hM
  have HO := hide (onlyA w (.cells #[.int .i64 a, .int .i64 1, .int .i64 0, .int .i64 0, .string ⟨#[]⟩, .slice ao 2 cp] 30))
  obtain ⟨o, rfl, hc⟩ := hS.at_ (by simp)
  have hB := hS.lt (by simp)
  have hc0 := hc 0 (by simp)
  have hc1 := hc 1 (by simp)
  simp only [List.getElem_cons_zero, List.getElem_cons_succ, Nat.add_zero] at hc0 hc1
  have HC0 := hide hc0
  have HC1 := hide hc1
  clear hc hc0 hc1
  go_enter Tryz.func58, Tryz.ntmps58
  go_wp2_with fail
  refine (HM.out _).mono ?_
  rintro e w1 ⟨rfl, hw⟩
  obtain rfl := hw.symm
  clear hw
  have d1 := (HO.out.cell (p := ⟨B, o + 1, none⟩) hB (fun h => h)).trans HC1.out
  go_wp2_with fail
  go_ret3
  exact ⟨rfl, HO.out⟩
set_option maxRecDepth 100000 in
set_option maxHeartbeats 1600000 in
theorem taken_l (w : World) (m a : Int) (cp B : Nat) (ao : Option Addr) (s0 s1 : ByteArray) (hM : Md m) (ha : 0 ≤ a) (hS : Strs w B ao [s0, s1]) (hk : s1.size = nb m) (hl : lim m s0 = 0) :
    Calls Tryz.prog 58 #[.int .i64 m, .agg #[.int .i64 a, .int .i64 1, .int .i64 0, .int .i64 0, .string ⟨#[]⟩, .slice ao 2 cp]] w fun e w' => TakN w w' e 31 := by
  have htd : (m + 3).tdiv 4 = (nb m : Int) := by
    have : (m + 3) / 4 = (nb m : Int) := by have := hM.1; unfold nb; omega
    rw [← this]
    exact Int.tdiv_eq_ediv_of_nonneg (by have := hM.1; omega)
  have hnb := (nb_bd hM).2.1
  have hnb4 := (nb_bd hM).1
  obtain ⟨nv, hnv⟩ : ∃ n, (rdN m (bl s0)).1 = n := ⟨_, rfl⟩
  obtain ⟨z, hz⟩ : ∃ z, (rdN m (bl s0)).2.2 = z := ⟨_, rfl⟩
  obtain ⟨r, hr⟩ : ∃ r, (rdN m (bl s0)).2.1 = r := ⟨_, rfl⟩
  have HC : Hid (lim m s0 = if z = 0 ∧ r = [] then nv else 0) := by unfold Hid lim; rw [hnv, hz, hr]
  have HNUM : Hid (∀ W x, XR W x s0 0 0 → Calls Tryz.prog 79 #[.pointer (some ⟨x, 0, none⟩), .int .i64 m] W fun e w' => e = .returned (.int .i64 nv) ∧ XPost W w' x s0 r z) := by
    intro W x hX
    have := xnum_any W x s0 0 m hX (Nat.zero_le _) (by have := hS.size s0 (by simp); have : maxLen = 9223372036854775807 := rfl; omega)
    rw [List.drop_zero] at this
    rw [hnv, hz, hr] at this
    exact this
  have hnb0 := rdN_facts m (bl s0)
  rw [hnv] at hnb0
  have hn0 := hnb0.1
  have hn1 := hnb0.2.1
  clear hnv hz hr hnb0
  obtain ⟨N, hN⟩ : ∃ N, nb m = N := ⟨_, rfl⟩
  rw [hN] at htd hnb hnb4 hk
  have hsN : (s1.size : Int) = (N : Int) := by omega
  clear hN hk
  rw [hl] at HC
  clear hl
  have HP := hide (Pag.new w (.int .i64 a) (.int .i64 1) (.int .i64 0) (.int .i64 0) (.string ⟨#[]⟩) (.slice ao 2 cp))
  have HM := hide (fun W => right_any m W ⟨by have := hM.1; omega, by have := hM.2.1; omega⟩)
  simp only [decide_eq_true hM] at HM
  have hm1 := hM.1
  have hm2 := hM.2.1
  clear hM
  have HO := hide (onlyA w (.cells #[.int .i64 a, .int .i64 1, .int .i64 0, .int .i64 0, .string ⟨#[]⟩, .slice ao 2 cp] 30))
  obtain ⟨o, rfl, hc⟩ := hS.at_ (by simp)
  have hB := hS.lt (by simp)
  have hc0 := hc 0 (by simp)
  have hc1 := hc 1 (by simp)
  simp only [List.getElem_cons_zero, List.getElem_cons_succ, Nat.add_zero] at hc0 hc1
  have HC0 := hide hc0
  have HC1 := hide hc1
  clear hc hc0 hc1
  go_enter Tryz.func58, Tryz.ntmps58
  go_wp2_with fail
  refine (HM.out _).mono ?_
  rintro e w1 ⟨rfl, hw⟩
  rw [← hw] at HO HP
  clear hw
  have d1 := (HO.out.cell (p := ⟨B, o + 1, none⟩) hB (fun h => h)).trans HC1.out
  have d0 := (HO.out.cell (p := ⟨B, o, none⟩) hB (fun h => h)).trans HC0.out
  obtain ⟨p0, p1, p2, p3, p4, p5, f0, f1, f2, f3, f4, f5, fl⟩ := HP.out
  have HXR := hide (XR.new w1 s0)
  have HOX := hide (onlyA w1 (.cells #[.string s0, .int .i64 0, .int .i64 0] 106))
  go_upto_region 6 with fail
  obtain ⟨x, hx⟩ : ∃ x, w1.heap.size = x := ⟨_, rfl⟩
  obtain ⟨W1, hW1⟩ : ∃ W, w1.alloc (.cells #[.string s0, .int .i64 0, .int .i64 0] 106) = W := ⟨_, rfl⟩
  rw [hW1] at HXR HOX ⊢
  rw [hx] at HXR ⊢
  have HX : Hid (w.heap.size < x) := by unfold Hid; have := HP.out.lt; omega
  clear hW1 hx d0 d1 p0 p1 p2 p3 p4 p5 f0 f1 f2 f3 f4 f5 fl
  have HO1 := hide (o2 HO.out HOX.out)
  have HP1 := hide (HP.out.more HOX.out)
  go_wp2_with fail
  refine (HNUM.out W1 x HXR.out).mono ?_
  rintro e w2 ⟨rfl, pl, hxr, hpl, ho2⟩
  have HXR2 := hide hxr
  have HPL := hide hpl
  have HO2 : Hid (Only (fun _ => False) w w2) := HO1.out.trans ho2 (fun i hi e => by have := HX.out; omega)
  have HP2 := hide (HP1.out.kept ho2 (by have := HX.out; omega))
  clear hxr hpl ho2
  by_cases hz : z = 0
  · obtain ⟨hpl1, hpl2⟩ := HPL.out hz
    have HE := hide (xend_ok w2 x s0 pl (by have := HXR2.out; rw [hz] at this; exact this) hpl1)
    by_cases hr : r = []
    · have hn00 : nv = 0 := by have := HC.out; rw [if_pos ⟨hz, hr⟩] at this; exact this.symm
      have e0 : s0.size - pl = 0 := by
        rw [hr] at hpl2
        have := congrArg List.length hpl2
        rw [List.length_drop, Array.length_toList] at this
        exact this
      rw [if_pos e0] at HE
      subst hn00
      clear hz hr e0 hpl1 hpl2 HC
      go_wp2_with fail
      refine HE.out.mono ?_
      rintro e w3 ⟨rfl, hw⟩
      have HO3 : Hid (Only (fun _ => False) w w3) := by unfold Hid; rw [hw]; exact o2 HO2.out (Only.drew _ _)
      clear hw
      go_wp2_with fail
      go_ret3
      exact ⟨rfl, HO3.out⟩
    · have e0 : ¬ s0.size - pl = 0 := by
        intro h
        apply hr
        rw [← hpl2]
        exact List.eq_nil_of_length_eq_zero (by rw [List.length_drop, Array.length_toList]; exact h)
      rw [if_neg e0] at HE
      clear hz hr e0 hpl1 hpl2 HC
      go_wp2_with fail
      refine HE.out.mono ?_
      rintro e w3 ⟨rfl, hw⟩
      have HO3 : Hid (Only (fun _ => False) w w3) := by unfold Hid; rw [hw]; exact o2 HO2.out (Only.drew _ _)
      clear hw
      go_wp2_with fail
      go_ret3
      exact ⟨rfl, HO3.out⟩
  · have hzz : (z == 0) = false := by simp [hz]
    have hzn : (z != 0) = true := by simp [hz]
    have HE := hide (xend_err w2 x s0 pl z HXR2.out hzz)
    clear hz HC
    go_wp2_with fail
    refine HE.out.mono ?_
    rintro e w3 ⟨rfl, hw⟩
    have HO3 : Hid (Only (fun _ => False) w w3) := by unfold Hid; rw [hw]; exact o2 HO2.out (Only.drew _ _)
    clear hw
    go_wp2_with fail
    go_ret3
    exact ⟨rfl, HO3.out⟩
set_option maxRecDepth 100000 in
set_option maxHeartbeats 1600000 in
theorem taken_t (w : World) (m a : Int) (cp B : Nat) (ao : Option Addr) (s0 s1 : ByteArray) (hM : Md m) (ha : 0 ≤ a) (hS : Strs w B ao [s0, s1]) (hk : s1.size = nb m) (hl : ¬ lim m s0 = 0) :
    Calls Tryz.prog 58 #[.int .i64 m, .agg #[.int .i64 a, .int .i64 1, .int .i64 0, .int .i64 0, .string ⟨#[]⟩, .slice ao 2 cp]] w fun e w' => (topOk m s1 → TakY w w' e (lim m s0) (stsTo (bl s1) m.toNat m.toNat)) ∧ (¬ topOk m s1 → TakN w w' e 31) := by
  have htd : (m + 3).tdiv 4 = (nb m : Int) := by
    have : (m + 3) / 4 = (nb m : Int) := by have := hM.1; unfold nb; omega
    rw [← this]
    exact Int.tdiv_eq_ediv_of_nonneg (by have := hM.1; omega)
  have hnb := (nb_bd hM).2.1
  have hnb4 := (nb_bd hM).1
  obtain ⟨nv, hnv⟩ : ∃ n, (rdN m (bl s0)).1 = n := ⟨_, rfl⟩
  obtain ⟨z, hz⟩ : ∃ z, (rdN m (bl s0)).2.2 = z := ⟨_, rfl⟩
  obtain ⟨r, hr⟩ : ∃ r, (rdN m (bl s0)).2.1 = r := ⟨_, rfl⟩
  have HC : Hid (lim m s0 = if z = 0 ∧ r = [] then nv else 0) := by unfold Hid lim; rw [hnv, hz, hr]
  have HNUM : Hid (∀ W x, XR W x s0 0 0 → Calls Tryz.prog 79 #[.pointer (some ⟨x, 0, none⟩), .int .i64 m] W fun e w' => e = .returned (.int .i64 nv) ∧ XPost W w' x s0 r z) := by
    intro W x hX
    have := xnum_any W x s0 0 m hX (Nat.zero_le _) (by have := hS.size s0 (by simp); have : maxLen = 9223372036854775807 := rfl; omega)
    rw [List.drop_zero] at this
    rw [hnv, hz, hr] at this
    exact this
  have hnb0 := rdN_facts m (bl s0)
  rw [hnv] at hnb0
  have hn0 := hnb0.1
  have hn1 := hnb0.2.1
  clear hnv hz hr hnb0
  have HTOP := hide (top_iff hM (s := s1))
  have hm4 := (nb_bd hM).2.2.1
  obtain ⟨N, hN⟩ : ∃ N, nb m = N := ⟨_, rfl⟩
  rw [hN] at htd hnb hnb4 hk
  have hsN : (s1.size : Int) = (N : Int) := by omega
  rw [hN] at HTOP hm4
  clear hN
  have hzr : z = 0 ∧ r = [] := Classical.byContradiction fun h => hl (by rw [HC.out, if_neg h])
  have hnl : lim m s0 = nv := by rw [HC.out, if_pos hzr]
  rw [hnl] at hl
  rw [hnl]
  have hn2 : 1 ≤ nv := by omega
  obtain ⟨rfl, rfl⟩ := hzr
  clear HC hnl hl
  obtain ⟨PY, hPY⟩ : ∃ P : Prop, topOk m s1 = P := ⟨_, rfl⟩
  rw [hPY] at HTOP
  rw [hPY]
  clear hPY
  have HKS := hide hk
  have HP := hide (Pag.new w (.int .i64 a) (.int .i64 1) (.int .i64 0) (.int .i64 0) (.string ⟨#[]⟩) (.slice ao 2 cp))
  have HM := hide (fun W => right_any m W ⟨by have := hM.1; omega, by have := hM.2.1; omega⟩)
  simp only [decide_eq_true hM] at HM
  have hm1 := hM.1
  have hm2 := hM.2.1
  clear hM
  have HO := hide (onlyA w (.cells #[.int .i64 a, .int .i64 1, .int .i64 0, .int .i64 0, .string ⟨#[]⟩, .slice ao 2 cp] 30))
  obtain ⟨o, rfl, hc⟩ := hS.at_ (by simp)
  have hB := hS.lt (by simp)
  have hc0 := hc 0 (by simp)
  have hc1 := hc 1 (by simp)
  simp only [List.getElem_cons_zero, List.getElem_cons_succ, Nat.add_zero] at hc0 hc1
  have HC0 := hide hc0
  have HC1 := hide hc1
  clear hc hc0 hc1
  go_enter Tryz.func58, Tryz.ntmps58
  go_wp2_with fail
  refine (HM.out _).mono ?_
  rintro e w1 ⟨rfl, hw⟩
  rw [← hw] at HO HP
  clear hw
  have d1 := (HO.out.cell (p := ⟨B, o + 1, none⟩) hB (fun h => h)).trans HC1.out
  have d0 := (HO.out.cell (p := ⟨B, o, none⟩) hB (fun h => h)).trans HC0.out
  obtain ⟨p0, p1, p2, p3, p4, p5, f0, f1, f2, f3, f4, f5, fl⟩ := HP.out
  have HXR := hide (XR.new w1 s0)
  have HOX := hide (onlyA w1 (.cells #[.string s0, .int .i64 0, .int .i64 0] 106))
  go_upto_region 6 with fail
  obtain ⟨x, hx⟩ : ∃ x, w1.heap.size = x := ⟨_, rfl⟩
  obtain ⟨W1, hW1⟩ : ∃ W, w1.alloc (.cells #[.string s0, .int .i64 0, .int .i64 0] 106) = W := ⟨_, rfl⟩
  rw [hW1] at HXR HOX ⊢
  rw [hx] at HXR ⊢
  have HX : Hid (w.heap.size < x) := by unfold Hid; have := HP.out.lt; omega
  clear hW1 hx d0 d1 p0 p1 p2 p3 p4 p5 f0 f1 f2 f3 f4 f5 fl
  have HO1 := hide (o2 HO.out HOX.out)
  have HP1 := hide (HP.out.more HOX.out)
  go_wp2_with fail
  refine (HNUM.out W1 x HXR.out).mono ?_
  rintro e w2 ⟨rfl, pl, hxr, hpl, ho2⟩
  have HXR2 := hide hxr
  have HPL := hide hpl
  have HO2 : Hid (Only (fun _ => False) w w2) := HO1.out.trans ho2 (fun i hi e => by have := HX.out; omega)
  have HP2 := hide (HP1.out.kept ho2 (by have := HX.out; omega))
  clear hxr hpl ho2
  obtain ⟨hpl1, hpl2⟩ := HPL.out rfl
  have HE := hide (xend_ok w2 x s0 pl HXR2.out hpl1)
  have e0 : s0.size - pl = 0 := by
    have := congrArg List.length hpl2
    rw [List.length_drop, Array.length_toList] at this
    exact this
  rw [if_pos e0] at HE
  clear e0 hpl1 hpl2
  go_wp2_with fail
  refine HE.out.mono ?_
  rintro e w3 ⟨rfl, hw⟩
  have HO3 : Hid (Only (fun _ => False) w w3) := by unfold Hid; rw [hw]; exact o2 HO2.out (Only.drew _ _)
  have HP3 : Hid (Pag w3 w.heap.size (.int .i64 a) (.int .i64 1) (.int .i64 0) (.int .i64 0) (.string ⟨#[]⟩) (.slice (some ⟨B, o, none⟩) 2 cp)) := by unfold Hid; rw [hw]; exact HP2.out.more (Only.drew _ _)
  clear hw
  go_wp2_with fail
  go_loopw [9, 10] (fun u t wr => ∃ i : Nat, i ≤ 4 * N ∧ t = .int .i64 (i : Int) ∧ Hid (Sl wr w3.heap.size u (stsTo (bl s1) m.toNat i)) ∧ Hid (∀ j : Nat, m ≤ (j : Int) → j < i → stAt (bl s1) j = 0) ∧ Hid (Only (fun k => w3.heap.size ≤ k) w3 wr)) (fun _ t _ => 4 * N - (intOf t).toNat)
  case atStart => exact ⟨0, by omega, rfl, Sl.nil _ _, (fun j _ h => by omega), Only.refl _ _⟩
  case round =>
    obtain ⟨i, hi, rfl, HSL, HZE, HON⟩ := hrel
    have HOW : Hid (Only (fun _ => False) w wr) := HO3.out.trans HON.out (fun i hi e => by have := HO3.out.size; omega)
    have HPW : Hid (Pag wr w.heap.size (.int .i64 a) (.int .i64 1) (.int .i64 0) (.int .i64 0) (.string ⟨#[]⟩) (.slice (some ⟨B, o, none⟩) 2 cp)) := HP3.out.kept HON.out (by have := HP3.out.lt; omega)
    have d1 := (HOW.out.cell (p := ⟨B, o + 1, none⟩) hB (fun h => h)).trans HC1.out
    have p5 := HPW.out.c5
    by_cases hlt : i < 4 * N
    · have hq : i / 4 < s1.size := by omega
      have e1 : (i : Int).tmod 4 = ((i % 4 : Nat) : Int) := by rw [Int.tmod_eq_emod_of_nonneg (by omega)]; omega
      have e2 : (i : Int).tdiv 4 = ((i / 4 : Nat) : Int) := by rw [Int.tdiv_eq_ediv_of_nonneg (by omega)]; omega
      have hk4 : i % 4 < 4 := by omega
      have HST : Hid (stAt (bl s1) i = dig (byt (bl s1) (i / 4)) (i % 4)) := rfl
      rw [byt_is hq] at HST
      obtain ⟨k, hkk⟩ : ∃ k, i % 4 = k := ⟨_, rfl⟩
      rw [hkk] at e1 hk4 HST
      clear hkk
      have hbt := UInt8.toNat_lt (s1[i / 4]'hq)
      obtain ⟨bq, hbq⟩ : ∃ b, (s1[i / 4]'hq).toNat = b := ⟨_, rfl⟩
      rw [hbq] at HST hbt
      have HBQ := hide hbq
      clear hbq
      have hiN : (i : Int) < 4 * (N : Int) := by omega
      have hli : (i : Int) < 4 * (s1.size : Int) := by omega
      have HMM : Hid ((i : Int) < m ↔ i < m.toNat) := by unfold Hid; omega
      go_wp2_with fail
      clear d1 p5
      go_loop [11, 12] (fun a b => ∃ j : Nat, j ≤ k ∧ a = .int .i64 ((bq / 4 ^ j : Nat) : Int) ∧ b = .int .i64 (j : Int)) (fun _ b => k - (intOf b).toNat)
      case atStart => exact ⟨0, by omega, by simp; rw [HBQ.out]; exact w64_id _ (by omega), rfl⟩
      case round =>
        obtain ⟨j, hj, rfl, rfl⟩ := hrel
        have hle : bq / 4 ^ j ≤ bq := Nat.div_le_self _ _
        by_cases hjk : j < k
        · have hs : bq / 4 ^ j / 4 = bq / 4 ^ (j + 1) := by rw [Nat.pow_succ, Nat.div_div_eq_div_mul]
          obtain ⟨nn, hnn⟩ : ∃ n, bq / 4 ^ j = n := ⟨_, rfl⟩
          rw [hnn] at hle hs ⊢
          have HSS := hide hs
          clear hs hnn
          have hjk' : (j : Int) < (k : Int) := by omega
          go_wp2_with fail
          go_round
          case rel => exact ⟨j + 1, by omega, by rw [← HSS.out]; go_num, by go_num⟩
          case measure => simp [intOf]; omega
        · have hjk' : ¬ (j : Int) < (k : Int) := by omega
          have ejk : j = k := by omega
          have HSV : Hid (stAt (bl s1) i = bq / 4 ^ j % 4) := by unfold Hid; rw [ejk]; exact HST.out
          obtain ⟨nn, hnn⟩ : ∃ n, bq / 4 ^ j = n := ⟨_, rfl⟩
          rw [hnn] at hle HSV ⊢
          clear hnn ejk HST
          obtain ⟨st, hst⟩ : ∃ s, nn % 4 = s := ⟨_, rfl⟩
          rw [hst] at HSV
          have hs1 : (nn : Int).tmod 4 = (st : Int) := by rw [Int.tmod_eq_emod_of_nonneg (by omega)]; omega
          have hs2 : (st : Int) % 256 = (st : Int) := by omega
          have hs3 : (nn : Int) % 4 = (st : Int) := by omega
          by_cases him : (i : Int) < m
          · obtain ⟨v', w5, hrun, hsl5, ho5⟩ := append_st wr w3.heap.size u9 _ HSL.out (by have := HON.out.size; omega) st (by rw [stsTo_len]; omega)
            have HRUN := hide hrun
            have HSL5 : Hid (Sl w5 w3.heap.size v' (stsTo (bl s1) m.toNat (i + 1))) := by
              unfold Hid
              rw [stsTo_next _ _ _ (HMM.out.1 him), HSV.out]
              exact hsl5
            have HON5 := hide (HON.out.trans ho5 (fun _ _ h => h))
            clear hrun hsl5 ho5 hst
            go_wp2_with (at_builtin; go_must (refine Lib.wpList_append_run _ rfl (.tmp 105) (.tmp 107) _ _ rfl _ _ rfl rfl _ _ HRUN.out ?_))
            exact ⟨⟨i + 1, by omega, by go_num, HSL5, (fun j hj hji => by
              by_cases e : j < i
              · exact HZE.out j hj e
              · omega), HON5⟩, by simp [intOf]; omega⟩
          · have HSL5 : Hid (Sl wr w3.heap.size u9 (stsTo (bl s1) m.toNat (i + 1))) := by
              unfold Hid
              rw [stsTo_past _ _ _ (fun h => him (HMM.out.2 h))]
              exact HSL.out
            by_cases hs0 : st = 0
            · have HZ5 : Hid (∀ j : Nat, m ≤ (j : Int) → j < i + 1 → stAt (bl s1) j = 0) := fun j hj hji => by
                by_cases e : j < i
                · exact HZE.out j hj e
                · have : j = i := by omega
                  rw [this, HSV.out, hs0]
              have hs00 : (st : Int) = 0 := by omega
              clear hst
              go_wp2_with fail
              exact ⟨⟨i + 1, by omega, by go_num, HSL5, HZ5, HON⟩, by simp [intOf]; omega⟩
            · have hs00 : ¬ (st : Int) = 0 := by omega
              have HNO : Hid (¬ PY) := fun h => hs0 (by rw [← HSV.out]; exact HTOP.out.1 h i (by omega) hlt)
              clear hst hs0
              go_wp2_with fail
              go_ret3
              exact ⟨fun h => absurd h HNO.out, fun _ => ⟨rfl, HOW.out⟩⟩
    · have hli : ¬ (i : Int) < 4 * (s1.size : Int) := by omega
      have ei : i = 4 * N := by omega
      have HYES : Hid PY := HTOP.out.2 (fun j h1 h2 => HZE.out j h1 (by omega))
      have HSLF : Hid (Sl wr w3.heap.size u9 (stsTo (bl s1) m.toNat m.toNat)) := by
        have := HSL.out
        unfold stsTo at this ⊢
        rw [show min i m.toNat = min m.toNat m.toNat by omega] at this
        exact this
      obtain ⟨BF, capF, hvF, hbF, hF⟩ := HSLF.out.stl (by rw [stsTo_len]; omega) (stsTo_four _ _ _)
      have HF := hide hF
      have HBF := hide hbF
      subst hvF
      clear hbF hF ei HTOP
      go_wp2_with fail
      go_ret3
      exact ⟨fun _ => ⟨BF, capF, rfl, HF.out, by have := HBF.out; have := HO3.out.size; omega, HOW.out⟩, fun h => absurd HYES.out h⟩
-- T}
end Go.Proofs.YtolfmodgkkjnbaaGreat
