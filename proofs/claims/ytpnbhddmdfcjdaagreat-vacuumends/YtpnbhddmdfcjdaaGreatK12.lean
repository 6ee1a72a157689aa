/- Parts. -/
import Derived.BigQuiet
import Derived.Deep.Draws
import Derived.Test.YtpnbhddmdfcjdaaGreatK01
import Derived.Maps.AppendAt
import Derived.Laws.OwnMore
import Derived.Lib.AppendZeros
import Derived.Deep.RegionWith
import Derived.Deep.DeepCutAuto
import Derived.Lib.Repeat
import Derived.Deep.LoopGhost
import Derived.Test.YtpnbhddmdfcjdaaGreatK10
set_option maxRecDepth 100000
namespace Go.Proofs.YtpnbhddmdfcjdaaGreat
open Go.RowKit
theorem isModulus_any (m : Int) (w : World) (hm : I64 m) :
    Calls Tryz.prog 178 #[.int .i64 m] w fun e w' => e = .returned (.bool (decide (Md m))) ∧ w' = w := by
  have hm1 := hm.1
  have hm2 := hm.2
  clear hm
  by_cases h1 : 16 ≤ m
  · by_cases h2 : m ≤ 1024
    · have ht : m.tmod 2 = m % 2 := tmod2 (by omega)
      cases h3 : (m % 2 == 0)
      all_goals
        have HX : (decide (Md m) = (m % 2 == 0)) := by
          unfold Md; rw [h3]; simp at h3; simp [h1, h2, h3]
        rw [HX, h3]
        go_enter Tryz.func178, Tryz.ntmps178
        go_wp2
        go_ret
        exact ⟨rfl, rfl⟩
    · rw [show decide (Md m) = false from by unfold Md; simp [h2]]
      go_enter Tryz.func178, Tryz.ntmps178
      go_wp2
      go_ret
      exact ⟨rfl, rfl⟩
  · rw [show decide (Md m) = false from by unfold Md; simp [h1]]
    go_enter Tryz.func178, Tryz.ntmps178
    go_wp2
    go_ret
    exact ⟨rfl, rfl⟩
theorem isID_any (m x : Int) (w : World) (hm : I64 m) (hx : I64 x) :
    Calls Tryz.prog 128 #[.int .i64 m, .int .i64 x] w fun e w' => e = .returned (.bool (decide (Idd m x))) ∧ w' = w := by
  have hc := isModulus_any m w hm
  have hm1 := hm.1
  have hm2 := hm.2
  have hx1 := hx.1
  have hx2 := hx.2
  clear hm hx
  by_cases hM : Md m
  · rw [decide_eq_true hM] at hc
    by_cases h1 : 1 ≤ x
    · by_cases h2 : x ≤ m
      · rw [show decide (Idd m x) = true from by unfold Idd; simp [h1, h2, hM]]
        clear hM
        go_enter Tryz.func128, Tryz.ntmps128
        go_wp2_with (go_at_call 178; refine hc.mono ?_; rintro e w' ⟨rfl, hw⟩; obtain rfl := hw.symm; clear hw)
        go_ret
        exact ⟨rfl, rfl⟩
      · rw [show decide (Idd m x) = false from by unfold Idd; simp [h2]]
        have hd : decide (x ≤ m) = false := decide_eq_false h2
        clear hM
        go_enter Tryz.func128, Tryz.ntmps128
        go_wp2_with (go_at_call 178; refine hc.mono ?_; rintro e w' ⟨rfl, hw⟩; obtain rfl := hw.symm; clear hw)
        go_ret
        exact ⟨rfl, rfl⟩
    · rw [show decide (Idd m x) = false from by unfold Idd; simp [h1]]
      clear hM
      go_enter Tryz.func128, Tryz.ntmps128
      go_wp2_with (go_at_call 178; refine hc.mono ?_; rintro e w' ⟨rfl, hw⟩; obtain rfl := hw.symm; clear hw)
      go_ret
      exact ⟨rfl, rfl⟩
  · rw [decide_eq_false hM] at hc
    rw [show decide (Idd m x) = false from by unfold Idd; simp [hM]]
    clear hM
    go_enter Tryz.func128, Tryz.ntmps128
    go_wp2_with (go_at_call 178; refine hc.mono ?_; rintro e w' ⟨rfl, hw⟩; obtain rfl := hw.symm; clear hw)
    go_ret
    exact ⟨rfl, rfl⟩
theorem around_any (m n : Int) (w : World) (h : 16 ≤ m) (h' : m ≤ 1024) (hn : I64 n) :
    Calls Tryz.prog 129 #[.int .i64 m, .int .i64 n] w fun e w' => e = .returned (.int .i64 (n % m)) ∧ w' = w := by
  have hn1 := hn.1
  have hn2 := hn.2
  clear hn
  have hb := tmod_bd (n := n) h
  have hr := around_is (n := n) h
  have he := emod_bd (n := n) h
  obtain ⟨k, hk⟩ : ∃ k, n.tmod m = k := ⟨_, rfl⟩
  obtain ⟨r, hr'⟩ : ∃ r, n % m = r := ⟨_, rfl⟩
  rw [hk] at hb hr
  rw [hr'] at hr he
  rw [hr']
  clear hr'
  go_enter Tryz.func129, Tryz.ntmps129
  go_wp2
  go_ret
  exact ⟨rfl, rfl⟩
theorem I64.of {n : Int} (h0 : -9223372036854775808 ≤ n) (h1 : n < 9223372036854775808) : I64 n := ⟨h0, h1⟩
theorem add_any (m x n : Int) (w : World) (hm : I64 m) (hx : I64 x) (hn : I64 n) :
    Calls Tryz.prog 81 #[.int .i64 m, .int .i64 x, .int .i64 n] w fun e w' => e = .returned (.int .i64 (xadd m x n)) ∧ w' = w := by
  have hc := isID_any m x w hm hx
  by_cases hI : Idd m x
  · rw [decide_eq_true hI] at hc
    have h16 := hI.1.1
    have h1024 := hI.1.2.1
    have hx1 := hI.2.1
    have hx2 := hI.2.2
    have hb := tmod_bd (n := n) h16
    have ha := fun w => around_any m (x - 1 + n.tmod m) w h16 h1024 (I64.of (by omega) (by omega))
    rw [add_is h16] at ha
    have hq : xadd m x n = (x - 1 + n) % m + 1 := by unfold xadd; rw [if_pos hI]
    have hs := emod_bd (n := x - 1 + n) h16
    rw [hq]
    have hn1 := hn.1
    have hn2 := hn.2
    clear hI hm hx hn hq
    obtain ⟨r, hr⟩ : ∃ r, (x - 1 + n) % m = r := ⟨_, rfl⟩
    rw [hr] at ha hs
    rw [hr]
    clear hr
    obtain ⟨k, hk⟩ : ∃ k, n.tmod m = k := ⟨_, rfl⟩
    rw [hk] at ha hb
    go_enter Tryz.func81, Tryz.ntmps81
    go_wp2_with (first
      | (go_at_call 128; refine hc.mono ?_; rintro e w' ⟨rfl, hw⟩; obtain rfl := hw.symm; clear hw)
      | (go_at_call 129; refine (ha _).mono ?_; rintro e w' ⟨rfl, hw⟩; obtain rfl := hw.symm; clear hw))
    go_ret
    exact ⟨rfl, rfl⟩
  · rw [decide_eq_false hI] at hc
    have hq : xadd m x n = 0 := by unfold xadd; rw [if_neg hI]
    rw [hq]
    clear hI hq hm hx hn
    go_enter Tryz.func81, Tryz.ntmps81
    go_wp2_with (first
      | (go_at_call 128; refine hc.mono ?_; rintro e w' ⟨rfl, hw⟩; obtain rfl := hw.symm; clear hw))
    go_ret
    exact ⟨rfl, rfl⟩
theorem gap_any (m a b : Int) (w : World) (hm : I64 m) (ha : I64 a) (hb : I64 b) :
    Calls Tryz.prog 145 #[.int .i64 m, .int .i64 a, .int .i64 b] w fun e w' => e = .returned (.int .i64 (xgap m a b)) ∧ w' = w := by
  have hc := isID_any m a w hm ha
  have hd := isID_any m b w hm hb
  by_cases hI : Idd m a
  · rw [decide_eq_true hI] at hc
    by_cases hJ : Idd m b
    · rw [decide_eq_true hJ] at hd
      have h16 := hI.1.1
      have h1024 := hI.1.2.1
      have hx1 := hI.2.1
      have hx2 := hI.2.2
      have hy1 := hJ.2.1
      have hy2 := hJ.2.2
      have hr := fun w => around_any m (b - a) w h16 h1024 (I64.of (by omega) (by omega))
      have hq : xgap m a b = (b - a) % m := by unfold xgap; rw [if_pos ⟨hI, hJ⟩]
      rw [hq]
      clear hI hJ hq hm ha hb
      obtain ⟨k, hk⟩ : ∃ k, (b - a) % m = k := ⟨_, rfl⟩
      rw [hk] at hr
      rw [hk]
      clear hk
      go_enter Tryz.func145, Tryz.ntmps145
      go_wp2_with fail
      go_at_call 128
      refine (hc).mono ?_
      rintro e w' ⟨rfl, hw⟩; obtain rfl := hw.symm; clear hw
      go_wp2_with fail
      go_at_call 128
      refine (hd).mono ?_
      rintro e w' ⟨rfl, hw⟩; obtain rfl := hw.symm; clear hw
      go_wp2_with fail
      go_at_call 129
      refine (hr _).mono ?_
      rintro e w' ⟨rfl, hw⟩; obtain rfl := hw.symm; clear hw
      go_wp2_with fail
      go_ret
      exact ⟨rfl, rfl⟩
    · rw [decide_eq_false hJ] at hd
      have hq : xgap m a b = 0 := by unfold xgap; rw [if_neg (fun h => hJ h.2)]
      rw [hq]
      clear hI hJ hq hm ha hb
      go_enter Tryz.func145, Tryz.ntmps145
      go_wp2_with fail
      go_at_call 128
      refine (hc).mono ?_
      rintro e w' ⟨rfl, hw⟩; obtain rfl := hw.symm; clear hw
      go_wp2_with fail
      go_at_call 128
      refine (hd).mono ?_
      rintro e w' ⟨rfl, hw⟩; obtain rfl := hw.symm; clear hw
      go_wp2_with fail
      go_ret
      exact ⟨rfl, rfl⟩
  · rw [decide_eq_false hI] at hc
    have hq : xgap m a b = 0 := by unfold xgap; rw [if_neg (fun h => hI h.1)]
    rw [hq]
    clear hI hq hm ha hb hd
    go_enter Tryz.func145, Tryz.ntmps145
    go_wp2_with (first
      | (go_at_call 128; refine hc.mono ?_; rintro e w' ⟨rfl, hw⟩; obtain rfl := hw.symm; clear hw))
    go_ret
    exact ⟨rfl, rfl⟩
theorem xgap_id {m a b : Int} (h : 1 ≤ xgap m a b) : 16 ≤ m ∧ m ≤ 1024 := by
  unfold xgap at h
  split at h
  · rename_i k
    exact ⟨k.1.1.1, k.1.1.2.1⟩
  · omega
theorem before_any (m a b : Int) (w : World) (hm : I64 m) (ha : I64 a) (hb : I64 b) :
    Calls Tryz.prog 103 #[.int .i64 m, .int .i64 a, .int .i64 b] w fun e w' => e = .returned (.bool (xbef m a b)) ∧ w' = w := by
  have hc := gap_any m a b w hm ha hb
  have hbd := xgap_bd (m := m) (a := a) (b := b)
  have hid := xgap_id (m := m) (a := a) (b := b)
  obtain ⟨k, hk⟩ : ∃ k, xgap m a b = k := ⟨_, rfl⟩
  have hX : xbef m a b = decide (1 ≤ k ∧ k ≤ m / 2 - 1) := by unfold xbef; rw [hk]
  rw [hX]
  rw [hk] at hc hbd hid
  clear hX hk hm ha hb
  by_cases h1 : 1 ≤ k
  · obtain ⟨h16, h1024⟩ := hid h1
    clear hid
    by_cases h2 : k ≤ m / 2 - 1
    · rw [show decide (1 ≤ k ∧ k ≤ m / 2 - 1) = true from by simp [h1, h2]]
      go_enter Tryz.func103, Tryz.ntmps103
      go_wp2_with (first
        | (go_at_call 145; refine hc.mono ?_; rintro e w' ⟨rfl, hw⟩; obtain rfl := hw.symm; clear hw))
      go_ret
      exact ⟨rfl, rfl⟩
    · rw [show decide (1 ≤ k ∧ k ≤ m / 2 - 1) = false from by simp [h2]]
      have hd : decide (k ≤ m / 2 - 1) = false := decide_eq_false h2
      go_enter Tryz.func103, Tryz.ntmps103
      go_wp2_with (first
        | (go_at_call 145; refine hc.mono ?_; rintro e w' ⟨rfl, hw⟩; obtain rfl := hw.symm; clear hw))
      go_ret
      exact ⟨rfl, rfl⟩
  · rw [show decide (1 ≤ k ∧ k ≤ m / 2 - 1) = false from by simp [h1]]
    clear hid
    go_enter Tryz.func103, Tryz.ntmps103
    go_wp2_with (first
      | (go_at_call 145; refine hc.mono ?_; rintro e w' ⟨rfl, hw⟩; obtain rfl := hw.symm; clear hw))
    go_ret
    exact ⟨rfl, rfl⟩
/- The document's. -/
theorem getD_of {l : List ByteArray} {j : Nat} (h : j < l.length) : l.getD j ByteArray.empty = l[j] := by simp [List.getD_eq_getElem?_getD, h]
set_option maxRecDepth 100000 in
set_option maxHeartbeats 800000 in
theorem hasItem_any (w : World) (a k v r i : Int) (h : ByteArray) (cp n : Nat) (ao : Option Addr) :
    Calls Tryz.prog 93 #[.agg #[.int .i64 a, .int .i64 k, .int .i64 v, .int .i64 r, .string h, .slice ao n cp], .int .i64 i] w fun e w' => e = .returned (.bool (decide (0 ≤ i ∧ i < n))) ∧ Only (fun _ => False) w w' := by
  have HO := hide (onlyA w (.cells #[.int .i64 a, .int .i64 k, .int .i64 v, .int .i64 r, .string h, .slice ao n cp] 30))
  go_enter Tryz.func93, Tryz.ntmps93
  go_wp2_with fail
  all_goals go_ret
  all_goals exact ⟨ret_bool (by rw [Bool.eq_iff_iff]; first | (simp; done) | (simp; omega)), HO.out⟩
theorem add_at (b o n : Nat) : (⟨b, o, none⟩ : Addr).add n = ⟨b, o + n, none⟩ := by
  unfold Addr.add
  split
  · rename_i h; rw [h]; rfl
  · rfl
def scells (l : List ByteArray) : List Value := l.map Value.string
theorem scells_append (l m : List ByteArray) : scells (l ++ m) = scells l ++ scells m := by simp [scells]
theorem scells_one (l : List ByteArray) : ∀ u ∈ scells l, u.oneCell' = true := by
  intro u hu
  obtain ⟨s, _, rfl⟩ := List.mem_map.1 hu
  rfl
/-- Texts that the value v owns, in a block from base on. -/
def Ls (w : World) (base : Nat) (v : Value) (l : List ByteArray) : Prop := w.ownsRow base 9 1 v l.length (scells l)
/-- A slice that is what Go lets it be. -/
structure Fit (ao : Option Addr) (n cp : Nat) : Prop where
  nil : ao = none → cp = 0
  le : n ≤ cp
  big : cp ≤ maxLen
theorem Ls.nil (w : World) (base : Nat) : Ls w base (.slice none 0 0) [] := World.ownsRow_nil _ _ _ _
theorem Ls.kept {S : Nat → Prop} {w w' : World} {base : Nat} {v : Value} {l : List ByteArray} (h : Ls w base v l) (ho : Only S w w') (hS : ∀ k, v.ownBlock = some k → ¬ S k) : Ls w' base v l := by
  obtain ⟨h1, h2⟩ := h
  refine ⟨h1, ?_⟩
  rcases h2 with h2 | ⟨g, cap, cur, hv, hg, hh, r⟩
  · exact .inl h2
  · subst hv
    exact .inr ⟨g, cap, cur, rfl, hg, by rw [ho.block g (Array.getElem?_eq_some_iff.1 hh).1 (hS g rfl)]; exact hh, r⟩
theorem Ls.more {w w' : World} {base : Nat} {v : Value} {l : List ByteArray} (h : Ls w base v l) (ho : Only (fun _ => False) w w') : Ls w' base v l := h.kept ho (fun _ _ h => h)
theorem Ls.strs {w : World} {base : Nat} {v : Value} {l : List ByteArray} (h : Ls w base v l) (hl : l.length ≤ 8796093022207) (hs : ∀ s ∈ l, s.size ≤ 140737488355328) :
    ∃ B ao cp, v = .slice ao l.length cp ∧ Strs w B ao l ∧ Fit ao l.length cp ∧ (0 < l.length → base ≤ B) ∧ (ao = none ∨ ao = some ⟨B, 0, none⟩) := by
  rcases h.2 with ⟨rfl, h0⟩ | ⟨g, cap, cur, rfl, hb, hg, hn, hm, _⟩
  · have e : l = [] := List.eq_nil_of_length_eq_zero h0
    subst e
    exact ⟨0, none, 0, rfl, Strs.nil _ _ _, ⟨fun _ => rfl, by simp, by simp⟩, fun h => absurd h (by simp), .inl rfl⟩
  · refine ⟨g, some ⟨g, 0, none⟩, cap, rfl, ⟨fun _ => ⟨0, rfl, fun j hj => ?_⟩, fun _ => (Array.getElem?_eq_some_iff.1 hg).1, hl, hs⟩, ⟨(fun h => by cases h), hn, hm⟩, fun _ => hb, .inr rfl⟩
    rw [Nat.zero_add, World.ownsRow.cellAt h j (by omega)]
    simp [scells, hj]
theorem Tryz.infoStr : (Tryz.prog.info? 9).map (fun i => (i.zero, i.size, i.bytes)) = some (some (.string ⟨#[]⟩), 1, 16) := by kernel_rfl
theorem Strs.none_nil {w : World} {B : Nat} {l : List ByteArray} (h : Strs w B none l) : l = [] := by
  cases l with
  | nil => rfl
  | cons s t =>
    obtain ⟨o, e, _⟩ := h.at_ (by simp)
    cases e
theorem append_strs (w : World) (ty : TypeId) (base : Nat) (v : Value) (l : List ByteArray) (h : Ls w base v l) (B cp : Nat) (ao : Option Addr) (m : List ByteArray) (hm : Strs w B ao m) (hf : Fit ao m.length cp) (hroom : l.length + m.length ≤ 8796093022208) (hbase : base ≤ w.heap.size) :
    ∃ v' w', (Builtin.append_ #[28, 28] ty #[v, .slice ao m.length cp]).run Tryz.prog w = .ok v' w' ∧ Ls w' base v' (l ++ m) ∧ Only (fun k => base ≤ k) w w' := by
  obtain ⟨i0, hi, hz0, hz1, hz2⟩ := info_parts Tryz.infoStr
  cases ao with
  | none =>
    have e := hm.none_nil
    subst e
    have hc := hf.nil rfl
    subst hc
    refine ⟨v, w, run_append_owned_none (P := Tryz.prog) w base 28 ty 9 i0 1 Tryz.underlying28 hi v l.length (scells l) h, by rw [List.append_nil]; exact h, Only.refl _ _⟩
  | some ad =>
    obtain ⟨v', w', hr, h2, h3, _, _⟩ := run_append_own_at (P := Tryz.prog) w base 28 ty 9 i0 (.string ⟨#[]⟩) 1 16 Tryz.underlying28 hi hz0 hz1 hz2 rfl (by decide) v l.length (scells l) h ad m.length cp (scells m) (by simp [scells])
      (fun j u hu => by
        have hj : j < m.length := by have := (List.getElem?_eq_some_iff.1 hu).1; simpa [scells] using this
        obtain ⟨o, e, hc⟩ := hm.at_ (by omega)
        cases e
        rw [add_at, hc j hj, ← hu]
        simp [scells, hj]) (scells_one m) (by unfold maxLen; omega) (by omega) hbase
    refine ⟨v', w', hr, ?_, Only.grown h3 (fun k hk => (World.ownsRow.lt h k hk).1)⟩
    have e : l.length + m.length = (l ++ m).length := by simp
    unfold Ls
    rw [scells_append, ← e]
    exact h2
set_option maxRecDepth 100000 in
set_option maxHeartbeats 800000 in
/-- Room for so many texts, in a new block. -/
theorem grow_any (w : World) (n : Nat) (hn : n ≤ 8796093022208) :
    Calls Tryz.prog 191 #[.slice none 0 0, .int .i64 (n : Int)] w fun e w' => ∃ v, e = .returned v ∧ Ls w' w.heap.size v [] ∧ Only (fun _ => False) w w' := by
  obtain ⟨i0, hi, hz0, hz1, hz2⟩ := info_parts Tryz.infoStr
  by_cases h0 : n = 0
  · subst h0
    go_enter Tryz.func191, Tryz.ntmps191
    go_wp2_with fail
    go_ret
    exact ⟨_, rfl, Ls.nil _ _, Only.refl _ _⟩
  · have hp : (0 : Int) < (n : Int) := by omega
    have hr := Lib.run_append_nil_zeros (P := Tryz.prog) w 28 3 28 9 i0 (.string ⟨#[]⟩) .i64 .i64 Tryz.underlying28 Tryz.underlying3 hi hz0 n (by omega) (by omega) (by omega) (by rw [hz2]; omega)
    have HR := hide hr
    clear hr
    go_enter Tryz.func191, Tryz.ntmps191
    go_wp2_with (at_builtin; go_must (refine Lib.wpList_append_run _ rfl _ _ _ _ rfl _ _ rfl rfl _ _ HR.out ?_))
    go_ret
    refine ⟨_, rfl, ⟨rfl, .inr ⟨w.heap.size, _, _, rfl, Nat.le_refl _, heap_alloc_new w.drew _, Nat.zero_le _, grownCap_le_maxLen w n 0 9 (by unfold maxLen; omega), ?_, rfl⟩⟩, (Only.drew _ w).trans (Only.alloc (fun _ => False) _ _) (fun _ _ h => h)⟩
    have hge := grownCap_ge w n 0 9
    simp only [Array.size_append, size_zeroCells]
    show n * 1 + (grownCap w n 0 9 - n) * 1 = grownCap w n 0 9 * 1
    omega
/-- The first so many lists, one behind the other. -/
def catTo (L : Nat → List ByteArray) : Nat → List ByteArray
  | 0 => []
  | k + 1 => catTo L k ++ L k
theorem catTo_le (L : Nat → List ByteArray) (k n : Nat) (h : k ≤ n) : (catTo L k).length ≤ (catTo L n).length := by
  induction n with
  | zero => have : k = 0 := by omega
            subst this; exact Nat.le_refl _
  | succ n ih =>
    by_cases e : k = n + 1
    · subst e; exact Nat.le_refl _
    · have := ih (by omega)
      simp only [catTo, List.length_append]
      omega
set_option maxRecDepth 100000 in
set_option maxHeartbeats 800000 in
theorem concat_any (w : World) (b n c : Nat) (A : Nat → Option Addr) (C B : Nat → Nat) (L : Nat → List ByteArray) (hc : ∀ j, j < n → w.cell? ⟨b, j, none⟩ = some (.slice (A j) (L j).length (C j)))
    (hL : ∀ j, j < n → Strs w (B j) (A j) (L j)) (hF : ∀ j, j < n → Fit (A j) (L j).length (C j)) (hn : n ≤ 3) (hb : b < w.heap.size) (hroom : (catTo L n).length ≤ 8796093022208) :
    Calls Tryz.prog 164 #[.slice (some ⟨b, 0, none⟩) n c] w fun e w' => ∃ v, e = .returned v ∧ Ls w' w.heap.size v (catTo L n) ∧ Only (fun _ => False) w w' := by
  have HC := hide hc
  have HL := hide hL
  have HF := hide hF
  have HR := hide hroom
  clear hc hL hF hroom
  have HM : Hid (∀ k, k ≤ n → (catTo L k).length ≤ 8796093022208) := fun k hk => Nat.le_trans (catTo_le L k n hk) HR.out
  go_enter Tryz.func164, Tryz.ntmps164
  go_wp2_with fail
  go_loop [3, 11] (fun x y => ∃ (j m : Nat), j ≤ n ∧ y = .int .i64 (j : Int) ∧ x = .int .i64 (m : Int) ∧ m ≤ 8796093022208 ∧ Hid (m = (catTo L j).length)) (fun _ y => n - (intOf y).toNat)
  case atStart => exact ⟨0, 0, by omega, rfl, rfl, by omega, hide rfl⟩
  case round =>
    obtain ⟨j, m, hj, rfl, rfl, hm, HQ⟩ := hrel
    by_cases hlt : j < n
    · have hcj := HC.out j hlt
      have hm2 := HM.out (j + 1) hlt
      have HT : Hid ((m : Int) + ((L j).length : Int) = (((catTo L (j + 1)).length : Nat) : Int)) := by
        unfold Hid
        simp only [catTo, List.length_append]
        have := HQ.out
        omega
      have hmb : (m : Int) + ((L j).length : Int) ≤ 8796093022208 := by have := HT.out; omega
      have hj1 : (j : Int) < (n : Int) := by omega
      obtain ⟨lj, hlj⟩ : ∃ lj, (L j).length = lj := ⟨_, rfl⟩
      rw [hlj] at hcj HT hmb
      clear hlj
      clear hm2
      go_wp2_with fail
      go_round
      case rel => exact ⟨j + 1, (catTo L (j + 1)).length, by omega, by go_num, by rw [HT.out], HM.out _ hlt, hide rfl⟩
      case measure => simp [intOf]; omega
    · have ej : j = n := by omega
      subst ej
      go_wp2_with fail
      refine (grow_any _ m hm).mono ?_
      rintro e w1 ⟨v1, rfl, hl1, ho1⟩
      have HL1 := hide hl1
      have HO1 := hide ho1
      clear hl1 ho1
      go_wp2_with fail
      go_loopw [6, 27] (fun x y wr => ∃ (i : Nat), i ≤ j ∧ y = .int .i64 (i : Int) ∧ Hid (Ls wr w.heap.size x (catTo L i)) ∧ Hid (Only (fun _ => False) w wr)) (fun _ y _ => j - (intOf y).toNat)
      case atStart => exact ⟨0, by omega, rfl, HL1, HO1⟩
      case round =>
        obtain ⟨i, hi, rfl, HX, HO⟩ := hrel
        by_cases hlt2 : i < j
        · have hcj := (HO.out.cell (p := ⟨b, i, none⟩) hb (fun h => h)).trans (HC.out i hlt2)
          obtain ⟨v2, w2, hr2, hl2, ho2⟩ := append_strs wr 28 w.heap.size _ _ HX.out (B i) (C i) (A i) (L i) ((HL.out i hlt2).more HO.out) (HF.out i hlt2) (by have := HM.out (i + 1) hlt2; simp only [catTo, List.length_append] at this; omega) HO.out.size
          have HR2 := hide hr2
          have HL2 : Hid (Ls w2 w.heap.size v2 (catTo L (i + 1))) := hl2
          have HO2 : Hid (Only (fun _ => False) w w2) := HO.out.trans ho2 (fun k hk e => by omega)
          clear hr2 hl2 ho2
          have hj1 : (i : Int) < (j : Int) := by omega
          go_wp2_with (at_builtin; go_must (refine Lib.wpList_append_run _ rfl _ _ _ _ rfl _ _ rfl rfl _ _ HR2.out ?_))
          go_roundw
          case rel => exact ⟨i + 1, by omega, by go_num, HL2, HO2⟩
          case measure => simp [intOf]; omega
        · have ei : i = j := by omega
          subst ei
          go_wp2_with fail
          go_ret
          exact ⟨_, rfl, HX.out, HO.out⟩
/-- A list's copy. -/
theorem clone_any (w : World) (B cp : Nat) (ao : Option Addr) (l : List ByteArray) (h : Strs w B ao l) :
    Calls Tryz.prog 69 #[.slice ao l.length cp] w fun e w' => ∃ v, e = .returned v ∧ Ls w' w.heap.size v l ∧ Only (fun _ => False) w w' := by
  have only : ∀ w', Below w.heap.size w w' → Only (fun _ => False) w w' := fun w' hb => ⟨hb.os, hb.tape, hb.output, hb.size, fun k hk _ => hb.block k hk⟩
  cases ao with
  | none =>
    have e := h.none_nil
    subst e
    refine (Tryz.slices_Clone_string_nil _ cp w).mono ?_
    rintro e w' ⟨rfl, rfl⟩
    exact ⟨_, rfl, Ls.nil _ _, Only.refl _ _⟩
  | some ad =>
    by_cases h0 : l.length = 0
    · have e : l = [] := List.eq_nil_of_length_eq_zero h0
      subst e
      refine (Tryz.slices_Clone_string_zero ad cp w).mono ?_
      rintro e w' ⟨v, rfl, ho, _, hb⟩
      exact ⟨v, rfl, ho, only _ hb⟩
    · obtain ⟨o, e, hc⟩ := h.at_ (by omega)
      cases e
      have hl := h.len
      refine (Tryz.slices_Clone_string B o l.length cp l w (Nat.le_refl _) (by omega) (fun j hj => by rw [hc j hj, getD_of hj])).mono ?_
      rintro e w' ⟨v, rfl, ho, _, hb⟩
      rw [List.take_of_length_le (Nat.le_refl _)] at ho
      exact ⟨v, rfl, ho, only _ hb⟩
/-- A page and a code that a call returned, in memory of its own. -/
def Res (w w' : World) (e : Ending) (p : Pg) (c : Int) : Prop := ∃ B ao cp, e = .returned (.tuple #[.agg #[.int .i64 p.lsn, .int .i64 p.kind, .int .i64 p.level, .int .i64 p.right, .string p.high, .slice ao p.items.length cp], .int .i64 c]) ∧
  Strs w' B ao p.items ∧ Fit ao p.items.length cp ∧ Only (fun _ => False) w w' ∧ (0 < p.items.length → w.heap.size ≤ B)
theorem Res.none {w w' : World} (c : Int) (ho : Only (fun _ => False) w w') : Res w w' (.returned (.tuple #[.agg #[.int .i64 0, .int .i64 0, .int .i64 0, .int .i64 0, .string ⟨#[]⟩, .slice none 0 0], .int .i64 c])) .none c :=
  ⟨0, Option.none, 0, rfl, Strs.nil _ _ _, ⟨fun _ => rfl, by simp [Pg.none], by simp⟩, ho, fun h => absurd h (by simp [Pg.none])⟩
/-- Refused as too long, or the page. -/
def Or3 (w w' : World) (e : Ending) (c : Prop) (p : Pg) : Prop := (c → Res w w' e .none 3) ∧ (¬ c → Res w w' e p 0)
theorem Or3.yes {w w' : World} {e : Ending} {c : Prop} {p : Pg} (hc : c) (h : Res w w' e .none 3) : Or3 w w' e c p := ⟨fun _ => h, fun n => absurd hc n⟩
theorem Or3.no {w w' : World} {e : Ending} {c : Prop} {p : Pg} (hc : ¬ c) (h : Res w w' e p 0) : Or3 w w' e c p := ⟨fun n => absurd n hc, fun _ => h⟩
/-- The parts of a list at a place, as slices. -/
theorem Strs.take {w : World} {B : Nat} {ao : Option Addr} {l : List ByteArray} (h : Strs w B ao l) (k : Nat) : Strs w B ao (l.take k) :=
  ⟨fun h0 => by
    have hl : 0 < l.length := by simp only [List.length_take] at h0; omega
    obtain ⟨o, e, hc⟩ := h.at_ hl
    exact ⟨o, e, fun j hj => by rw [List.getElem_take]; exact hc j (by simp only [List.length_take] at hj; omega)⟩, fun h0 => h.lt (by simp only [List.length_take] at h0; omega), by have := h.len; simp only [List.length_take]; omega, fun s hs => h.size s (List.mem_of_mem_take hs)⟩
theorem Strs.drop {w : World} {B b o : Nat} {l : List ByteArray} (h : Strs w B (some ⟨b, o, Option.none⟩) l) (k : Nat) (ao : Option Addr) (ha : k < l.length → ao = some ⟨b, o + k, Option.none⟩) : Strs w B ao (l.drop k) :=
  ⟨fun h0 => by
    have hl : k < l.length := by simp only [List.length_drop] at h0; omega
    obtain ⟨o', e, hc⟩ := h.at_ (by omega)
    cases e
    exact ⟨o + k, ha hl, fun j hj => by rw [List.getElem_drop, Nat.add_assoc]; exact hc (k + j) (by simp only [List.length_drop] at hj; omega)⟩, fun h0 => h.lt (by simp only [List.length_drop] at h0; omega), by have := h.len; simp only [List.length_drop]; omega, fun s hs => h.size s (List.mem_of_mem_drop hs)⟩
theorem Pag.set5 {w : World} {b : Nat} {v0 v1 v2 v3 v4 v5 : Value} (h : Pag w b v0 v1 v2 v3 v4 v5) (x : Value) : Pag (w.setCell ⟨b, 5, none⟩ x) b v0 v1 v2 v3 v4 x := by
  have oth : ∀ (j : Nat) (y : Value), 5 ≠ j → w.cell? ⟨b, j, none⟩ = some y → (w.setCell ⟨b, 5, none⟩ x).cell? ⟨b, j, none⟩ = some y := fun j y hij hx => (World.cell?_setCell_other _ _ _ _ (by intro e; injection e with _ e2; exact hij e2)).trans hx
  exact ⟨oth 0 _ (by omega) h.c0, oth 1 _ (by omega) h.c1, oth 2 _ (by omega) h.c2, oth 3 _ (by omega) h.c3, oth 4 _ (by omega) h.c4, World.cell?_setCell_same _ _ _ h.c5, by simpa using h.f0, by simpa using h.f1, by simpa using h.f2, by simpa using h.f3, by simpa using h.f4, by simpa using h.f5, by simpa using h.lt⟩
theorem Strs.one (w : World) (s : ByteArray) (hs : s.size ≤ 140737488355328) : Strs (w.alloc (.cells #[.string s] 9)) w.heap.size (some ⟨w.heap.size, 0, none⟩) [s] :=
  ⟨fun _ => ⟨0, rfl, fun j hj => by
    have : j = 0 := by simp at hj; omega
    subst this
    simp⟩, fun _ => by simp, by simp, fun t ht => by simp at ht; rw [ht]; exact hs⟩
/-- Three lists that lie one behind the other in block b, put together. -/
theorem cat3 (W : World) (b : Nat) (A0 A1 A2 : Option Addr) (C0 C1 C2 B0 B1 B2 n0 n1 n2 : Nat) (l0 l1 l2 : List ByteArray) (e0 : n0 = l0.length) (e1 : n1 = l1.length) (e2 : n2 = l2.length)
    (c0 : W.cell? ⟨b, 0, none⟩ = some (.slice A0 n0 C0)) (c1 : W.cell? ⟨b, 1, none⟩ = some (.slice A1 n1 C1)) (c2 : W.cell? ⟨b, 2, none⟩ = some (.slice A2 n2 C2))
    (h0 : Strs W B0 A0 l0) (h1 : Strs W B1 A1 l1) (h2 : Strs W B2 A2 l2) (f0 : Fit A0 n0 C0) (f1 : Fit A1 n1 C1) (f2 : Fit A2 n2 C2) (hb : b < W.heap.size) (hroom : n0 + n1 + n2 ≤ 8796093022208) :
    Calls Tryz.prog 164 #[.slice (some ⟨b, 0, none⟩) 3 3] W fun e w' => ∃ v, e = .returned v ∧ Ls w' W.heap.size v (l0 ++ l1 ++ l2) ∧ Only (fun _ => False) W w' := by
  subst e0
  subst e1
  subst e2
  have h := concat_any W b 3 3 (fun j => match j with | 0 => A0 | 1 => A1 | _ => A2) (fun j => match j with | 0 => C0 | 1 => C1 | _ => C2) (fun j => match j with | 0 => B0 | 1 => B1 | _ => B2) (fun j => match j with | 0 => l0 | 1 => l1 | _ => l2)
    (fun j hj => match j, hj with | 0, _ => c0 | 1, _ => c1 | 2, _ => c2) (fun j hj => match j, hj with | 0, _ => h0 | 1, _ => h1 | 2, _ => h2) (fun j hj => match j, hj with | 0, _ => f0 | 1, _ => f1 | 2, _ => f2) (by omega) hb (by simp [catTo]; omega)
  simpa [catTo] using h
theorem cat2 (W : World) (b : Nat) (A0 A1 : Option Addr) (C0 C1 B0 B1 n0 n1 : Nat) (l0 l1 : List ByteArray) (e0 : n0 = l0.length) (e1 : n1 = l1.length)
    (c0 : W.cell? ⟨b, 0, none⟩ = some (.slice A0 n0 C0)) (c1 : W.cell? ⟨b, 1, none⟩ = some (.slice A1 n1 C1))
    (h0 : Strs W B0 A0 l0) (h1 : Strs W B1 A1 l1) (f0 : Fit A0 n0 C0) (f1 : Fit A1 n1 C1) (hb : b < W.heap.size) (hroom : n0 + n1 ≤ 8796093022208) :
    Calls Tryz.prog 164 #[.slice (some ⟨b, 0, none⟩) 2 2] W fun e w' => ∃ v, e = .returned v ∧ Ls w' W.heap.size v (l0 ++ l1) ∧ Only (fun _ => False) W w' := by
  subst e0
  subst e1
  have h := concat_any W b 2 2 (fun j => match j with | 0 => A0 | _ => A1) (fun j => match j with | 0 => C0 | _ => C1) (fun j => match j with | 0 => B0 | _ => B1) (fun j => match j with | 0 => l0 | _ => l1)
    (fun j hj => match j, hj with | 0, _ => c0 | 1, _ => c1) (fun j hj => match j, hj with | 0, _ => h0 | 1, _ => h1) (fun j hj => match j, hj with | 0, _ => f0 | 1, _ => f1) (by omega) hb (by simp [catTo]; omega)
  simpa [catTo] using h
/-- The two boxes that With, Put and Out lay: the page, and the answer. -/
def boxes (w : World) (a k v r : Int) (h : ByteArray) (sl : Value) : World := (w.alloc (.cells #[.int .i64 a, .int .i64 k, .int .i64 v, .int .i64 r, .string h, sl] 30)).alloc (.cells #[.int .i64 0, .int .i64 0, .int .i64 0, .int .i64 0, .string ⟨#[]⟩, .slice none 0 0] 30)
theorem boxes_only (w : World) (a k v r : Int) (h : ByteArray) (sl : Value) : Only (fun _ => False) w (boxes w a k v r h sl) := o2 (onlyA _ _) (onlyA _ _)
theorem boxes_size (w : World) (a k v r : Int) (h : ByteArray) (sl : Value) : (boxes w a k v r h sl).heap.size = w.heap.size + 1 + 1 := by simp [boxes]
theorem boxes_one (w : World) (a k v r : Int) (h : ByteArray) (sl : Value) : Pag (boxes w a k v r h sl) w.heap.size (.int .i64 a) (.int .i64 k) (.int .i64 v) (.int .i64 r) (.string h) sl := (Pag.new w _ _ _ _ _ _).more (onlyA _ _)
theorem boxes_two (w : World) (a k v r : Int) (h : ByteArray) (sl : Value) : Pag (boxes w a k v r h sl) (w.heap.size + 1) (.int .i64 0) (.int .i64 0) (.int .i64 0) (.int .i64 0) (.string ⟨#[]⟩) (.slice none 0 0) := by
  have h1 := Pag.new (w.alloc (.cells #[.int .i64 a, .int .i64 k, .int .i64 v, .int .i64 r, .string h, sl] 30)) (.int .i64 0) (.int .i64 0) (.int .i64 0) (.int .i64 0) (.string ⟨#[]⟩) (.slice none 0 0)
  have e : (w.alloc (.cells #[.int .i64 a, .int .i64 k, .int .i64 v, .int .i64 r, .string h, sl] 30)).heap.size = w.heap.size + 1 := by simp
  rw [e] at h1
  exact h1
/-- Behind the laying of a new list: the two boxes, and the list nl, new. -/
structure Aft (w w5 : World) (a k v r : Int) (h : ByteArray) (sl : Value) (B5 : Nat) (ao5 : Option Addr) (cp5 : Nat) (nl : List ByteArray) : Prop where
  one : Pag w5 w.heap.size (.int .i64 a) (.int .i64 k) (.int .i64 v) (.int .i64 r) (.string h) sl
  two : Pag w5 (w.heap.size + 1) (.int .i64 0) (.int .i64 0) (.int .i64 0) (.int .i64 0) (.string ⟨#[]⟩) (.slice none 0 0)
  strs : Strs w5 B5 ao5 nl
  fit : Fit ao5 nl.length cp5
  only : Only (fun _ => False) w w5
  new : 0 < nl.length → w.heap.size + 1 < B5
theorem Aft.store {w w5 : World} {a k v r : Int} {h : ByteArray} {sl : Value} {B5 : Nat} {ao5 : Option Addr} {cp5 : Nat} {nl : List ByteArray} (H : Aft w w5 a k v r h sl B5 ao5 cp5 nl) (x : Value) : Aft w (w5.setCell ⟨w.heap.size, 5, none⟩ x) a k v r h x B5 ao5 cp5 nl := by
  have ho : Only (fun k => k = w.heap.size) w5 (w5.setCell ⟨w.heap.size, 5, none⟩ x) := Only.setCell w5 ⟨w.heap.size, 5, none⟩ x rfl
  exact ⟨H.one.set5 x, H.two.kept ho (by omega), H.strs.kept ho (fun h => by have := H.new h; omega), H.fit, H.only.trans ho (fun i hi e => by omega), H.new⟩
theorem Aft.more {w w5 w6 : World} {a k v r : Int} {h : ByteArray} {sl : Value} {B5 : Nat} {ao5 : Option Addr} {cp5 : Nat} {nl : List ByteArray} (H : Aft w w5 a k v r h sl B5 ao5 cp5 nl) (ho : Only (fun _ => False) w5 w6) : Aft w w6 a k v r h sl B5 ao5 cp5 nl :=
  ⟨H.one.more ho, H.two.more ho, H.strs.more ho, H.fit, o2 H.only ho, H.new⟩
theorem Aft.setItem {w w5 : World} {a k v r : Int} {h : ByteArray} {sl : Value} {g cap base : Nat} {l : List ByteArray} (H : Aft w w5 a k v r h sl g (some ⟨g, 0, none⟩) cap l) (hL : Ls w5 base (.slice (some ⟨g, 0, none⟩) l.length cap) l) (i : Nat) (it : ByteArray) (hit : it.size ≤ 140737488355328) (h0 : 0 < l.length) :
    Aft w (w5.setCell ⟨g, i, none⟩ (.string it)) a k v r h sl g (some ⟨g, 0, none⟩) cap (l.set i it) := by
  have hs := (World.ownsRow.stored hL i (.string it)).1
  have e : (scells l).set i (.string it) = scells (l.set i it) := by unfold scells; rw [List.map_set]
  rw [e] at hs
  have hL2 : Ls (w5.setCell ⟨g, i, none⟩ (.string it)) base (.slice (some ⟨g, 0, none⟩) l.length cap) (l.set i it) := by unfold Ls; rw [List.length_set]; exact hs
  obtain ⟨B5, ao5, cp5, hv, hS5, hF5, hB5, hO5⟩ := hL2.strs (by rw [List.length_set]; exact H.strs.len) (fun s hs => by
    rcases List.mem_or_eq_of_mem_set hs with hs | rfl
    · exact H.strs.size s hs
    · exact hit)
  rcases hO5 with rfl | rfl
  · cases hv
  · simp at hv
    obtain ⟨rfl, rfl⟩ := hv
    have ho : Only (fun k => k = g) w5 (w5.setCell ⟨g, i, none⟩ (.string it)) := Only.setCell w5 ⟨g, i, none⟩ _ rfl
    have hn := H.new h0
    exact ⟨H.one.kept ho (by omega), H.two.kept ho (by omega), hS5, hF5, H.only.trans ho (fun i hi e => by omega), fun _ => hn⟩
/-- The answer is laid. -/
theorem Aft.res {w w5 : World} {a k v r : Int} {h : ByteArray} {sl : Value} {B5 : Nat} {ao5 : Option Addr} {cp5 : Nat} {nl : List ByteArray} (H : Aft w w5 a k v r h sl B5 ao5 cp5 nl) (v0 v1 v2 v3 v4 v5 : Value) (c : Int) (w6 : World)
    (hw : w6 = ((((((w5.setCell ⟨w.heap.size + 1, 0, none⟩ v0).setCell ⟨w.heap.size + 1, 1, none⟩ v1).setCell ⟨w.heap.size + 1, 2, none⟩ v2).setCell ⟨w.heap.size + 1, 3, none⟩ v3).setCell ⟨w.heap.size + 1, 4, none⟩ v4).setCell ⟨w.heap.size + 1, 5, none⟩ v5)) :
    Res w w6 (.returned (.tuple #[.agg #[.int .i64 a, .int .i64 k, .int .i64 v, .int .i64 r, .string h, .slice ao5 nl.length cp5], .int .i64 c])) ⟨a, k, v, r, h, nl⟩ c ∧ Only (fun _ => False) w w6 := by
  have ho := Only.six w5 (w.heap.size + 1) v0 v1 v2 v3 v4 v5
  rw [← hw] at ho
  have ho2 : Only (fun _ => False) w w6 := H.only.trans ho (fun i hi e => by omega)
  exact ⟨⟨B5, ao5, cp5, rfl, H.strs.kept ho (fun h => by have := H.new h; omega), H.fit, ho2, fun h => by have := H.new h; omega⟩, ho2⟩
theorem put_cat (w : World) (a k v r : Int) (h : ByteArray) (B b o cp : Nat) (l : List ByteArray) (i : Nat) (it : ByteArray) (hS : Strs w B (some ⟨b, o, none⟩) l) (hF : Fit (some ⟨b, o, none⟩) l.length cp) (hit : it.size ≤ 140737488355328) (hi : i ≤ l.length) (hlm : l.length ≤ 8796093021952) (A2 : Option Addr) (hA : i < l.length → A2 = some ⟨b, o + i, none⟩) (hA0 : A2 ≠ none) (W : World)
    (hW : Only (fun _ => False) (((boxes w a k v r h (.slice (some ⟨b, o, none⟩) l.length cp)).alloc (.cells #[.string it] 9)).alloc (.cells #[.slice (some ⟨b, o, none⟩) i cp, .slice (some ⟨w.heap.size + 1 + 1, 0, none⟩) 1 1, .slice A2 (l.length - i) (cp - i)] 28)) W) :
    Calls Tryz.prog 164 #[.slice (some ⟨w.heap.size + 1 + 1 + 1, 0, none⟩) 3 3] W fun e w' => ∃ B5 ao5 cp5, e = .returned (.slice ao5 (l.take i ++ it :: l.drop i).length cp5) ∧ w'.cell? ⟨w.heap.size, 5, none⟩ = some (.slice (some ⟨b, o, none⟩) l.length cp) ∧ w'.frozen? ⟨w.heap.size, 5, none⟩ = false ∧ Hid (Aft w w' a k v r h (.slice (some ⟨b, o, none⟩) l.length cp) B5 ao5 cp5 (l.take i ++ it :: l.drop i)) := by
  have hlen := hS.len
  have hB1 := boxes_one w a k v r h (.slice (some ⟨b, o, none⟩) l.length cp)
  have hB2 := boxes_two w a k v r h (.slice (some ⟨b, o, none⟩) l.length cp)
  have hcp := hF.le
  have hbig := hF.big
  obtain ⟨W0, hW0⟩ : ∃ W0, boxes w a k v r h (.slice (some ⟨b, o, none⟩) l.length cp) = W0 := ⟨_, rfl⟩
  have hz := boxes_size w a k v r h (.slice (some ⟨b, o, none⟩) l.length cp)
  have ho0 := boxes_only w a k v r h (.slice (some ⟨b, o, none⟩) l.length cp)
  rw [hW0] at hW hz ho0 hB1 hB2
  have hS0 := hS.more ho0
  have hS1 := Strs.one W0 it hit
  rw [hz] at hS1
  have hS2 := (hS0.more (o2 (onlyA _ _) (onlyA _ _))).more hW
  have hS3 := (hS1.more (onlyA _ _)).more hW
  have hlt : w.heap.size + 1 + 1 + 1 < ((W0.alloc (.cells #[.string it] 9)).alloc (.cells #[.slice (some ⟨b, o, none⟩) i cp, .slice (some ⟨w.heap.size + 1 + 1, 0, none⟩) 1 1, .slice A2 (l.length - i) (cp - i)] 28)).heap.size := by simp; omega
  have hz1 : (W0.alloc (.cells #[.string it] 9)).heap.size = w.heap.size + 1 + 1 + 1 := by simp; omega
  have hc : ∀ j (x : Value), #[Value.slice (some ⟨b, o, none⟩) i cp, .slice (some ⟨w.heap.size + 1 + 1, 0, none⟩) 1 1, .slice A2 (l.length - i) (cp - i)][j]? = some x → W.cell? ⟨w.heap.size + 1 + 1 + 1, j, none⟩ = some x := by
    intro j x hx
    rw [hW.cell (p := ⟨w.heap.size + 1 + 1 + 1, j, none⟩) hlt (fun h => h), ← hz1]
    simpa using hx
  have key := cat3 W (w.heap.size + 1 + 1 + 1) (some ⟨b, o, none⟩) (some ⟨w.heap.size + 1 + 1, 0, none⟩) A2 cp 1 (cp - i) B (w.heap.size + 1 + 1) B i 1 (l.length - i) (l.take i) [it] (l.drop i)
    (by simp; omega) rfl (by simp) (hc 0 _ rfl) (hc 1 _ rfl) (hc 2 _ rfl) (hS2.take i) hS3 (hS2.drop i _ hA)
    ⟨(fun h => by cases h), by omega, hbig⟩ ⟨(fun h => by cases h), by omega, (by unfold maxLen; omega)⟩ ⟨(fun h => absurd h hA0), by omega, by omega⟩ (Nat.lt_of_lt_of_le hlt hW.size) (by omega)
  have e3 : l.take i ++ [it] ++ l.drop i = l.take i ++ it :: l.drop i := by simp
  rw [e3] at key
  have hsz : ∀ s ∈ l.take i ++ it :: l.drop i, s.size ≤ 140737488355328 := by
    intro s hs
    rcases List.mem_append.1 hs with hs | hs
    · exact hS.size s (List.mem_of_mem_take hs)
    · rcases List.mem_cons.1 hs with rfl | hs
      · exact hit
      · exact hS.size s (List.mem_of_mem_drop hs)
  have hln : (l.take i ++ it :: l.drop i).length = l.length + 1 := by simp; omega
  refine Calls.mono key ?_
  rintro e w5 ⟨v5, rfl, hl5, ho5⟩
  obtain ⟨B5, ao5, cp5, rfl, hS5, hF5, hB5, _⟩ := hl5.strs (by omega) hsz
  have hoo := o2 (o2 (onlyA W0 (.cells #[.string it] 9)) (onlyA _ _)) (o2 hW ho5)
  have hP := hB1.more hoo
  have hWs := hW.size
  exact ⟨B5, ao5, cp5, rfl, hP.c5, hP.f5, ⟨hP, hB2.more hoo, hS5, hF5, o2 ho0 hoo, fun h => by have := hB5 h; omega⟩⟩
theorem only_below {w w' : World} (hb : Below w.heap.size w w') : Only (fun _ => False) w w' := ⟨hb.os, hb.tape, hb.output, hb.size, fun k hk _ => hb.block k hk⟩
theorem rep_zero (c : Nat) : Lib.repeatL (⟨#[0]⟩ : ByteArray).data.toList c = List.replicate c 0 := by
  induction c with
  | zero => rfl
  | succ c ih => rw [Lib.repeatL, ih, List.replicate_succ]; rfl
end Go.Proofs.YtpnbhddmdfcjdaaGreat
namespace Go.Proofs.YtpnbhddmdfcjdaaGreat
open Go.RowKit
/-- Entries as cells. -/
def ecs (es : List En) : List Value := es.flatMap fun e => [.string e.key, .int .i64 e.page, .int .i64 e.slot]
theorem ecs_len (es : List En) : (ecs es).length = es.length * 3 := by
  induction es with
  | nil => rfl
  | cons e es ih => simp only [ecs, List.flatMap_cons, List.length_append, List.length_cons, List.length_nil] at ih ⊢; omega
theorem ecs_app (es fs : List En) : ecs (es ++ fs) = ecs es ++ ecs fs := by simp [ecs]
theorem ecs_get (es : List En) (j : Nat) (h : j < es.length) : (ecs es)[j * 3]? = some (.string es[j].key) ∧ (ecs es)[j * 3 + 1]? = some (.int .i64 es[j].page) ∧ (ecs es)[j * 3 + 2]? = some (.int .i64 es[j].slot) := by
  induction es generalizing j with
  | nil => simp at h
  | cons e es ih =>
    have hc : ecs (e :: es) = [.string e.key, .int .i64 e.page, .int .i64 e.slot] ++ ecs es := rfl
    rw [hc]
    cases j with
    | zero => exact ⟨rfl, rfl, rfl⟩
    | succ j =>
      obtain ⟨a, b, c⟩ := ih j (by simpa using h)
      refine ⟨?_, ?_, ?_⟩
      · rw [List.getElem?_append_right (by simp; omega)]
        simpa [show (j + 1) * 3 - 3 = j * 3 by omega] using a
      · rw [List.getElem?_append_right (by simp; omega)]
        simpa [show (j + 1) * 3 + 1 - 3 = j * 3 + 1 by omega] using b
      · rw [List.getElem?_append_right (by simp; omega)]
        simpa [show (j + 1) * 3 + 2 - 3 = j * 3 + 2 by omega] using c
theorem ecs_one (es : List En) : ∀ u ∈ ecs es, u.oneCell' = true := by
  intro u hu
  simp only [ecs, List.mem_flatMap] at hu
  obtain ⟨e, _, hu⟩ := hu
  simp only [List.mem_cons, List.not_mem_nil, or_false] at hu
  rcases hu with rfl | rfl | rfl <;> rfl
/-- Entries that can be read: in block B from the slice's place on. -/
structure Els (w : World) (B : Nat) (ao : Option Addr) (es : List En) : Prop where
  at_ : 0 < es.length → ∃ o, ao = some ⟨B, o, none⟩ ∧ ∀ j (h : j < es.length), Eb w B (o + j * 3) es[j]
theorem Els.kept {S : Nat → Prop} {w w' : World} {B : Nat} {ao : Option Addr} {es : List En} (h : Els w B ao es) (ho : Only S w w') (hS : 0 < es.length → ¬ S B) : Els w' B ao es :=
  ⟨fun h0 => by
    obtain ⟨o, e, hc⟩ := h.at_ h0
    exact ⟨o, e, fun j hj => (hc j hj).kept ho (hS h0)⟩⟩
theorem Els.more {w w' : World} {B : Nat} {ao : Option Addr} {es : List En} (h : Els w B ao es) (ho : Only (fun _ => False) w w') : Els w' B ao es := h.kept ho (fun _ h => h)
/-- Entries that the value v owns, in a block from base on. -/
def Ets (w : World) (base : Nat) (v : Value) (es : List En) : Prop := w.ownsRow base 74 3 v es.length (ecs es)
theorem Ets.kept {S : Nat → Prop} {w w' : World} {base : Nat} {v : Value} {es : List En} (h : Ets w base v es) (ho : Only S w w') (hS : ∀ k, v.ownBlock = some k → ¬ S k) : Ets w' base v es := by
  obtain ⟨h1, h2⟩ := h
  refine ⟨h1, ?_⟩
  rcases h2 with h2 | ⟨g, cap, cur, hv, hg, hh, r⟩
  · exact .inl h2
  · subst hv
    exact .inr ⟨g, cap, cur, rfl, hg, by rw [ho.block g (Array.getElem?_eq_some_iff.1 hh).1 (hS g rfl)]; exact hh, r⟩
theorem Ets.more {w w' : World} {base : Nat} {v : Value} {es : List En} (h : Ets w base v es) (ho : Only (fun _ => False) w w') : Ets w' base v es := h.kept ho (fun _ _ h => h)
theorem Ets.els {w : World} {base : Nat} {v : Value} {es : List En} (h : Ets w base v es) : ∃ B ao cp, v = .slice ao es.length cp ∧ Els w B ao es ∧ (0 < es.length → base ≤ B) ∧ (∀ k, v.ownBlock = some k → base ≤ k ∧ k < w.heap.size) := by
  have h' := h
  have hlt : ∀ k, v.ownBlock = some k → base ≤ k ∧ k < w.heap.size := fun k hk => World.ownsRow.lt h' k hk
  rcases h.2 with ⟨rfl, h0⟩ | ⟨g, cap, cur, rfl, hb, hh, _⟩
  · exact ⟨0, none, 0, by rw [h0], ⟨fun hp => by omega⟩, fun hp => by omega, hlt⟩
  · refine ⟨g, _, cap, rfl, ⟨fun _ => ⟨0, rfl, fun j hj => ?_⟩⟩, fun _ => hb, hlt⟩
    obtain ⟨a, b, c⟩ := ecs_get es j hj
    have hl := ecs_len es
    refine ⟨?_, ?_, ?_, (Array.getElem?_eq_some_iff.1 hh).1⟩
    · rw [Nat.zero_add, World.ownsRow.cellAt h' _ (by omega)]; exact a
    · rw [Nat.zero_add, World.ownsRow.cellAt h' _ (by omega)]; exact b
    · rw [Nat.zero_add, World.ownsRow.cellAt h' _ (by omega)]; exact c
theorem Tryz.infoEn : (Tryz.prog.info? 74).map (fun i => (i.zero, i.size, i.bytes)) = some (some (.agg #[.string ⟨#[]⟩, .int .i64 0, .int .i64 0]), 3, 32) := by kernel_rfl
/-- Numbers that the value v owns. -/
def ncs (ks : List Int) : List Value := ks.map fun k => Value.int .i64 k
theorem ncs_len (ks : List Int) : (ncs ks).length = ks.length := by simp [ncs]
def Kts (w : World) (base : Nat) (v : Value) (ks : List Int) : Prop := w.ownsRow base 3 1 v ks.length (ncs ks)
theorem Kts.nil (w : World) (base : Nat) : Kts w base (.slice none 0 0) [] := World.ownsRow_nil _ _ _ _
theorem Kts.kept {S : Nat → Prop} {w w' : World} {base : Nat} {v : Value} {es : List Int} (h : Kts w base v es) (ho : Only S w w') (hS : ∀ k, v.ownBlock = some k → ¬ S k) : Kts w' base v es := by
  obtain ⟨h1, h2⟩ := h
  refine ⟨h1, ?_⟩
  rcases h2 with h2 | ⟨g, cap, cur, hv, hg, hh, r⟩
  · exact .inl h2
  · subst hv
    exact .inr ⟨g, cap, cur, rfl, hg, by rw [ho.block g (Array.getElem?_eq_some_iff.1 hh).1 (hS g rfl)]; exact hh, r⟩
theorem Kts.more {w w' : World} {base : Nat} {v : Value} {es : List Int} (h : Kts w base v es) (ho : Only (fun _ => False) w w') : Kts w' base v es := h.kept ho (fun _ _ h => h)
theorem Tryz.infoIn : (Tryz.prog.info? 3).map (fun i => (i.zero, i.size, i.bytes)) = some (some (.int .i64 0), 1, 8) := by kernel_rfl
theorem out_cat (w : World) (a k v r : Int) (h : ByteArray) (B b o cp : Nat) (l : List ByteArray) (i : Nat) (hS : Strs w B (some ⟨b, o, none⟩) l) (hF : Fit (some ⟨b, o, none⟩) l.length cp) (hi : i < l.length) (A2 : Option Addr) (hA : i + 1 < l.length → A2 = some ⟨b, o + (i + 1), none⟩) (hA0 : A2 ≠ none) (W1 : World) (h1 : Only (fun _ => False) (boxes w a k v r h (.slice (some ⟨b, o, none⟩) l.length cp)) W1) (W : World)
    (hW : Only (fun _ => False) (W1.alloc (.cells #[.slice (some ⟨b, o, none⟩) i cp, .slice A2 (l.length - (i + 1)) (cp - (i + 1))] 28)) W) :
    Calls Tryz.prog 164 #[.slice (some ⟨W1.heap.size, 0, none⟩) 2 2] W fun e w' => ∃ B5 ao5 cp5, e = .returned (.slice ao5 (l.take i ++ l.drop (i + 1)).length cp5) ∧ w'.cell? ⟨w.heap.size, 5, none⟩ = some (.slice (some ⟨b, o, none⟩) l.length cp) ∧ w'.frozen? ⟨w.heap.size, 5, none⟩ = false ∧ Hid (Aft w w' a k v r h (.slice (some ⟨b, o, none⟩) l.length cp) B5 ao5 cp5 (l.take i ++ l.drop (i + 1))) := by
  have hlen := hS.len
  have hB1 := (boxes_one w a k v r h (.slice (some ⟨b, o, none⟩) l.length cp)).more h1
  have hB2 := (boxes_two w a k v r h (.slice (some ⟨b, o, none⟩) l.length cp)).more h1
  have hcp := hF.le
  have hbig := hF.big
  have hz := boxes_size w a k v r h (.slice (some ⟨b, o, none⟩) l.length cp)
  have hz1 := h1.size
  have ho1 := o2 (boxes_only w a k v r h (.slice (some ⟨b, o, none⟩) l.length cp)) h1
  have hA1 := onlyA W1 (.cells #[.slice (some ⟨b, o, none⟩) i cp, .slice A2 (l.length - (i + 1)) (cp - (i + 1))] 28)
  have hS2 := ((hS.more ho1).more hA1).more hW
  have hlt : W1.heap.size < (W1.alloc (.cells #[.slice (some ⟨b, o, none⟩) i cp, .slice A2 (l.length - (i + 1)) (cp - (i + 1))] 28)).heap.size := by simp
  have hc : ∀ j (x : Value), #[Value.slice (some ⟨b, o, none⟩) i cp, .slice A2 (l.length - (i + 1)) (cp - (i + 1))][j]? = some x → W.cell? ⟨W1.heap.size, j, none⟩ = some x := by
    intro j x hx
    rw [hW.cell (p := ⟨W1.heap.size, j, none⟩) hlt (fun h => h)]
    simpa using hx
  have key := cat2 W W1.heap.size (some ⟨b, o, none⟩) A2 cp (cp - (i + 1)) B B i (l.length - (i + 1)) (l.take i) (l.drop (i + 1))
    (by simp; omega) (by simp) (hc 0 _ rfl) (hc 1 _ rfl) (hS2.take i) (hS2.drop (i + 1) _ hA)
    ⟨(fun h => by cases h), by omega, hbig⟩ ⟨(fun h => absurd h hA0), by omega, by omega⟩ (Nat.lt_of_lt_of_le hlt hW.size) (by omega)
  have hsz : ∀ s ∈ l.take i ++ l.drop (i + 1), s.size ≤ 140737488355328 := by
    intro s hs
    rcases List.mem_append.1 hs with hs | hs
    · exact hS.size s (List.mem_of_mem_take hs)
    · exact hS.size s (List.mem_of_mem_drop hs)
  have hln : (l.take i ++ l.drop (i + 1)).length ≤ l.length := by simp; omega
  refine Calls.mono key ?_
  rintro e w5 ⟨v5, rfl, hl5, ho5⟩
  obtain ⟨B5, ao5, cp5, rfl, hS5, hF5, hB5, _⟩ := hl5.strs (by omega) hsz
  have hoo := o2 hA1 (o2 hW ho5)
  have hP := hB1.more hoo
  have hWs := hW.size
  exact ⟨B5, ao5, cp5, rfl, hP.c5, hP.f5, ⟨hP, hB2.more hoo, hS5, hF5, o2 ho1 hoo, fun h => by have := hB5 h; omega⟩⟩
set_option maxRecDepth 100000 in
set_option maxHeartbeats 1600000 in
theorem out_some (w : World) (a k v r : Int) (h : ByteArray) (B b o cp : Nat) (l : List ByteArray) (i : Nat) (hS : Strs w B (some ⟨b, o, none⟩) l) (hF : Fit (some ⟨b, o, none⟩) l.length cp) (hi : i < l.length) :
    Calls Tryz.prog 177 #[.agg #[.int .i64 a, .int .i64 k, .int .i64 v, .int .i64 r, .string h, .slice (some ⟨b, o, none⟩) l.length cp], .int .i64 (i : Int)] w fun e w' =>
      Res w w' e ⟨a, k, v, r, h, l.take i ++ l.drop (i + 1)⟩ 0 := by
  have hcp := hF.le
  have hbig := hF.big
  have hlen := hS.len
  unfold maxLen at hbig
  obtain ⟨m, hm⟩ : ∃ m, i + 1 = m := ⟨_, rfl⟩
  obtain ⟨A2, hA2⟩ : ∃ A2, (if cp = m then some (⟨b, o, none⟩ : Addr) else some ⟨b, o + m, none⟩) = A2 := ⟨_, rfl⟩
  have HCAT := hide (out_cat w a k v r h B b o cp l i hS hF hi A2 (fun hk => by rw [← hA2, hm, if_neg (by omega)]) (by rw [← hA2]; split <;> simp))
  have HB0 := hide (boxes_one w a k v r h (.slice (some ⟨b, o, none⟩) l.length cp))
  clear hS hF
  obtain ⟨nl, hnl⟩ : ∃ nl, l.take i ++ l.drop (i + 1) = nl := ⟨_, rfl⟩
  rw [hnl] at HCAT ⊢
  rw [hm] at HCAT
  clear hnl
  have hi0 : (0 : Int) ≤ (i : Int) := by omega
  have hi1 : (i : Int) < (l.length : Int) := by omega
  have hi2 : (0 : Int) ≤ (m : Int) := by omega
  have hi3 : (m : Int) ≤ (l.length : Int) := by omega
  have hi4 : (m : Int) ≤ (cp : Int) := by omega
  have hi5 : (i : Int) + 1 = (m : Int) := by omega
  have hi8 : IntKind.i64.wrap (m : Int) = (m : Int) := wraps_i64 _ (by omega) (by omega)
  have hi6 : (i : Int) ≤ (cp : Int) := by omega
  have hi7 : (l.length : Int) ≤ (cp : Int) := by omega
  clear hm
  go_enter Tryz.func177, Tryz.ntmps177
  go_wp2_with fail
  refine (hasItem_any (boxes w a k v r h (.slice (some ⟨b, o, none⟩) l.length cp)) a k v r (i : Int) h cp l.length (some ⟨b, o, none⟩)).mono ?_
  rw [show decide ((0 : Int) ≤ (i : Int) ∧ (i : Int) < (l.length : Int)) = true from by simp; omega]
  rintro e w1 ⟨rfl, ho1⟩
  have HCAT1 := hide (HCAT.out w1 ho1)
  obtain ⟨p0, p1, p2, p3, p4, p5, g0, g1, g2, g3, g4, g5, gl⟩ := HB0.out.more ho1
  have HO1 := hide ho1
  clear ho1 p0 p1 p2 p3 p4 g0 g1 g2 g3 g4
  go_upto_region 3 with fail
  go_cut [21] (fun t wc => ∃ B5 ao5 cp5, t = .slice ao5 nl.length cp5 ∧ Hid (Aft w wc a k v r h (.slice ao5 nl.length cp5) B5 ao5 cp5 nl))
  case first =>
    go_region_with (
      go_at_call 164
      refine (HCAT1.out _ (Only.drew _ _)).mono ?_
      rintro e w5 ⟨B5, ao5, cp5, rfl, p5, g5, HA⟩)
    all_goals (go_wp2_with fail; go_meet; exact ⟨B5, ao5, cp5, rfl, hide (HA.out.store _)⟩)
  case rest =>
    obtain ⟨B5, ao5, cp5, rfl, HA⟩ := hcut
    obtain ⟨p0, p1, p2, p3, p4, p5, g0, g1, g2, g3, g4, g5, gl⟩ := HA.out.one
    obtain ⟨q0, q1, q2, q3, q4, q5, t0, t1, t2, t3, t4, t5, tl⟩ := HA.out.two
    have HQ6 := hide HA.out.two
    go_wp2_with fail
    refine bodyPost_ret (results_page rfl rfl (Pag.six HQ6.out _ _ _ _ _ _)) rfl ?_
    exact (HA.out.res _ _ _ _ _ _ 0 _ rfl).1
end Go.Proofs.YtpnbhddmdfcjdaaGreat
