/- Pages that came in, opened. -/
import Derived.Test.YtphofhicehncgaaGreatK03
import Derived.Test.YtphofhicehncgaaGreatPShelf
import Derived.Deep.Draws
import Derived.Maps.AppendAt
import Derived.Laws.OwnMore
import Derived.Lib.AppendZeros
import Derived.ProofKit
import Derived.OpenShut
import Derived.ShutString
import Derived.SizedLaws
import Derived.Deep.Strs
namespace Go.Proofs.YtphofhicehncgaaGreat
open Go.RowKit

theorem onlyN (w : World) (n : Nat) : Only (fun _ => False) w (w.drewN n) := ⟨rfl, rfl, rfl, Nat.le_refl _, fun _ _ _ => rfl⟩
theorem getD_of {l : List ByteArray} {j : Nat} (h : j < l.length) : l.getD j ByteArray.empty = l[j] := by simp [List.getD_eq_getElem?_getD, h]
theorem ba_toList {s t : ByteArray} (h : s.toList = t.toList) : s = t := by
  rw [ByteArray.toList_eq, ByteArray.toList_eq] at h
  obtain ⟨⟨l⟩⟩ := s
  obtain ⟨⟨m⟩⟩ := t
  simp at h
  rw [h]
set_option maxRecDepth 100000 in
set_option maxHeartbeats 800000 in
theorem hasItem_any (w : World) (a k v r i : Int) (h : ByteArray) (cp n : Nat) (ao : Option Addr) :
    Calls Tryz.prog 69 #[.agg #[.int .i64 a, .int .i64 k, .int .i64 v, .int .i64 r, .string h, .slice ao n cp], .int .i64 i] w fun e w' => e = .returned (.bool (decide (0 ≤ i ∧ i < n))) ∧ Only (fun _ => False) w w' := by
  have HO := hide (onlyA w (.cells #[.int .i64 a, .int .i64 k, .int .i64 v, .int .i64 r, .string h, .slice ao n cp] 25))
  go_enter Tryz.func69, Tryz.ntmps69
  go_wp2_with fail
  all_goals go_ret
  all_goals exact ⟨ret_bool (by rw [Bool.eq_iff_iff]; first | (simp; done) | (simp; omega)), HO.out⟩
set_option maxRecDepth 100000 in
set_option maxHeartbeats 1600000 in
theorem ysame_any (w : World) (a k v r a' k' v' r' : Int) (h h' : ByteArray) (B B' cp cp' : Nat) (ao ao' : Option Addr) (l l' : List ByteArray) (hS : Strs w B ao l) (hS' : Strs w B' ao' l') :
    Calls Tryz.prog 6 #[.agg #[.int .i64 a, .int .i64 k, .int .i64 v, .int .i64 r, .string h, .slice ao l.length cp], .agg #[.int .i64 a', .int .i64 k', .int .i64 v', .int .i64 r', .string h', .slice ao' l'.length cp']] w fun e w' =>
      e = .returned (.bool (decide (a = a' ∧ k = k' ∧ v = v' ∧ r = r' ∧ h = h' ∧ l = l'))) ∧ Only (fun _ => False) w w' := by
  have HO := hide (o2 (onlyA w (.cells #[.int .i64 a, .int .i64 k, .int .i64 v, .int .i64 r, .string h, .slice ao l.length cp] 25)) (onlyA _ (.cells #[.int .i64 a', .int .i64 k', .int .i64 v', .int .i64 r', .string h', .slice ao' l'.length cp'] 25)))
  have HP := hide ((Pag.new w (.int .i64 a) (.int .i64 k) (.int .i64 v) (.int .i64 r) (.string h) (.slice ao l.length cp)).more (onlyA _ (.cells #[.int .i64 a', .int .i64 k', .int .i64 v', .int .i64 r', .string h', .slice ao' l'.length cp'] 25)))
  have HQ := hide (Pag.new (w.alloc (.cells #[.int .i64 a, .int .i64 k, .int .i64 v, .int .i64 r, .string h, .slice ao l.length cp] 25)) (.int .i64 a') (.int .i64 k') (.int .i64 v') (.int .i64 r') (.string h') (.slice ao' l'.length cp'))
  have hl1 := hS.len
  have hl2 := hS'.len
  have HS := hide hS
  have HS' := hide hS'
  clear hS hS'
  by_cases hE : a = a' ∧ k = k' ∧ v = v' ∧ r = r' ∧ h = h' ∧ l.length = l'.length
  · obtain ⟨rfl, rfl, rfl, rfl, rfl, hn⟩ := hE
    rw [← hn] at HO HP HQ ⊢
    have HNN := hide hn
    clear hl2
    have hl2 : l'.length = l.length := hn.symm
    clear hn
    have HL2 := hide hl2
    clear hl2
    go_enter Tryz.func6, Tryz.ntmps6
    go_wp2_with fail
    go_loopw [5] (fun y wr => ∃ (j : Nat), j ≤ l.length ∧ y = .int .i64 (j : Int) ∧ Hid (∀ i (h : i < l.length) (h' : i < l'.length), i < j → l[i] = l'[i]) ∧ Hid (Only (fun _ => False) ((w.alloc (.cells #[.int .i64 a, .int .i64 k, .int .i64 v, .int .i64 r, .string h, .slice ao l.length cp] 25)).alloc (.cells #[.int .i64 a, .int .i64 k, .int .i64 v, .int .i64 r, .string h, .slice ao' l.length cp'] 25)) wr)) (fun y _ => l.length - (intOf y).toNat)
    case atStart => exact ⟨0, by omega, rfl, hide (fun i _ _ h => by omega), hide (Only.refl _ _)⟩
    case round =>
      obtain ⟨j, hj, rfl, HE, HW⟩ := hrel
      obtain ⟨p0, p1, p2, p3, p4, p5, g0, g1, g2, g3, g4, g5, gl⟩ := HP.out.more HW.out
      obtain ⟨q0, q1, q2, q3, q4, q5, t0, t1, t2, t3, t4, t5, tl⟩ := HQ.out.more HW.out
      have hsz : (w.alloc (.cells #[.int .i64 a, .int .i64 k, .int .i64 v, .int .i64 r, .string h, .slice ao l.length cp] 25)).heap.size = w.heap.size + 1 := by simp
      rw [hsz] at q0 q1 q2 q3 q4 q5 t0 t1 t2 t3 t4 t5 tl
      clear hsz g0 g1 g2 g3 g4 g5 t0 t1 t2 t3 t4 t5 p0 p1 p2 p3 p4 q0 q1 q2 q3 q4
      by_cases hlt : j < l.length
      · obtain ⟨o1, e1, c1⟩ := (HS.out.more (o2 HO.out HW.out)).at_ (by omega)
        obtain ⟨o2', e2, c2⟩ := (HS'.out.more (o2 HO.out HW.out)).at_ (by have := HNN.out; omega)
        have k1 := c1 j hlt
        have hjl : j < l'.length := by have := HNN.out; omega
        have k2 := c2 j hjl
        have hj1 : (j : Int) < (l.length : Int) := by omega
        obtain ⟨s, hs⟩ : ∃ s, l[j] = s := ⟨_, rfl⟩
        obtain ⟨s', hs'⟩ : ∃ s', l'[j] = s' := ⟨_, rfl⟩
        rw [hs] at k1
        rw [hs'] at k2
        have HSS := hide hs
        have HSS' := hide hs'
        clear c1 c2 hs hs'
        subst e1
        subst e2
        by_cases hss : s = s'
        · subst hss
          go_wp2_with fail
          go_region
          go_wp2_with fail
          go_roundw
          case rel =>
            refine ⟨j + 1, by omega, by go_num, hide (fun i h1 h2 h3 => ?_), hide (HW.out.trans (Only.drew _ _) (fun _ _ h => h))⟩
            by_cases e : i = j
            · subst e; rw [HSS.out, HSS'.out]
            · exact HE.out i h1 h2 (by omega)
          case measure => simp [intOf]; omega
        · have hss' : ¬ s.toList = s'.toList := fun e => hss (ba_toList e)
          have HNE : Hid (l ≠ l') := fun e => hss (by rw [← HSS.out, ← HSS'.out]; simp [e])
          go_wp2_with fail
          go_region
          go_wp2_with fail
          · go_ret
            exact ⟨ret_bool (by simp [HNE.out]), o2 HO.out (HW.out.trans (Only.drew _ _) (fun _ _ h => h))⟩
          · have hx : (!s.toList == s'.toList) = false := ‹_›
            exact absurd (by simpa using hx) hss'
      · have HEQ : Hid (l = l') := List.ext_getElem HNN.out (fun i h1 h2 => HE.out i h1 h2 (by omega))
        go_wp2_with fail
        go_ret
        exact ⟨ret_bool (by simp [HEQ.out]), o2 HO.out HW.out⟩
  · have hE' : ¬ (a = a' ∧ k = k' ∧ v = v' ∧ r = r' ∧ h.toList = h'.toList ∧ (l.length : Int) = (l'.length : Int)) := by
      rintro ⟨h1, h2, h3, h4, h5, h6⟩
      exact hE ⟨h1, h2, h3, h4, ba_toList h5, by omega⟩
    have HN := hide hE
    have HN' := hide hE'
    clear hE hE'
    go_enter Tryz.func6, Tryz.ntmps6
    go_wp2_with fail
    all_goals first
      | exact absurd ⟨‹_›, ‹_›, ‹_›, ‹_›, ‹_›, by have hx : ((l.length : Int) != (l'.length : Int)) = false := ‹_›; simpa using hx⟩ HN'.out
      | (go_ret
         refine ⟨ret_bool ?_, o2 (onlyA _ _) (onlyA _ _)⟩
         exact (decide_eq_false (fun hh => HN.out ⟨hh.1, hh.2.1, hh.2.2.1, hh.2.2.2.1, hh.2.2.2.2.1, by rw [hh.2.2.2.2.2]⟩)).symm)
end Go.Proofs.YtphofhicehncgaaGreat

namespace Go.Proofs.YtphofhicehncgaaGreat
open Go.RowKit

theorem add_at (b o n : Nat) : (⟨b, o, none⟩ : Addr).add n = ⟨b, o + n, none⟩ := by
  unfold Addr.add
  split
  · rename_i h; rw [h]; rfl
  · rfl
def scells (l : List ByteArray) : List Value := l.map Value.string
theorem scells_length (l : List ByteArray) : (scells l).length = l.length := by simp [scells]
theorem scells_append (l m : List ByteArray) : scells (l ++ m) = scells l ++ scells m := by simp [scells]
theorem scells_one (l : List ByteArray) : ∀ u ∈ scells l, u.oneCell' = true := by
  intro u hu
  obtain ⟨s, _, rfl⟩ := List.mem_map.1 hu
  rfl
/-- Texts that the value v owns, in a block from base on. -/
def Ls (w : World) (base : Nat) (v : Value) (l : List ByteArray) : Prop := w.ownsRow base 9 1 v l.length (scells l)
/-- A slice that is what Go lets it be. -/
structure Fit (ao : Option Addr) (n cp : Nat) : Prop where
  nil : ao = none → cp = 0
  le : n ≤ cp
  big : cp ≤ maxLen
theorem Ls.nil (w : World) (base : Nat) : Ls w base (.slice none 0 0) [] := World.ownsRow_nil _ _ _ _
theorem Ls.kept {S : Nat → Prop} {w w' : World} {base : Nat} {v : Value} {l : List ByteArray} (h : Ls w base v l) (ho : Only S w w') (hS : ∀ k, v.ownBlock = some k → ¬ S k) : Ls w' base v l := by
  obtain ⟨h1, h2⟩ := h
  refine ⟨h1, ?_⟩
  rcases h2 with h2 | ⟨g, cap, cur, hv, hg, hh, r⟩
  · exact .inl h2
  · subst hv
    exact .inr ⟨g, cap, cur, rfl, hg, by rw [ho.block g (Array.getElem?_eq_some_iff.1 hh).1 (hS g rfl)]; exact hh, r⟩
theorem Ls.more {w w' : World} {base : Nat} {v : Value} {l : List ByteArray} (h : Ls w base v l) (ho : Only (fun _ => False) w w') : Ls w' base v l := h.kept ho (fun _ _ h => h)
theorem Ls.strs {w : World} {base : Nat} {v : Value} {l : List ByteArray} (h : Ls w base v l) (hl : l.length ≤ 8796093022207) (hs : ∀ s ∈ l, s.size ≤ 140737488355328) :
    ∃ B ao cp, v = .slice ao l.length cp ∧ Strs w B ao l ∧ Fit ao l.length cp ∧ (0 < l.length → base ≤ B) ∧ (ao = none ∨ ao = some ⟨B, 0, none⟩) := by
  rcases h.2 with ⟨rfl, h0⟩ | ⟨g, cap, cur, rfl, hb, hg, hn, hm, _⟩
  · have e : l = [] := List.eq_nil_of_length_eq_zero h0
    subst e
    exact ⟨0, none, 0, rfl, Strs.nil _ _ _, ⟨fun _ => rfl, by simp, by simp⟩, fun h => absurd h (by simp), .inl rfl⟩
  · refine ⟨g, some ⟨g, 0, none⟩, cap, rfl, ⟨fun _ => ⟨0, rfl, fun j hj => ?_⟩, fun _ => (Array.getElem?_eq_some_iff.1 hg).1, hl, hs⟩, ⟨(fun h => by cases h), hn, hm⟩, fun _ => hb, .inr rfl⟩
    rw [Nat.zero_add, World.ownsRow.cellAt h j (by omega)]
    simp [scells, hj]
theorem Tryz.infoStr : (Tryz.prog.info? 9).map (fun i => (i.zero, i.size, i.bytes)) = some (some (.string ⟨#[]⟩), 1, 16) := by kernel_rfl
theorem Strs.none_nil {w : World} {B : Nat} {l : List ByteArray} (h : Strs w B none l) : l = [] := by
  cases l with
  | nil => rfl
  | cons s t =>
    obtain ⟨o, e, _⟩ := h.at_ (by simp)
    cases e
theorem append_strs (w : World) (ty : TypeId) (base : Nat) (v : Value) (l : List ByteArray) (h : Ls w base v l) (B cp : Nat) (ao : Option Addr) (m : List ByteArray) (hm : Strs w B ao m) (hf : Fit ao m.length cp) (hroom : l.length + m.length ≤ 8796093022208) (hbase : base ≤ w.heap.size) :
    ∃ v' w', (Builtin.append_ #[23, 23] ty #[v, .slice ao m.length cp]).run Tryz.prog w = .ok v' w' ∧ Ls w' base v' (l ++ m) ∧ Only (fun k => base ≤ k) w w' := by
  obtain ⟨i0, hi, hz0, hz1, hz2⟩ := info_parts Tryz.infoStr
  cases ao with
  | none =>
    have e := hm.none_nil
    subst e
    have hc := hf.nil rfl
    subst hc
    refine ⟨v, w, run_append_owned_none (P := Tryz.prog) w base 23 ty 9 i0 1 Tryz.underlying23 hi v l.length (scells l) h, by rw [List.append_nil]; exact h, Only.refl _ _⟩
  | some ad =>
    obtain ⟨v', w', hr, h2, h3, _, _⟩ := run_append_own_at (P := Tryz.prog) w base 23 ty 9 i0 (.string ⟨#[]⟩) 1 16 Tryz.underlying23 hi hz0 hz1 hz2 rfl (by decide) v l.length (scells l) h ad m.length cp (scells m) (by simp [scells])
      (fun j u hu => by
        have hj : j < m.length := by have := (List.getElem?_eq_some_iff.1 hu).1; simpa [scells] using this
        obtain ⟨o, e, hc⟩ := hm.at_ (by omega)
        cases e
        rw [add_at, hc j hj, ← hu]
        simp [scells, hj]) (scells_one m) (by unfold maxLen; omega) (by omega) hbase
    refine ⟨v', w', hr, ?_, Only.grown h3 (fun k hk => (World.ownsRow.lt h k hk).1)⟩
    have e : l.length + m.length = (l ++ m).length := by simp
    unfold Ls
    rw [scells_append, ← e]
    exact h2

set_option maxRecDepth 100000 in
set_option maxHeartbeats 800000 in
/-- Room for so many texts, in a new block. -/
theorem grow_any (w : World) (n : Nat) (hn : n ≤ 8796093022208) :
    Calls Tryz.prog 112 #[.slice none 0 0, .int .i64 (n : Int)] w fun e w' => ∃ v, e = .returned v ∧ Ls w' w.heap.size v [] ∧ Only (fun _ => False) w w' := by
  obtain ⟨i0, hi, hz0, hz1, hz2⟩ := info_parts Tryz.infoStr
  by_cases h0 : n = 0
  · subst h0
    go_enter Tryz.func112, Tryz.ntmps112
    go_wp2_with fail
    go_ret
    exact ⟨_, rfl, Ls.nil _ _, Only.refl _ _⟩
  · have hp : (0 : Int) < (n : Int) := by omega
    have hr := Lib.run_append_nil_zeros (P := Tryz.prog) w 23 3 23 9 i0 (.string ⟨#[]⟩) .i64 .i64 Tryz.underlying23 Tryz.underlying3 hi hz0 n (by omega) (by omega) (by omega) (by rw [hz2]; omega)
    have HR := hide hr
    clear hr
    go_enter Tryz.func112, Tryz.ntmps112
    go_wp2_with (at_builtin; go_must (refine Lib.wpList_append_run _ rfl _ _ _ _ rfl _ _ rfl rfl _ _ HR.out ?_))
    go_ret
    refine ⟨_, rfl, ⟨rfl, .inr ⟨w.heap.size, _, _, rfl, Nat.le_refl _, heap_alloc_new w.drew _, Nat.zero_le _, grownCap_le_maxLen w n 0 9 (by unfold maxLen; omega), ?_, rfl⟩⟩, (Only.drew _ w).trans (Only.alloc (fun _ => False) _ _) (fun _ _ h => h)⟩
    have hge := grownCap_ge w n 0 9
    simp only [Array.size_append, size_zeroCells]
    show n * 1 + (grownCap w n 0 9 - n) * 1 = grownCap w n 0 9 * 1
    omega

/-- The first so many lists, one behind the other. -/
def catTo (L : Nat → List ByteArray) : Nat → List ByteArray
  | 0 => []
  | k + 1 => catTo L k ++ L k
theorem catTo_le (L : Nat → List ByteArray) (k n : Nat) (h : k ≤ n) : (catTo L k).length ≤ (catTo L n).length := by
  induction n with
  | zero => have : k = 0 := by omega
            subst this; exact Nat.le_refl _
  | succ n ih =>
    by_cases e : k = n + 1
    · subst e; exact Nat.le_refl _
    · have := ih (by omega)
      simp only [catTo, List.length_append]
      omega
set_option maxRecDepth 100000 in
set_option maxHeartbeats 800000 in
theorem concat_any (w : World) (b n c : Nat) (A : Nat → Option Addr) (C B : Nat → Nat) (L : Nat → List ByteArray) (hc : ∀ j, j < n → w.cell? ⟨b, j, none⟩ = some (.slice (A j) (L j).length (C j)))
    (hL : ∀ j, j < n → Strs w (B j) (A j) (L j)) (hF : ∀ j, j < n → Fit (A j) (L j).length (C j)) (hn : n ≤ 3) (hb : b < w.heap.size) (hroom : (catTo L n).length ≤ 8796093022208) :
    Calls Tryz.prog 71 #[.slice (some ⟨b, 0, none⟩) n c] w fun e w' => ∃ v, e = .returned v ∧ Ls w' w.heap.size v (catTo L n) ∧ Only (fun _ => False) w w' := by
  have HC := hide hc
  have HL := hide hL
  have HF := hide hF
  have HR := hide hroom
  clear hc hL hF hroom
  have HM : Hid (∀ k, k ≤ n → (catTo L k).length ≤ 8796093022208) := fun k hk => Nat.le_trans (catTo_le L k n hk) HR.out
  go_enter Tryz.func71, Tryz.ntmps71
  go_wp2_with fail
  go_loop [3, 11] (fun x y => ∃ (j m : Nat), j ≤ n ∧ y = .int .i64 (j : Int) ∧ x = .int .i64 (m : Int) ∧ m ≤ 8796093022208 ∧ Hid (m = (catTo L j).length)) (fun _ y => n - (intOf y).toNat)
  case atStart => exact ⟨0, 0, by omega, rfl, rfl, by omega, hide rfl⟩
  case round =>
    obtain ⟨j, m, hj, rfl, rfl, hm, HQ⟩ := hrel
    by_cases hlt : j < n
    · have hcj := HC.out j hlt
      have hm2 := HM.out (j + 1) hlt
      have HT : Hid ((m : Int) + ((L j).length : Int) = (((catTo L (j + 1)).length : Nat) : Int)) := by
        unfold Hid
        simp only [catTo, List.length_append]
        have := HQ.out
        omega
      have hmb : (m : Int) + ((L j).length : Int) ≤ 8796093022208 := by have := HT.out; omega
      have hj1 : (j : Int) < (n : Int) := by omega
      obtain ⟨lj, hlj⟩ : ∃ lj, (L j).length = lj := ⟨_, rfl⟩
      rw [hlj] at hcj HT hmb
      clear hlj
      clear hm2
      go_wp2_with fail
      go_round
      case rel => exact ⟨j + 1, (catTo L (j + 1)).length, by omega, by go_num, by rw [HT.out], HM.out _ hlt, hide rfl⟩
      case measure => simp [intOf]; omega
    · have ej : j = n := by omega
      subst ej
      go_wp2_with fail
      refine (grow_any _ m hm).mono ?_
      rintro e w1 ⟨v1, rfl, hl1, ho1⟩
      have HL1 := hide hl1
      have HO1 := hide ho1
      clear hl1 ho1
      go_wp2_with fail
      go_loopw [6, 27] (fun x y wr => ∃ (i : Nat), i ≤ j ∧ y = .int .i64 (i : Int) ∧ Hid (Ls wr w.heap.size x (catTo L i)) ∧ Hid (Only (fun _ => False) w wr)) (fun _ y _ => j - (intOf y).toNat)
      case atStart => exact ⟨0, by omega, rfl, HL1, HO1⟩
      case round =>
        obtain ⟨i, hi, rfl, HX, HO⟩ := hrel
        by_cases hlt2 : i < j
        · have hcj := (HO.out.cell (p := ⟨b, i, none⟩) hb (fun h => h)).trans (HC.out i hlt2)
          obtain ⟨v2, w2, hr2, hl2, ho2⟩ := append_strs wr 23 w.heap.size _ _ HX.out (B i) (C i) (A i) (L i) ((HL.out i hlt2).more HO.out) (HF.out i hlt2) (by have := HM.out (i + 1) hlt2; simp only [catTo, List.length_append] at this; omega) HO.out.size
          have HR2 := hide hr2
          have HL2 : Hid (Ls w2 w.heap.size v2 (catTo L (i + 1))) := hl2
          have HO2 : Hid (Only (fun _ => False) w w2) := HO.out.trans ho2 (fun k hk e => by omega)
          clear hr2 hl2 ho2
          have hj1 : (i : Int) < (j : Int) := by omega
          go_wp2_with (at_builtin; go_must (refine Lib.wpList_append_run _ rfl _ _ _ _ rfl _ _ rfl rfl _ _ HR2.out ?_))
          go_roundw
          case rel => exact ⟨i + 1, by omega, by go_num, HL2, HO2⟩
          case measure => simp [intOf]; omega
        · have ei : i = j := by omega
          subst ei
          go_wp2_with fail
          go_ret
          exact ⟨_, rfl, HX.out, HO.out⟩
/-- A list's copy. -/
theorem clone_any (w : World) (B cp : Nat) (ao : Option Addr) (l : List ByteArray) (h : Strs w B ao l) :
    Calls Tryz.prog 14 #[.slice ao l.length cp] w fun e w' => ∃ v, e = .returned v ∧ Ls w' w.heap.size v l ∧ Only (fun _ => False) w w' := by
  have only : ∀ w', Below w.heap.size w w' → Only (fun _ => False) w w' := fun w' hb => ⟨hb.os, hb.tape, hb.output, hb.size, fun k hk _ => hb.block k hk⟩
  cases ao with
  | none =>
    have e := h.none_nil
    subst e
    refine (Tryz.slices_Clone_string_nil _ cp w).mono ?_
    rintro e w' ⟨rfl, rfl⟩
    exact ⟨_, rfl, Ls.nil _ _, Only.refl _ _⟩
  | some ad =>
    by_cases h0 : l.length = 0
    · have e : l = [] := List.eq_nil_of_length_eq_zero h0
      subst e
      refine (Tryz.slices_Clone_string_zero ad cp w).mono ?_
      rintro e w' ⟨v, rfl, ho, _, hb⟩
      exact ⟨v, rfl, ho, only _ hb⟩
    · obtain ⟨o, e, hc⟩ := h.at_ (by omega)
      cases e
      have hl := h.len
      refine (Tryz.slices_Clone_string B o l.length cp l w (Nat.le_refl _) (by omega) (fun j hj => by rw [hc j hj, getD_of hj])).mono ?_
      rintro e w' ⟨v, rfl, ho, _, hb⟩
      rw [List.take_of_length_le (Nat.le_refl _)] at ho
      exact ⟨v, rfl, ho, only _ hb⟩
end Go.Proofs.YtphofhicehncgaaGreat

namespace Go.Proofs.YtphofhicehncgaaGreat
open Go.ChangeShapes Go.WideShapes Go.ChangeAt Go.RowKit Go.Deep

theorem Tryz.laidOut : laidOutB Tryz.prog = true := by kernel_rfl
theorem Tryz.cellsInt : Tryz.prog.cellsOf 3 = 1 := by kernel_rfl
theorem Tryz.cellsStr : Tryz.prog.cellsOf 9 = 1 := by kernel_rfl
theorem Tryz.cellsStrs : Tryz.prog.cellsOf 23 = 1 := by kernel_rfl
theorem Tryz.bytesStr : Tryz.prog.bytesOf 9 = 16 := by kernel_rfl
theorem cell_spot {w : World} {a : Addr} {v : Value} (h : w.cell? a = some v) : a = ⟨a.block, a.off, none⟩ := by
  obtain ⟨b, o, s⟩ := a
  cases s with
  | none => rfl
  | some q =>
    unfold World.cell? at h
    split at h
    · simp at h
    · simp at h
theorem weightsAll_mem {H : Type} {P : Program} {e : TypeId} {d : DataW H} {l : List (DataW H)} {n : Nat} (hd : d ∈ l) (hn : n ∈ d.weights P e) : n ∈ DataW.weightsAll P e l := by
  induction l with
  | nil => cases hd
  | cons x t ih =>
    rw [DataW.weightsAll, List.mem_append]
    rcases List.mem_cons.1 hd with rfl | h
    · exact .inl hn
    · exact .inr (ih h)
/-- What a page that came in holds. -/
structure PgIn (W : World) (v : Value) (a k u r : Int) (h : ByteArray) (B : Nat) (ao : Option Addr) (cp : Nat) (l : List ByteArray) : Prop where
  val : v = .agg #[.int .i64 a, .int .i64 k, .int .i64 u, .int .i64 r, .string h, .slice ao l.length cp]
  a : -9223372036854775808 ≤ a ∧ a < 9223372036854775808
  k : -9223372036854775808 ≤ k ∧ k < 9223372036854775808
  u : -9223372036854775808 ≤ u ∧ u < 9223372036854775808
  r : -9223372036854775808 ≤ r ∧ r < 9223372036854775808
  high : h.size ≤ 140737488355328
  strs : Strs W B ao l
  fit : Fit ao l.length cp
  len : l.length ≤ 8796093021952
theorem strs_of_trod {H : Type} {enc : TypeId × Value → H} {W : World} {c : Value} {x : DataW H × List MemPlace} {n : Nat} (h : DataW.trod enc Tryz.prog W 0 (fun _ => true) true n 23 [c] = some x) (hw : ∀ m ∈ x.1.weights Tryz.prog 23, m ≤ reachBytes) :
    ∃ (B : Nat) (ao : Option Addr) (cp : Nat) (l : List ByteArray), c = .slice ao l.length cp ∧ Strs W B ao l ∧ Fit ao l.length cp ∧ l.length ≤ 8796093021952 := by
  rcases open_strs Tryz.underlying23 Tryz.underlying9 Tryz.cellsStr h with ⟨hcs, _⟩ | ⟨ad, len, cap, m, Sx, hcs, _, hl, hm, hmm, hx, hc⟩
  · simp at hcs
    subst hcs
    exact ⟨0, none, 0, [], rfl, Strs.nil _ _ _, ⟨fun _ => rfl, by simp, (by unfold maxLen; omega)⟩, by simp⟩
  · simp at hcs hmm
    subst hcs
    subst hmm
    rw [hx] at hw
    simp only [DataW.weights, Tryz.underlying23, Tryz.bytesStr] at hw
    have hwb := hw ((((List.range len).map fun i => DataW.lit (H := H) (.string (Sx i).data.toList)).length + ((List.range (m - len)).map fun j => DataW.lit (H := H) (.string (Sx (len + j)).data.toList)).length) * 16) (by simp)
    simp only [List.length_map, List.length_range] at hwb
    have hlen : ((List.range len).map Sx).length = len := by simp
    have hwr : reachBytes = 140737488351232 := by decide
    refine ⟨ad.block, some ad, m, (List.range len).map Sx, by rw [hlen], ⟨fun h0 => ?_, fun h0 => ?_, by rw [hlen]; omega, fun s hs => ?_⟩, ⟨(fun h => by cases h), (by rw [hlen]; exact hl), hm⟩, by rw [hlen]; omega⟩
    · rw [hlen] at h0
      have c0 := (hc 0 (by omega)).1
      have e0 : ad.add 0 = ad := by unfold Addr.add; split <;> simp_all
      rw [e0] at c0
      have ha := cell_spot c0
      refine ⟨ad.off, by rw [← ha], fun j hj => ?_⟩
      rw [hlen] at hj
      have cj := (hc j (by omega)).1
      rw [ha, add_at] at cj
      rw [cj]
      simp
    · rw [hlen] at h0
      have c0 := (hc 0 (by omega)).1
      have e0 : ad.add 0 = ad := by unfold Addr.add; split <;> simp_all
      rw [e0] at c0
      exact World.block_lt_of_cell? W _ c0
    · obtain ⟨i, hi, rfl⟩ := List.mem_map.1 hs
      have hmem : (DataW.lit (H := H) (.string (Sx i).data.toList)) ∈ (List.range len).map fun i => DataW.lit (H := H) (.string (Sx i).data.toList) := List.mem_map.2 ⟨i, hi, rfl⟩
      have := hw (Sx i).data.toList.length (by
        refine List.mem_cons_of_mem _ (List.mem_append.2 (.inl (weightsAll_mem hmem ?_)))
        simp [DataW.weights])
      rw [show (Sx i).data.toList.length = (Sx i).size from bl_len _] at this
      omega
set_option maxRecDepth 100000 in
theorem open_page {H : Type} {enc : TypeId × Value → H} {W : World} {base : Nat} {v : Value} {d : DataW H} {ps : List MemPlace} (hok : Value.okWide Tryz.prog W .any base 25 v) (h : DataW.Trod enc Tryz.prog W 0 (fun _ => true) true 25 v d ps)
    (hw : ∀ m ∈ d.weights Tryz.prog 25, m ≤ reachBytes) : ∃ a k u r h B ao cp l, PgIn W v a k u r h B ao cp l := by
  obtain ⟨cs, rfl, hs⟩ := okWide_struct Tryz.underlying25 hok
  obtain ⟨fuel, hf⟩ := h
  rw [Tryz.cellsPage] at hs
  obtain ⟨xs, n, _, hx, _, hlen, hfs⟩ := DataW.trod_struct Tryz.underlying25 hf
  obtain ⟨c0, c1, c2, c3, c4, c5, rfl⟩ : ∃ c0 c1 c2 c3 c4 c5, cs = #[c0, c1, c2, c3, c4, c5] := by
    obtain ⟨l⟩ := cs
    match l, hs with
    | [c0, c1, c2, c3, c4, c5], _ => exact ⟨c0, c1, c2, c3, c4, c5, rfl⟩
  match xs, hlen with
  | [y0, y1, y2, y3, y4, y5], _ =>
    simp only [Prod.mk.injEq] at hx
    have g0 := hfs 0 _ rfl
    have g1 := hfs 1 _ rfl
    have g2 := hfs 2 _ rfl
    have g3 := hfs 3 _ rfl
    have g4 := hfs 4 _ rfl
    have g5 := hfs 5 _ rfl
    simp [Value.cells, Tryz.cellsInt, Tryz.cellsStr, Tryz.cellsStrs] at g0 g1 g2 g3 g4 g5
    obtain ⟨a, e0, _, w0⟩ := DataW.trod_int Tryz.underlying3 g0
    obtain ⟨k, e1, _, w1⟩ := DataW.trod_int Tryz.underlying3 g1
    obtain ⟨u, e2, _, w2⟩ := DataW.trod_int Tryz.underlying3 g2
    obtain ⟨r, e3, _, w3⟩ := DataW.trod_int Tryz.underlying3 g3
    obtain ⟨h, e4, f4, _⟩ := DataW.trod_string Tryz.underlying9 g4
    simp at e0 e1 e2 e3 e4
    rw [hx.1] at hw
    simp only [DataW.weights, Tryz.underlying25] at hw
    have hw4 : ∀ m ∈ y4.1.weights Tryz.prog 9, m ≤ reachBytes := fun m hm => hw m (DataW.weights_mem_each (j := 4) (t := 9) (d := y4.1) rfl rfl m hm)
    have hw5 : ∀ m ∈ y5.1.weights Tryz.prog 23, m ≤ reachBytes := fun m hm => hw m (DataW.weights_mem_each (j := 5) (t := 23) (d := y5.1) rfl rfl m hm)
    obtain ⟨B, ao, cp, l, e5, hS, hF, hL⟩ := strs_of_trod g5 hw5
    have hwr : reachBytes = 140737488351232 := by decide
    have hh : h.size ≤ 140737488355328 := by
      rw [f4] at hw4
      have := hw4 h.data.toList.length (by simp [DataW.weights])
      rw [show h.data.toList.length = h.size from bl_len _] at this
      omega
    have b0 := bounds_i64 w0
    have b1 := bounds_i64 w1
    have b2 := bounds_i64 w2
    have b3 := bounds_i64 w3
    exact ⟨a, k, u, r, h, B, ao, cp, l, ⟨by rw [e0, e1, e2, e3, e4, e5], by omega, by omega, by omega, by omega, hh, hS, hF, hL⟩⟩
end Go.Proofs.YtphofhicehncgaaGreat
