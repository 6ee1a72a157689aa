/- What inRange, hasItem and the two Sames do. -/
import Derived.Test.YthhlmhghiknnkaaPMem
import Derived.Test.YthhlmhghiknnkaaPShelf
import Derived.Deep.Draws
namespace Go.Proofs.Ythhlmhghiknnkaa
open Go.RowKit

theorem onlyN (w : World) (n : Nat) : Only (fun _ => False) w (w.drewN n) := ⟨rfl, rfl, rfl, Nat.le_refl _, fun _ _ _ => rfl⟩
theorem getD_of {l : List ByteArray} {j : Nat} (h : j < l.length) : l.getD j ByteArray.empty = l[j] := by simp [List.getD_eq_getElem?_getD, h]
theorem ba_toList {s t : ByteArray} (h : s.toList = t.toList) : s = t := by
  rw [ByteArray.toList_eq, ByteArray.toList_eq] at h
  obtain ⟨⟨l⟩⟩ := s
  obtain ⟨⟨m⟩⟩ := t
  simp at h
  rw [h]
set_option maxRecDepth 100000 in
set_option maxHeartbeats 800000 in
theorem hasItem_any (w : World) (a k v r i : Int) (h : ByteArray) (cp n : Nat) (ao : Option Addr) :
    Calls Try.prog 77 #[.agg #[.int .i64 a, .int .i64 k, .int .i64 v, .int .i64 r, .string h, .slice ao n cp], .int .i64 i] w fun e w' => e = .returned (.bool (decide (0 ≤ i ∧ i < n))) ∧ Only (fun _ => False) w w' := by
  have HO := hide (onlyA w (.cells #[.int .i64 a, .int .i64 k, .int .i64 v, .int .i64 r, .string h, .slice ao n cp] 38))
  go_enter Try.func77, Try.ntmps77
  go_wp2_with fail
  all_goals go_ret
  all_goals exact ⟨ret_bool (by rw [Bool.eq_iff_iff]; first | (simp; done) | (simp; omega)), HO.out⟩
set_option maxRecDepth 100000 in
set_option maxHeartbeats 1600000 in
theorem ysame_any (w : World) (a k v r a' k' v' r' : Int) (h h' : ByteArray) (B B' cp cp' : Nat) (ao ao' : Option Addr) (l l' : List ByteArray) (hS : Strs w B ao l) (hS' : Strs w B' ao' l') :
    Calls Try.prog 24 #[.agg #[.int .i64 a, .int .i64 k, .int .i64 v, .int .i64 r, .string h, .slice ao l.length cp], .agg #[.int .i64 a', .int .i64 k', .int .i64 v', .int .i64 r', .string h', .slice ao' l'.length cp']] w fun e w' =>
      e = .returned (.bool (decide (a = a' ∧ k = k' ∧ v = v' ∧ r = r' ∧ h = h' ∧ l = l'))) ∧ Only (fun _ => False) w w' := by
  have HO := hide (o2 (onlyA w (.cells #[.int .i64 a, .int .i64 k, .int .i64 v, .int .i64 r, .string h, .slice ao l.length cp] 38)) (onlyA _ (.cells #[.int .i64 a', .int .i64 k', .int .i64 v', .int .i64 r', .string h', .slice ao' l'.length cp'] 38)))
  have HP := hide ((Pag.new w (.int .i64 a) (.int .i64 k) (.int .i64 v) (.int .i64 r) (.string h) (.slice ao l.length cp)).more (onlyA _ (.cells #[.int .i64 a', .int .i64 k', .int .i64 v', .int .i64 r', .string h', .slice ao' l'.length cp'] 38)))
  have HQ := hide (Pag.new (w.alloc (.cells #[.int .i64 a, .int .i64 k, .int .i64 v, .int .i64 r, .string h, .slice ao l.length cp] 38)) (.int .i64 a') (.int .i64 k') (.int .i64 v') (.int .i64 r') (.string h') (.slice ao' l'.length cp'))
  have hl1 := hS.len
  have hl2 := hS'.len
  have HS := hide hS
  have HS' := hide hS'
  clear hS hS'
  by_cases hE : a = a' ∧ k = k' ∧ v = v' ∧ r = r' ∧ h = h' ∧ l.length = l'.length
  · obtain ⟨rfl, rfl, rfl, rfl, rfl, hn⟩ := hE
    rw [← hn] at HO HP HQ ⊢
    have HNN := hide hn
    clear hl2
    have hl2 : l'.length = l.length := hn.symm
    clear hn
    have HL2 := hide hl2
    clear hl2
    go_enter Try.func24, Try.ntmps24
    go_wp2_with fail
    go_loopw [5] (fun y wr => ∃ (j : Nat), j ≤ l.length ∧ y = .int .i64 (j : Int) ∧ Hid (∀ i (h : i < l.length) (h' : i < l'.length), i < j → l[i] = l'[i]) ∧ Hid (Only (fun _ => False) ((w.alloc (.cells #[.int .i64 a, .int .i64 k, .int .i64 v, .int .i64 r, .string h, .slice ao l.length cp] 38)).alloc (.cells #[.int .i64 a, .int .i64 k, .int .i64 v, .int .i64 r, .string h, .slice ao' l.length cp'] 38)) wr)) (fun y _ => l.length - (intOf y).toNat)
    case atStart => exact ⟨0, by omega, rfl, hide (fun i _ _ h => by omega), hide (Only.refl _ _)⟩
    case round =>
      obtain ⟨j, hj, rfl, HE, HW⟩ := hrel
      obtain ⟨p0, p1, p2, p3, p4, p5, g0, g1, g2, g3, g4, g5, gl⟩ := HP.out.more HW.out
      obtain ⟨q0, q1, q2, q3, q4, q5, t0, t1, t2, t3, t4, t5, tl⟩ := HQ.out.more HW.out
      have hsz : (w.alloc (.cells #[.int .i64 a, .int .i64 k, .int .i64 v, .int .i64 r, .string h, .slice ao l.length cp] 38)).heap.size = w.heap.size + 1 := by simp
      rw [hsz] at q0 q1 q2 q3 q4 q5 t0 t1 t2 t3 t4 t5 tl
      clear hsz g0 g1 g2 g3 g4 g5 t0 t1 t2 t3 t4 t5 p0 p1 p2 p3 p4 q0 q1 q2 q3 q4
      by_cases hlt : j < l.length
      · obtain ⟨o1, e1, c1⟩ := (HS.out.more (o2 HO.out HW.out)).at_ (by omega)
        obtain ⟨o2', e2, c2⟩ := (HS'.out.more (o2 HO.out HW.out)).at_ (by have := HNN.out; omega)
        have k1 := c1 j hlt
        have hjl : j < l'.length := by have := HNN.out; omega
        have k2 := c2 j hjl
        have hj1 : (j : Int) < (l.length : Int) := by omega
        obtain ⟨s, hs⟩ : ∃ s, l[j] = s := ⟨_, rfl⟩
        obtain ⟨s', hs'⟩ : ∃ s', l'[j] = s' := ⟨_, rfl⟩
        rw [hs] at k1
        rw [hs'] at k2
        have HSS := hide hs
        have HSS' := hide hs'
        clear c1 c2 hs hs'
        subst e1
        subst e2
        by_cases hss : s = s'
        · subst hss
          go_wp2_with fail
          go_region
          go_wp2_with fail
          go_roundw
          case rel =>
            refine ⟨j + 1, by omega, by go_num, hide (fun i h1 h2 h3 => ?_), hide (HW.out.trans (Only.drew _ _) (fun _ _ h => h))⟩
            by_cases e : i = j
            · subst e; rw [HSS.out, HSS'.out]
            · exact HE.out i h1 h2 (by omega)
          case measure => simp [intOf]; omega
        · have hss' : ¬ s.toList = s'.toList := fun e => hss (ba_toList e)
          have HNE : Hid (l ≠ l') := fun e => hss (by rw [← HSS.out, ← HSS'.out]; simp [e])
          go_wp2_with fail
          go_region
          go_wp2_with fail
          · go_ret
            exact ⟨ret_bool (by simp [HNE.out]), o2 HO.out (HW.out.trans (Only.drew _ _) (fun _ _ h => h))⟩
          · have hx : (!s.toList == s'.toList) = false := ‹_›
            exact absurd (by simpa using hx) hss'
      · have HEQ : Hid (l = l') := List.ext_getElem HNN.out (fun i h1 h2 => HE.out i h1 h2 (by omega))
        go_wp2_with fail
        go_ret
        exact ⟨ret_bool (by simp [HEQ.out]), o2 HO.out HW.out⟩
  · have hE' : ¬ (a = a' ∧ k = k' ∧ v = v' ∧ r = r' ∧ h.toList = h'.toList ∧ (l.length : Int) = (l'.length : Int)) := by
      rintro ⟨h1, h2, h3, h4, h5, h6⟩
      exact hE ⟨h1, h2, h3, h4, ba_toList h5, by omega⟩
    have HN := hide hE
    have HN' := hide hE'
    clear hE hE'
    go_enter Try.func24, Try.ntmps24
    go_wp2_with fail
    all_goals first
      | exact absurd ⟨‹_›, ‹_›, ‹_›, ‹_›, ‹_›, by have hx : ((l.length : Int) != (l'.length : Int)) = false := ‹_›; simpa using hx⟩ HN'.out
      | (go_ret
         refine ⟨ret_bool ?_, o2 (onlyA _ _) (onlyA _ _)⟩
         exact (decide_eq_false (fun hh => HN.out ⟨hh.1, hh.2.1, hh.2.2.1, hh.2.2.2.1, hh.2.2.2.2.1, by rw [hh.2.2.2.2.2]⟩)).symm)
end Go.Proofs.Ythhlmhghiknnkaa
