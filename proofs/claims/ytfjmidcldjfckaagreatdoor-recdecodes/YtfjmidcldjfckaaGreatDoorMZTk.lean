/- What is read of a body: there is such a record, and what Decode answers is one thing. -/
import Derived.Test.YtfjmidcldjfckaaGreatDoorRCanon
import Derived.Test.YtfjmidcldjfckaaGreatDoorRLayA
import Derived.Test.YtfjmidcldjfckaaGreatDoorRTake
import Derived.Test.YtfjmidcldjfckaaGreatDoorRList
import Derived.Lib.AppendZeros
import Derived.Test.YtfjmidcldjfckaaGreatDoorRRec
import Derived.Test.YtfjmidcldjfckaaGreatDoorRPure
import Derived.Test.YtfjmidcldjfckaaGreatDoorRDec
import Derived.Test.YtfjmidcldjfckaaGreatDoorMPRefD
import Derived.Test.YtfjmidcldjfckaaGreatDoorMZLay
import Derived.Test.YtfjmidcldjfckaaGreatDoorRTakeM
namespace Go.Proofs.YtfjmidcldjfckaaGreatDoor
open Go.RowKit

/-- The document's Reader in block x. -/
structure XR (w : World) (x : Nat) (s : ByteArray) (p : Nat) (y : Int) : Prop where
  c0 : w.cell? ⟨x, 0, none⟩ = some (.string s)
  c1 : w.cell? ⟨x, 1, none⟩ = some (.int .i64 (p : Int))
  c2 : w.cell? ⟨x, 2, none⟩ = some (.int .i64 y)
  f0 : w.frozen? ⟨x, 0, none⟩ = false
  f1 : w.frozen? ⟨x, 1, none⟩ = false
  f2 : w.frozen? ⟨x, 2, none⟩ = false
  lt : x < w.heap.size
theorem XR.kept {S : Nat → Prop} {w w' : World} {x : Nat} {s : ByteArray} {p : Nat} {y : Int} (h : XR w x s p y) (ho : Only S w w') (hr : ¬ S x) : XR w' x s p y :=
  ⟨(ho.cell (p := ⟨x, 0, none⟩) h.lt hr).trans h.c0, (ho.cell (p := ⟨x, 1, none⟩) h.lt hr).trans h.c1, (ho.cell (p := ⟨x, 2, none⟩) h.lt hr).trans h.c2, (ho.frozen (p := ⟨x, 0, none⟩) h.lt hr).trans h.f0, (ho.frozen (p := ⟨x, 1, none⟩) h.lt hr).trans h.f1, (ho.frozen (p := ⟨x, 2, none⟩) h.lt hr).trans h.f2, Nat.lt_of_lt_of_le h.lt ho.size⟩
theorem XR.set1 {w : World} {x : Nat} {s : ByteArray} {p : Nat} {y : Int} (h : XR w x s p y) (q : Nat) : XR (w.setCell ⟨x, 1, none⟩ (.int .i64 (q : Int))) x s q y :=
  ⟨(World.cell?_setCell_other _ _ _ _ (by simp)).trans h.c0, World.cell?_setCell_same _ _ _ h.c1, (World.cell?_setCell_other _ _ _ _ (by simp)).trans h.c2, by simpa using h.f0, by simpa using h.f1, by simpa using h.f2, by simpa using h.lt⟩
theorem XR.set2 {w : World} {x : Nat} {s : ByteArray} {p : Nat} {y : Int} (h : XR w x s p y) (q : Int) : XR (w.setCell ⟨x, 2, none⟩ (.int .i64 q)) x s p q :=
  ⟨(World.cell?_setCell_other _ _ _ _ (by simp)).trans h.c0, (World.cell?_setCell_other _ _ _ _ (by simp)).trans h.c1, World.cell?_setCell_same _ _ _ h.c2, by simpa using h.f0, by simpa using h.f1, by simpa using h.f2, by simpa using h.lt⟩
theorem XR.new (w : World) (s : ByteArray) : XR (w.alloc (.cells #[.string s, .int .i64 0, .int .i64 0] 74)) w.heap.size s 0 0 :=
  ⟨by simp, by simp, by simp, by simp, by simp, by simp, by simp⟩
theorem XR.drew {w : World} {x : Nat} {s : ByteArray} {p : Nat} {y : Int} (h : XR w x s p y) : XR w.drew x s p y := h.kept (Only.drew (fun _ => False) w) (fun h => h)

theorem wrong_any (w : World) (x : Nat) (s : ByteArray) (p : Nat) (y z : Int) (h : XR w x s p y) :
    Calls Tryz.prog 62 #[.pointer (some ⟨x, 0, none⟩), .int .i64 z] w fun e w' => e = .returned (.int .i64 0) ∧ w' = w.setCell ⟨x, 2, none⟩ (.int .i64 z) := by
  obtain ⟨c0, c1, c2, f0, f1, f2, hl⟩ := h
  go_enter Tryz.func62, Tryz.ntmps62
  go_wp2
  go_ret
  exact ⟨rfl, rfl⟩

theorem xnum_err (w : World) (x : Nat) (s : ByteArray) (p : Nat) (y z : Int) (h : XR w x s p y) (hy : (y != 0) = true) :
    Calls Tryz.prog 36 #[.pointer (some ⟨x, 0, none⟩), .int .i64 z] w fun e w' => e = .returned (.int .i64 0) ∧ w' = w := by
  obtain ⟨c0, c1, c2, f0, f1, f2, hl⟩ := h
  go_enter Tryz.func36, Tryz.ntmps36
  go_wp2
  go_ret
  exact ⟨rfl, rfl⟩

theorem xend_err (w : World) (x : Nat) (s : ByteArray) (p : Nat) (y : Int) (h : XR w x s p y) (hy : (y == 0) = false) :
    Calls Tryz.prog 40 #[.pointer (some ⟨x, 0, none⟩)] w fun e w' => e = .returned (.int .i64 y) ∧ w' = w.drew := by
  obtain ⟨c0, c1, c2, f0, f1, f2, hl⟩ := h
  go_enter Tryz.func40, Tryz.ntmps40
  go_wp2
  go_region
  go_wp2
  go_ret
  exact ⟨rfl, rfl⟩
theorem xend_ok (w : World) (x : Nat) (s : ByteArray) (p : Nat) (h : XR w x s p 0) (hp : p ≤ s.size) :
    Calls Tryz.prog 40 #[.pointer (some ⟨x, 0, none⟩)] w fun e w' => e = .returned (.int .i64 (if s.size - p = 0 then 0 else 12)) ∧ w' = w.drew := by
  obtain ⟨c0, c1, c2, f0, f1, f2, hl⟩ := h
  by_cases hz : p < s.size
  · rw [if_neg (by omega)]
    go_enter Tryz.func40, Tryz.ntmps40
    go_wp2
    go_region
    go_wp2
    go_ret
    exact ⟨rfl, rfl⟩
  · rw [if_pos (by omega)]
    go_enter Tryz.func40, Tryz.ntmps40
    go_wp2
    go_region
    go_wp2
    go_ret
    exact ⟨rfl, rfl⟩
end Go.Proofs.YtfjmidcldjfckaaGreatDoor

namespace Go.Proofs.YtfjmidcldjfckaaGreatDoor
open Go.RowKit

/-- What Num of the document's Reader leaves: 'N' is what is taken of the bytes from place p on. -/
def XPost (w w' : World) (x : Nat) (s : ByteArray) (l : List UInt8) (y : Int) : Prop :=
  ∃ p' : Nat, XR w' x s p' y ∧ (y = 0 → p' ≤ s.size ∧ s.data.toList.drop p' = l) ∧ Only (fun k => k = x) w w'

theorem drop_at (s : ByteArray) (p j : Nat) (h : p + j < s.size) : (s.data.toList.drop p).drop j = s[p + j] :: (s.data.toList.drop p).drop (j + 1) := by
  rw [List.drop_drop, List.drop_drop, drop_cons s (p + j) h]
  rfl
theorem drop_over (s : ByteArray) (p j : Nat) (h : ¬ p + j < s.size) : (s.data.toList.drop p).drop j = [] := by
  rw [List.drop_drop, drop_none s (p + j) h]

theorem xp_wrong {w wr W : World} {x : Nat} {s : ByteArray} {p : Nat} {y : Int} (h : XR wr x s p 0) (ho : Only (fun k => k = x) w wr) (hy : y ≠ 0) (hW : Only (fun _ => False) (wr.setCell ⟨x, 2, none⟩ (.int .i64 y)) W) : XPost w W x s [] y :=
  ⟨p, (h.set2 y).kept hW (fun h => h), fun e => absurd e hy, (ho.trans (Only.setCell (S := fun k => k = x) wr ⟨x, 2, none⟩ _ rfl) (fun _ _ h => h)).trans hW (fun _ _ h => h.elim)⟩
theorem xp_last {w wr W : World} {x : Nat} {s : ByteArray} {p q : Nat} {v : Int} {l : List UInt8} (h : XR wr x s p 0) (ho : Only (fun k => k = x) w wr) (hv : (q : Int) = v) (hW : Only (fun _ => False) (wr.setCell ⟨x, 1, none⟩ (.int .i64 v)) W) (hq : q ≤ s.size) (hl : s.data.toList.drop q = l) : XPost w W x s l 0 ∧ XR W x s q 0 ∧ Only (fun k => k = x) w W := by
  subst hv
  have h1 := (h.set1 q).kept hW (fun h => h)
  have h2 := (ho.trans (Only.setCell (S := fun k => k = x) wr ⟨x, 1, none⟩ (.int .i64 (q : Int)) rfl) (fun _ _ h => h)).trans hW (fun _ _ h => h.elim)
  exact ⟨⟨q, h1, fun _ => ⟨hq, hl⟩, h2⟩, h1, h2⟩
theorem x_step (k : Nat) (q d : Int) (hk : k ≤ 8) (q0 : 0 ≤ q) (q1 : q < 128 ^ k) (d0 : 0 ≤ d) (d1 : d < 128) : wrap64 (q + wrap64 (d % 128 * 128 ^ k)) = q + d * 128 ^ k := by
  have h := (or_shift k q d hk q0 q1 d0 d1).2
  have h9 := pow_le9 k hk
  have e : d % 128 = d := by omega
  have hp : (0 : Int) ≤ 128 ^ k := Int.pow_nonneg (by decide)
  have hd : 0 ≤ d * 128 ^ k := Int.mul_nonneg d0 hp
  rw [e, w64_id (d * 128 ^ k) (by omega), w64_id _ (by omega)]
theorem x_unit (k : Nat) (hk : k ≤ 7) : wrap64 (128 * 128 ^ k) = 128 ^ (k + 1) := by
  have hc : k = 0 ∨ k = 1 ∨ k = 2 ∨ k = 3 ∨ k = 4 ∨ k = 5 ∨ k = 6 ∨ k = 7 := by omega
  rcases hc with rfl | rfl | rfl | rfl | rfl | rfl | rfl | rfl <;> (rw [w64_id _ (by decide)]; decide)
theorem drews (w : World) : Only (fun _ => False) w w.drew.drew := (Only.drew _ w).trans (Only.drew _ _) (fun _ _ h => h) (T := fun _ => False)

set_option maxRecDepth 100000 in
set_option maxHeartbeats 1600000 in
theorem xnum_any (w : World) (x : Nat) (s : ByteArray) (p : Nat) (z : Int) (h : XR w x s p 0) (hp : p ≤ s.size) (hs : s.size ≤ maxLen - 100) :
    Calls Tryz.prog 36 #[.pointer (some ⟨x, 0, none⟩), .int .i64 z] w fun e w' => e = .returned (.int .i64 (rdN z (s.data.toList.drop p)).1) ∧ XPost w w' x s (rdN z (s.data.toList.drop p)).2.1 (rdN z (s.data.toList.drop p)).2.2 := by
  obtain ⟨N, hN⟩ : ∃ N, rdN z (s.data.toList.drop p) = N := ⟨_, rfl⟩
  obtain ⟨R, hR⟩ : ∃ R, rd 0 0 (s.data.toList.drop p) = R := ⟨_, rfl⟩
  have HN := hide hN
  have HR := hide hR
  rw [hN]
  clear hN hR
  unfold maxLen at hs
  obtain ⟨c0, c1, c2, f0, f1, f2, hl⟩ := h
  have HX0 : Hid (XR w x s p 0) := ⟨c0, c1, c2, f0, f1, f2, hl⟩
  go_enter Tryz.func36, Tryz.ntmps36
  go_wp2
  clear c0 c1 c2 f0 f1 f2 hl
  go_loopw [5, 6, 7, 8] (fun n u k _ wr => ∃ (j : Nat) (q v : Int), k = .int .i64 ((j : Int) + 1) ∧ n = .int .i64 q ∧ u = .int .i64 v ∧ j ≤ 8 ∧ 0 ≤ q ∧ Hid (q < 128 ^ j) ∧ Hid (v = 128 ^ j) ∧ Hid (rd j q ((s.data.toList.drop p).drop j) = R) ∧ Hid (XR wr x s p 0) ∧ Hid (Only (fun k => k = x) w wr))
    (fun _ _ k _ _ => (10 - intOf k).toNat)
  case atStart => exact ⟨0, 0, 1, rfl, rfl, rfl, by omega, by omega, by unfold Hid; decide, by unfold Hid; rfl, HR, HX0, Only.refl _ _⟩
  case round =>
    obtain ⟨j, q, v, rfl, rfl, rfl, hj, q0, Hq, Hv, HD, HX, HO⟩ := hrel
    obtain ⟨c0, c1, c2, f0, f1, f2, hl⟩ := HX.out
    by_cases hlt : p + j < s.size
    · obtain ⟨m, hm⟩ : ∃ m : Nat, p + j = m := ⟨_, rfl⟩
      have hpj : (p : Int) + ((j : Int) + 1) - 1 = (m : Int) := by omega
      have hml : m < s.size := by omega
      have HM := hide hm
      clear hm
      have hb := s[m].toNat_lt
      have HD2 : Hid (rd j q (s[m] :: (s.data.toList.drop p).drop (j + 1)) = R) := by
        unfold Hid
        have e := drop_at s p j hlt
        have e2 : s[p + j] = s[m] := by simp [HM.out]
        rw [e2] at e
        rw [← e]; exact HD.out
      have hk1 : (1 : Int) ≤ (j : Int) + 1 := by omega
      clear HD
      obtain ⟨d, hd⟩ : ∃ d : Int, (s[m].toNat : Int) = d := ⟨_, rfl⟩
      have hd0 : 0 ≤ d := by omega
      have hd1 : d < 256 := by omega
      have HDD := hide hd
      by_cases h1 : d < 128
      · by_cases h2 : d = 0 ∧ 0 < j
        · have h2a : (d == 0) = true := by simpa using h2.1
          have h2b : (1 : Int) < (j : Int) + 1 := by omega
          have HN2 : Hid (N = (0, [], 11)) := by
            unfold Hid
            have e := rd_zero HD2.out (by omega) (by omega) h2.2
            rw [← HN.out, rdN_bad (HR.out.trans e) (by decide)]
          clear h2
          cases h9 : ((j : Int) + 1 == 9)
          all_goals
            go_wp2
            go_region
            go_wp2
            go_region
            go_wp2_with fail
          all_goals refine (wrong_any _ x s p 0 11 (HX.out.drew.drew)).mono ?_
          all_goals rintro e w1 ⟨rfl, rfl⟩
          all_goals go_wp2
          all_goals go_ret
          all_goals
            rw [HN2.out]
            exact ⟨rfl, xp_wrong HX.out HO.out (by decide) (drews _)⟩
        · have HE : Hid (R = (q + (s[m].toNat : Int) * 128 ^ j, (j : Int) + 1, 0)) := rd_last HD2.out (by omega) (by omega)
          have hos := or_shift j q d hj q0 Hq.out hd0 h1
          have h99 := pow_le9 j hj
          obtain ⟨n, hn⟩ : ∃ n : Int, wrap64 (q + wrap64 (d % 128 * v)) = n := ⟨_, rfl⟩
          have hn2 : n = q + d * 128 ^ j := by rw [← hn, Hv.out]; exact x_step j q d hj q0 Hq.out hd0 h1
          have hn0 : 0 ≤ n := by omega
          have hrdl : rd 0 0 (s.data.toList.drop p) = (n, ((j + 1 : Nat) : Int), 0) := by rw [HR.out, HE.out, hn2, hd]; rfl
          have hpk : p + (j + 1) ≤ s.size := by omega
          have HNS : Hid (max z 0 < n → N = (0, [], 11)) := fun h => by rw [← HN.out, rdN_big hrdl h]
          have HNL : Hid (¬ max z 0 < n → N = (n, (s.data.toList.drop p).drop (j + 1), 0)) := fun h => by rw [← HN.out, rdN_ok hrdl h]
          have h3 : (((j : Int) + 1 == 9) = false ∧ (d == 0) = false) ∨ (((j : Int) + 1 == 9) = true ∧ (d == 0) = false) ∨ (((j : Int) + 1 == 9) = false ∧ (d == 0) = true ∧ ¬ (1 : Int) < (j : Int) + 1) := by
            by_cases e : d = 0
            · exact .inr (.inr ⟨by simp; omega, by simpa using e, by omega⟩)
            · by_cases e9 : j = 8
              · exact .inr (.inl ⟨by simp; omega, by simpa using e⟩)
              · exact .inl ⟨by simp; omega, by simpa using e⟩
          have HLD : Hid (∀ W, Only (fun _ => False) (wr.setCell ⟨x, 1, none⟩ (.int .i64 ((p : Int) + ((j : Int) + 1)))) W → XPost w W x s ((s.data.toList.drop p).drop (j + 1)) 0 ∧ XR W x s (p + (j + 1)) 0 ∧ Only (fun k => k = x) w W) :=
            fun W hW => xp_last HX.out HO.out (by omega) hW hpk (by rw [List.drop_drop])
          clear hrdl hn2 hos h99 HE h2
          by_cases hz : z < 0
          · by_cases hbg : 0 < n
            · have hN := HNS.out (by omega)
              have HN2 := hide hN
              clear hN HNS HNL
              rcases h3 with ⟨h9, h5⟩ | ⟨h9, h5⟩ | ⟨h9, h5, h6⟩
              all_goals
                go_wp2
                go_region
                go_wp2
                go_region
                go_wp2_with fail
              all_goals refine (wrong_any _ x s (p + (j + 1)) 0 11 (HLD.out _ (drews _)).2.1).mono ?_
              all_goals rintro e w1 ⟨rfl, rfl⟩
              all_goals go_wp2
              all_goals go_ret
              all_goals
                rw [HN2.out]
                exact ⟨rfl, xp_wrong (HLD.out _ (drews _)).2.1 (HLD.out _ (drews _)).2.2 (by decide) (Only.refl _ _)⟩
            · have hN := HNL.out (by omega)
              have HN2 := hide hN
              clear hN HNS HNL
              rcases h3 with ⟨h9, h5⟩ | ⟨h9, h5⟩ | ⟨h9, h5, h6⟩
              all_goals
                go_wp2
                go_region
                go_wp2
                go_region
                go_wp2_with fail
              all_goals go_ret
              all_goals
                rw [HN2.out]
                exact ⟨ret_int hn, (HLD.out _ (drews _)).1⟩
          · by_cases hbg : z < n
            · have hN := HNS.out (by omega)
              have HN2 := hide hN
              clear hN HNS HNL
              rcases h3 with ⟨h9, h5⟩ | ⟨h9, h5⟩ | ⟨h9, h5, h6⟩
              all_goals
                go_wp2
                go_region
                go_wp2
                go_region
                go_wp2_with fail
              all_goals refine (wrong_any _ x s (p + (j + 1)) 0 11 (HLD.out _ (drews _)).2.1).mono ?_
              all_goals rintro e w1 ⟨rfl, rfl⟩
              all_goals go_wp2
              all_goals go_ret
              all_goals
                rw [HN2.out]
                exact ⟨rfl, xp_wrong (HLD.out _ (drews _)).2.1 (HLD.out _ (drews _)).2.2 (by decide) (Only.refl _ _)⟩
            · have hN := HNL.out (by omega)
              have HN2 := hide hN
              clear hN HNS HNL
              rcases h3 with ⟨h9, h5⟩ | ⟨h9, h5⟩ | ⟨h9, h5, h6⟩
              all_goals
                go_wp2
                go_region
                go_wp2
                go_region
                go_wp2_with fail
              all_goals go_ret
              all_goals
                rw [HN2.out]
                exact ⟨ret_int hn, (HLD.out _ (drews _)).1⟩
      · have h5 : (d == 0) = false := by simp; omega
        by_cases h8 : j = 8
        · have h9 : ((j : Int) + 1 == 9) = true := by simp; omega
          have HN2 : Hid (N = (0, [], 11)) := by
            unfold Hid
            have e := rd_nine HD2.out (by omega) h8
            rw [← HN.out, rdN_bad (HR.out.trans e) (by decide)]
          clear h8
          go_wp2
          go_region
          go_wp2
          go_region
          go_wp2_with fail
          refine (wrong_any _ x s p 0 11 (HX.out.drew.drew)).mono ?_
          rintro e w1 ⟨rfl, rfl⟩
          go_wp2
          go_ret
          rw [HN2.out]
          exact ⟨rfl, xp_wrong HX.out HO.out (by decide) (drews _)⟩
        · have h9 : ((j : Int) + 1 == 9) = false := by simp; omega
          have hos := or_shift j q (d - 128) hj q0 Hq.out (by omega) (by omega)
          obtain ⟨n, hn⟩ : ∃ n : Int, wrap64 (q + wrap64 (d % 128 * v)) = n := ⟨_, rfl⟩
          have hd8 : d % 128 = d - 128 := by omega
          have hn2 : n = q + (d - 128) * 128 ^ j := by rw [← hn, Hv.out, ← x_step j q (d - 128) hj q0 Hq.out (by omega) (by omega), show (d - 128) % 128 = d % 128 by omega]
          obtain ⟨v2, hv2⟩ : ∃ v2 : Int, wrap64 (128 * v) = v2 := ⟨_, rfl⟩
          have hv3 : v2 = 128 ^ (j + 1) := by
            rw [← hv2, Hv.out, ← x_unit j (by omega)]
          have HRM := hide (rd_more HD2.out (by omega) h8)
          have HQ2 : Hid (0 ≤ n ∧ n < 128 ^ (j + 1)) := by unfold Hid; rw [hn2]; exact hos.2
          have HN3 := hide hn2
          have HV3 := hide hv3
          have HO3 : Hid (Only (fun k => k = x) w wr.drew.drew) := HO.out.trans (drews wr) (fun _ _ h => h.elim)
          clear hn2 hv3 hos hd8
          go_wp2
          go_region
          go_wp2
          go_region
          go_wp2_with fail
          go_roundw
          case rel =>
            have hR2 : rd (j + 1) n ((s.data.toList.drop p).drop (j + 1)) = R := by
              have e := HRM.out
              rw [hd, ← HN3.out] at e
              exact e
            exact ⟨j + 1, n, v2, by go_num, by rw [hn], by rw [hv2], by omega, HQ2.out.1, HQ2.out.2, HV3, hR2, HX.out.drew.drew, HO3⟩
          case measure => simp [intOf]; omega
    · have HN2 : Hid (N = (0, [], 10)) := by
        unfold Hid
        have e := HD.out
        rw [drop_over s p j hlt] at e
        rw [← HN.out, rdN_bad (x := 10) (by rw [HR.out, ← e]; rfl) (by decide)]
      go_wp2
      go_region
      go_wp2_with fail
      refine (wrong_any _ x s p 0 10 (HX.out.drew)).mono ?_
      rintro e w1 ⟨rfl, rfl⟩
      go_wp2
      go_ret
      rw [HN2.out]
      exact ⟨rfl, xp_wrong HX.out HO.out (by decide) (Only.drew _ _)⟩
end Go.Proofs.YtfjmidcldjfckaaGreatDoor

namespace Go.Proofs.YtfjmidcldjfckaaGreatDoor
open Go.RowKit

theorem ret_str {a b : ByteArray} (h : a = b) : Ending.returned (.string a) = .returned (.string b) := by rw [h]
theorem xtext_err (w : World) (x : Nat) (s : ByteArray) (p : Nat) (y z : Int) (h : XR w x s p y) (hy : (y != 0) = true) (hy2 : (y == 0) = false) :
    Calls Tryz.prog 37 #[.pointer (some ⟨x, 0, none⟩), .int .i64 z] w fun e w' => e = .returned (.string ⟨#[]⟩) ∧ Only (fun _ => False) w w' := by
  have HX := hide h
  obtain ⟨c0, c1, c2, f0, f1, f2, hl⟩ := h
  go_enter Tryz.func37, Tryz.ntmps37
  go_wp2_with fail
  refine (xnum_err _ x s p y z (unhide HX) hy).mono ?_
  rintro e w1 ⟨rfl, rfl⟩
  go_wp2_with fail
  go_region
  go_wp2_with fail
  go_ret
  exact ⟨rfl, Only.drew _ _⟩

set_option maxRecDepth 100000 in
set_option maxHeartbeats 1600000 in
theorem xtext_any (w : World) (x : Nat) (s : ByteArray) (p : Nat) (z : Int) (h : XR w x s p 0) (hp : p ≤ s.size) (hs : s.size ≤ maxLen - 100) :
    Calls Tryz.prog 37 #[.pointer (some ⟨x, 0, none⟩), .int .i64 z] w fun e w' => e = .returned (.string ⟨(rdT z (s.data.toList.drop p)).1.toArray⟩) ∧ XPost w w' x s (rdT z (s.data.toList.drop p)).2.1 (rdT z (s.data.toList.drop p)).2.2 := by
  have hcall := xnum_any w x s p z h hp hs
  have hfx := rdN_facts z (s.data.toList.drop p)
  unfold maxLen at hs
  by_cases hx : (rdN z (s.data.toList.drop p)).2.2 = 0
  · by_cases hsh : ((rdN z (s.data.toList.drop p)).2.1.length : Int) < (rdN z (s.data.toList.drop p)).1
    · rw [rdT_short hx hsh]
      generalize rdN z (s.data.toList.drop p) = N at *
      obtain ⟨n, t, y⟩ := N
      simp only at hx hsh hfx hcall
      subst hx
      have HC := hide hcall
      clear hcall
      go_enter Tryz.func37, Tryz.ntmps37
      go_wp2_with fail
      refine (unhide HC).mono ?_
      rintro e w1 ⟨rfl, p', hX1, hpl, ho1⟩
      obtain ⟨hp1, ht⟩ := hpl rfl
      have hlen : s.size - p' = t.length := by rw [← ht]; simp
      have hgt : (s.size : Int) - (p' : Int) < n := by omega
      have HX1 := hide (And.intro hX1 ho1)
      obtain ⟨c0, c1, c2, f0, f1, f2, hl⟩ := hX1
      clear hpl ht ho1 hlen hfx hsh
      go_wp2_with fail
      go_region
      go_wp2_with fail
      refine (wrong_any _ x s p' 0 10 (unhide HX1).1.drew).mono ?_
      rintro e w2 ⟨rfl, hw2⟩
      have hX2 : XR w2 x s p' 10 := by rw [hw2]; exact (unhide HX1).1.drew.set2 10
      have hP2 : XPost w w2 x s [] 10 := by
        rw [hw2]
        exact xp_wrong (unhide HX1).1.drew ((unhide HX1).2.trans (Only.drew (fun _ => False) _) (fun _ _ h => h.elim)) (by decide) (Only.refl _ _)
      have HP2 := hide hP2
      clear hw2 hP2 c0 c1 c2 f0 f1 f2 hl
      obtain ⟨c0, c1, c2, f0, f1, f2, hl⟩ := hX2
      go_wp2_with fail
      go_ret
      exact ⟨rfl, unhide HP2⟩
    · rw [rdT_ok hx hsh]
      generalize rdN z (s.data.toList.drop p) = N at *
      obtain ⟨n, t, y⟩ := N
      simp only at hx hsh hfx hcall ⊢
      subst hx
      obtain ⟨m, rfl⟩ := Int.eq_ofNat_of_zero_le hfx.1
      have HC := hide hcall
      clear hcall
      go_enter Tryz.func37, Tryz.ntmps37
      go_wp2_with fail
      refine (unhide HC).mono ?_
      rintro e w1 ⟨rfl, p', hX1, hpl, ho1⟩
      obtain ⟨hp1, ht⟩ := hpl rfl
      have hlen : s.size - p' = t.length := by rw [← ht]; simp
      have hgt : ¬ (s.size : Int) - (p' : Int) < (m : Int) := by omega
      obtain ⟨k, hk⟩ : ∃ k : Nat, p' + m = k := ⟨_, rfl⟩
      have hpk : (p' : Int) + (m : Int) = (k : Int) := by omega
      have hk1 : k ≤ s.size := by omega
      have hk2 : p' ≤ k := by omega
      have HX1 := hide (And.intro hX1 (And.intro ho1 (And.intro ht hk)))
      obtain ⟨c0, c1, c2, f0, f1, f2, hl⟩ := hX1
      clear hpl ht ho1 hlen hfx hsh hk
      go_wp2_with fail
      go_region
      go_wp2_with fail
      go_region
      go_wp2_with fail
      go_ret
      obtain ⟨hX1, ho1, ht, hk⟩ := unhide HX1
      have e1 : s.extract p' k = ⟨(t.take m).toArray⟩ := ba_eq _ _ (by rw [Lib.extract_data, ht, ← hk]; congr 1; omega)
      rw [Int.toNat_natCast]
      refine ⟨ret_str e1, (xp_last hX1 ho1 rfl (drews _) hk1 ?_).1⟩
      rw [← ht, List.drop_drop, hk]
  · have hne : ((rdN z (s.data.toList.drop p)).2.2 != 0) = true := by simpa using hx
    have hne2 : ((rdN z (s.data.toList.drop p)).2.2 == 0) = false := by simpa using hx
    rw [rdT_err hx]
    have hnil := rdN_errs z (s.data.toList.drop p) hx
    generalize rdN z (s.data.toList.drop p) = N at *
    obtain ⟨n, t, y⟩ := N
    simp only at hx hfx hcall hne hne2 hnil ⊢
    subst hnil
    have HC := hide hcall
    clear hcall
    have HY := hide hx
    clear hx
    go_enter Tryz.func37, Tryz.ntmps37
    go_wp2_with fail
    refine (unhide HC).mono ?_
    rintro e w1 ⟨rfl, p', hX1, hpl, ho1⟩
    have HX1 := hide (And.intro hX1 ho1)
    obtain ⟨c0, c1, c2, f0, f1, f2, hl⟩ := hX1
    clear hpl ho1
    go_wp2_with fail
    go_region
    go_wp2_with fail
    go_ret
    exact ⟨rfl, p', (unhide HX1).1.drew, fun e => absurd e (unhide HY), (unhide HX1).2.trans (Only.drew (fun _ => False) _) (fun _ _ h => h.elim)⟩
end Go.Proofs.YtfjmidcldjfckaaGreatDoor

namespace Go.Proofs.YtfjmidcldjfckaaGreatDoor
open Go.RowKit

/-- The document's Reader in block x: its state is s. -/
structure XS (w : World) (x : Nat) (s : St) : Prop where
  ex : ∃ (t : ByteArray) (p : Nat), XR w x t p s.2 ∧ (s.2 = 0 → p ≤ t.size ∧ t.data.toList.drop p = s.1) ∧ t.size ≤ 1000000
theorem XS.kept {S : Nat → Prop} {w w' : World} {x : Nat} {s : St} (h : XS w x s) (ho : Only S w w') (hr : ¬ S x) : XS w' x s := by
  obtain ⟨t, p, hx, r⟩ := h.ex
  exact ⟨t, p, hx.kept ho hr, r⟩
theorem xn_any (w : World) (x : Nat) (s : St) (z : Int) (h : XS w x s) :
    Calls Tryz.prog 36 #[.pointer (some ⟨x, 0, none⟩), .int .i64 z] w fun e w' => e = .returned (.int .i64 (rN z s).1) ∧ XS w' x (rN z s).2 ∧ Only (fun k => k = x) w w' := by
  obtain ⟨t, p, hx, hp, ht⟩ := h.ex
  obtain ⟨l, y⟩ := s
  simp only at hx hp
  by_cases hy : y = 0
  · subst hy
    obtain ⟨hp1, hp2⟩ := hp rfl
    have e1 : rN z (l, 0) = ((rdN z l).1, ((rdN z l).2.1, (rdN z l).2.2)) := by unfold rN; rw [if_pos rfl]
    rw [e1]
    refine (xnum_any w x t p z hx hp1 (by unfold maxLen; omega)).mono ?_
    rw [hp2]
    rintro e w' ⟨he, p', h1, h2, h3⟩
    exact ⟨he, ⟨t, p', h1, h2, ht⟩, h3⟩
  · have e1 : rN z (l, y) = (0, (l, y)) := by unfold rN; rw [if_neg hy]
    rw [e1]
    refine (xnum_err w x t p y z hx (by simpa using hy)).mono ?_
    rintro e w' ⟨he, rfl⟩
    exact ⟨he, ⟨t, p, hx, hp, ht⟩, Only.refl _ _⟩
theorem xt_any (w : World) (x : Nat) (s : St) (z : Int) (h : XS w x s) :
    Calls Tryz.prog 37 #[.pointer (some ⟨x, 0, none⟩), .int .i64 z] w fun e w' => e = .returned (.string (str (rT z s).1)) ∧ XS w' x (rT z s).2 ∧ Only (fun k => k = x) w w' := by
  obtain ⟨t, p, hx, hp, ht⟩ := h.ex
  obtain ⟨l, y⟩ := s
  simp only at hx hp
  by_cases hy : y = 0
  · subst hy
    obtain ⟨hp1, hp2⟩ := hp rfl
    have e1 : rT z (l, 0) = ((rdT z l).1, ((rdT z l).2.1, (rdT z l).2.2)) := by unfold rT; rw [if_pos rfl]
    rw [e1]
    refine (xtext_any w x t p z hx hp1 (by unfold maxLen; omega)).mono ?_
    rw [hp2]
    rintro e w' ⟨he, p', h1, h2, h3⟩
    exact ⟨he, ⟨t, p', h1, h2, ht⟩, h3⟩
  · have e1 : rT z (l, y) = ([], (l, y)) := by unfold rT; rw [if_neg hy]
    rw [e1]
    refine (xtext_err w x t p y z hx (by simpa using hy) (by simpa using hy)).mono ?_
    rintro e w' ⟨he, hw⟩
    exact ⟨he, XS.kept ⟨t, p, hx, hp, ht⟩ hw (fun h => h), hw.mono (fun _ _ h => h.elim)⟩
theorem XS.new (w : World) (t : ByteArray) (ht : t.size ≤ 1000000) : XS (w.alloc (.cells #[.string t, .int .i64 0, .int .i64 0] 74)) w.heap.size (bl t, 0) :=
  ⟨t, 0, XR.new w t, fun _ => ⟨by omega, rfl⟩, ht⟩
/-- Whether all was read: End. -/
theorem xe_any (w : World) (x : Nat) (s : St) (h : XS w x s) :
    Calls Tryz.prog 40 #[.pointer (some ⟨x, 0, none⟩)] w fun e w' => (∃ c, e = .returned (.int .i64 c) ∧ ((c == 0) = true ↔ s = ([], 0))) ∧ Only (fun _ => False) w w' := by
  obtain ⟨t, p, hx, hp, ht⟩ := h.ex
  obtain ⟨l, y⟩ := s
  simp only at hx hp
  by_cases hy : y = 0
  · subst hy
    obtain ⟨hp1, hp2⟩ := hp rfl
    refine (xend_ok w x t p hx hp1).mono ?_
    rintro e w' ⟨he, rfl⟩
    refine ⟨⟨_, he, ?_⟩, Only.drew _ _⟩
    have hl : l.length = t.size - p := by rw [← hp2, List.length_drop]; rfl
    by_cases h0 : t.size - p = 0
    · rw [if_pos h0]
      have : l = [] := List.eq_nil_of_length_eq_zero (by omega)
      rw [this]; simp
    · rw [if_neg h0]
      have : l ≠ [] := fun h => h0 (by rw [← hl, h]; rfl)
      simp [this]
  · refine (xend_err w x t p y hx (by simpa using hy)).mono ?_
    rintro e w' ⟨he, rfl⟩
    exact ⟨⟨_, he, by simp [hy]⟩, Only.drew _ _⟩
end Go.Proofs.YtfjmidcldjfckaaGreatDoor

namespace Go.Proofs.YtfjmidcldjfckaaGreatDoor
open Go.RowKit

/-- A list taken up by the document's side: what it returns, the Reader's state behind it. -/
structure ZlQ (w w' : World) (e : Ending) (x : Nat) (P : World → Value → Prop) (s : St) : Prop where
  ex : ∃ v, e = .returned v ∧ P w' v
  xs : XS w' x s
  only : Only (fun k => k = x) w w'
theorem XS.c2 {w : World} {x : Nat} {s : St} (h : XS w x s) : w.cell? ⟨x, 2, none⟩ = some (.int .i64 s.2) := by
  obtain ⟨t, p, hx, _⟩ := h.ex
  exact hx.c2
theorem XS.lt {w : World} {x : Nat} {s : St} (h : XS w x s) : x < w.heap.size := by
  obtain ⟨t, p, hx, _⟩ := h.ex
  exact hx.lt
theorem rdN_err (z : Int) (l : List UInt8) (h : (rdN z l).2.2 ≠ 0) : (rdN z l).1 = 0 := by
  unfold rdN at h ⊢
  split
  · rename_i h1
    rw [if_pos h1] at h
    split
    · rfl
    · rename_i h2
      rw [if_neg h2] at h
      exact absurd rfl h
  · rfl
set_option maxRecDepth 100000 in
set_option maxHeartbeats 1600000 in
theorem znumbers_any (w : World) (x : Nat) (s : St) (most : Int) (h : XS w x s) (hm : 0 ≤ most) (hm2 : most ≤ 255) :
    Calls Tryz.prog 38 #[.pointer (some ⟨x, 0, none⟩), .int .i64 most] w fun e w' => ZlQ w w' e x (fun W v => ∃ l : List Int, W.ownsRow w.heap.size 3 1 v l.length (l.map (Value.int .i64)) ∧ l.length ≤ 255 ∧ ((rL (rN top) most s).2.2 = 0 → l = (rL (rN top) most s).1)) (rL (rN top) most s).2 := by
  have HS := hide h
  have hlt := h.lt
  obtain ⟨⟨n0, s1⟩, h1⟩ : ∃ a, rN most s = a := ⟨_, rfl⟩
  have hb := rN_bd most s
  have hle := rN_le most s hm
  rw [h1] at hb hle
  simp only at hb hle
  obtain ⟨n, rfl⟩ := Int.eq_ofNat_of_zero_le hb.1
  obtain ⟨⟨R, sR⟩, hT⟩ : ∃ a, rL (rN top) most s = a := ⟨_, rfl⟩
  have HT : Hid (takeL (rN top) n [] s1 = (R, sR)) := by
    unfold Hid
    rw [← hT]
    unfold rL
    rw [h1]
    simp only [Int.toNat_natCast]
  have HZ : Hid (s1.2 ≠ 0 → s1 = sR) := by
    intro hne
    have hs2 : s.2 ≠ 0 ∨ s.2 = 0 := by omega
    have : n = 0 := by
      have e := h1
      unfold rN at e
      split at e
      · rename_i h0
        simp only [Prod.mk.injEq] at e
        have hy : (rdN most s.1).2.2 ≠ 0 := by rw [← e.2] at hne; exact hne
        have := rdN_err most s.1 hy
        omega
      · simp only [Prod.mk.injEq] at e
        omega
    have ht := HT.out
    rw [this] at ht
    simp only [takeL, Prod.mk.injEq] at ht
    exact ht.2
  rw [hT]
  have H1 := hide h1
  have hn : n ≤ 255 := by omega
  clear h h1 hT hb hle
  go_enter Tryz.func38, Tryz.ntmps38
  go_wp2_with fail
  have q1 := xn_any w x s most HS.out
  rw [H1.out] at q1
  refine Calls.mono q1 ?_
  clear q1
  rintro e w1 ⟨rfl, hr1, ho1⟩
  have HR1 := hide hr1
  have HO1 := hide ho1
  clear hr1 ho1
  simp only
  go_wp2_with fail
  go_loopw [5, 7] (fun v y wr => ∃ (j : Nat) (acc : List Int) (s' : St), j ≤ n ∧ y = .int .i64 (j : Int) ∧ Hid (acc.length = j) ∧ Hid (wr.ownsRow w.heap.size 3 1 v acc.length (acc.map (Value.int .i64))) ∧ Hid (XS wr x s') ∧ Hid (Only (fun k => k = x) w wr) ∧ Hid (s'.2 = 0 → takeL (rN top) (n - j) acc s' = (R, sR)) ∧ Hid (s'.2 ≠ 0 → s' = sR)) (fun _ y _ => n - (intOf y).toNat)
  case atStart => exact ⟨0, [], s1, by omega, rfl, rfl, World.ownsRow_nil _ _ _ _, HR1, HO1, fun _ => HT.out, HZ⟩
  case round =>
    obtain ⟨j, acc, s', hj, rfl, HA, HW, HR, HO, HM, HN⟩ := hrel
    have c2 := HR.out.c2
    by_cases hlt2 : j < n
    · have hj1 : (j : Int) < (n : Int) := by omega
      by_cases hx : s'.2 = 0
      · have hx' : (s'.2 == 0) = true := by simpa using hx
        have HX0 := hide hx
        obtain ⟨m, hm⟩ : ∃ m, n - j = m + 1 := ⟨n - j - 1, by omega⟩
        have HMM := hide hm
        obtain ⟨⟨z, s2⟩, h2⟩ : ∃ a, rN top s' = a := ⟨_, rfl⟩
        have H2 := hide h2
        clear hx h2 hm
        go_wp2_with fail
        have q2 := xn_any wr x s' top HR.out
        rw [H2.out] at q2
        refine Calls.mono q2 ?_
        clear q2 c2
        rintro e w2 ⟨rfl, hr2, ho2⟩
        have HR2 := hide hr2
        have HO2 : Hid (Only (fun k => k = x) w w2) := HO.out.trans ho2 (fun _ _ h => h)
        have HW2 := hide (own_kept HW.out ho2 (fun b hb e => by have := (World.ownsRow.lt HW.out b hb).1; omega))
        clear hr2 ho2
        have HM2 : Hid (s2.2 = 0 → takeL (rN top) (n - (j + 1)) (acc ++ [z]) s2 = (R, sR)) := by
          intro h0
          rw [← HM.out HX0.out, HMM.out, takeL_next (by rw [H2.out]; exact h0), H2.out]
          have : n - (j + 1) = m := by have := HMM.out; omega
          rw [this]
        have HN2 : Hid (s2.2 ≠ 0 → s2 = sR) := by
          intro h0
          have h3 := HM.out HX0.out
          rw [HMM.out, takeL_stop (by rw [H2.out]; exact h0), H2.out] at h3
          exact congrArg Prod.snd h3
        have HAL := HA.out
        obtain ⟨v4, w4, r4, l4, o4⟩ := append_ints w2 23 w.heap.size _ acc HW2.out z (by omega) HO2.out.size
        have R4 := hide r4
        have L4 := hide l4
        have O4 : Hid (Only (fun k => k = x) w w4) := HO2.out.trans o4 (fun k hk e => by omega)
        have HR4 := hide (HR2.out.kept o4 (by omega))
        clear r4 l4 o4 HAL
        simp only
        go_wp2_with (at_builtin; go_must (refine Lib.wpList_append_run _ rfl (.tmp 23) (.tmp 26) _ _ rfl _ _ rfl rfl _ _ R4.out ?_))
        go_roundw
        case rel => exact ⟨j + 1, acc ++ [z], s2, by omega, by go_num, by unfold Hid; rw [List.length_append, HA.out]; rfl, L4, HR4, O4, HM2, HN2⟩
        case measure => simp [intOf]; omega
      · have hx' : (s'.2 == 0) = false := by simpa using hx
        have HX0 := hide hx
        clear hx
        go_wp2_with fail
        go_ret
        have e := HN.out HX0.out
        subst e
        exact ⟨⟨_, rfl, acc, HW.out, by have := HA.out; omega, fun h => absurd h HX0.out⟩, HR.out, HO.out⟩
    · have hj1 : ¬ (j : Int) < (n : Int) := by omega
      have e0 : n - j = 0 := by omega
      have HF : Hid (s' = sR ∧ (sR.2 = 0 → acc = R)) := by
        by_cases h0 : s'.2 = 0
        · have h3 := HM.out h0
          rw [e0] at h3
          simp only [takeL, Prod.mk.injEq] at h3
          exact ⟨h3.2, fun _ => h3.1⟩
        · have h3 := HN.out h0
          exact ⟨h3, fun h => absurd (h3 ▸ h) h0⟩
      clear e0
      go_wp2_with fail
      go_ret
      obtain ⟨e, hf⟩ := HF.out
      subst e
      exact ⟨⟨_, rfl, acc, HW.out, by have := HA.out; omega, hf⟩, HR.out, HO.out⟩
end Go.Proofs.YtfjmidcldjfckaaGreatDoor

namespace Go.Proofs.YtfjmidcldjfckaaGreatDoor
open Go.RowKit

/-- A record in block b whose cells may be written. -/
structure Fb (w : World) (b : Nat) (r : Rc) (L : Loc) : Prop where
  bx : Bx w b r L
  fz : ∀ i, i < 16 → w.frozen? ⟨b, i, none⟩ = false
theorem Fb.kept {S : Nat → Prop} {w w' : World} {b : Nat} {r : Rc} {L : Loc} (h : Fb w b r L) (ho : Only S w w') (hS : ¬ S b) : Fb w' b r L :=
  ⟨h.bx.kept ho hS, fun i hi => (ho.frozen (p := ⟨b, i, none⟩) h.bx.lt hS).trans (h.fz i hi)⟩
theorem Fb.set_lsn {w : World} {b : Nat} {r : Rc} {L : Loc} (h : Fb w b r L) (z : Int) : Fb (w.setCell ⟨b, 0, none⟩ (.int .i64 z)) b { r with lsn := z } L :=
  ⟨⟨World.cell?_setCell_same _ _ _ h.bx.c0, (World.cell?_setCell_other _ _ _ _ (by simp)).trans h.bx.c1, (World.cell?_setCell_other _ _ _ _ (by simp)).trans h.bx.c2, (World.cell?_setCell_other _ _ _ _ (by simp)).trans h.bx.c3, (World.cell?_setCell_other _ _ _ _ (by simp)).trans h.bx.c4, (World.cell?_setCell_other _ _ _ _ (by simp)).trans h.bx.c5, (World.cell?_setCell_other _ _ _ _ (by simp)).trans h.bx.c6, (World.cell?_setCell_other _ _ _ _ (by simp)).trans h.bx.c7, (World.cell?_setCell_other _ _ _ _ (by simp)).trans h.bx.c8, (World.cell?_setCell_other _ _ _ _ (by simp)).trans h.bx.c9, (World.cell?_setCell_other _ _ _ _ (by simp)).trans h.bx.c10, (World.cell?_setCell_other _ _ _ _ (by simp)).trans h.bx.c11, (World.cell?_setCell_other _ _ _ _ (by simp)).trans h.bx.c12, (World.cell?_setCell_other _ _ _ _ (by simp)).trans h.bx.c13, (World.cell?_setCell_other _ _ _ _ (by simp)).trans h.bx.c14, (World.cell?_setCell_other _ _ _ _ (by simp)).trans h.bx.c15, by simpa using h.bx.lt⟩, fun k hk => by simpa using h.fz k hk⟩
theorem Fb.set_prev {w : World} {b : Nat} {r : Rc} {L : Loc} (h : Fb w b r L) (z : Int) : Fb (w.setCell ⟨b, 1, none⟩ (.int .i64 z)) b { r with prev := z } L :=
  ⟨⟨(World.cell?_setCell_other _ _ _ _ (by simp)).trans h.bx.c0, World.cell?_setCell_same _ _ _ h.bx.c1, (World.cell?_setCell_other _ _ _ _ (by simp)).trans h.bx.c2, (World.cell?_setCell_other _ _ _ _ (by simp)).trans h.bx.c3, (World.cell?_setCell_other _ _ _ _ (by simp)).trans h.bx.c4, (World.cell?_setCell_other _ _ _ _ (by simp)).trans h.bx.c5, (World.cell?_setCell_other _ _ _ _ (by simp)).trans h.bx.c6, (World.cell?_setCell_other _ _ _ _ (by simp)).trans h.bx.c7, (World.cell?_setCell_other _ _ _ _ (by simp)).trans h.bx.c8, (World.cell?_setCell_other _ _ _ _ (by simp)).trans h.bx.c9, (World.cell?_setCell_other _ _ _ _ (by simp)).trans h.bx.c10, (World.cell?_setCell_other _ _ _ _ (by simp)).trans h.bx.c11, (World.cell?_setCell_other _ _ _ _ (by simp)).trans h.bx.c12, (World.cell?_setCell_other _ _ _ _ (by simp)).trans h.bx.c13, (World.cell?_setCell_other _ _ _ _ (by simp)).trans h.bx.c14, (World.cell?_setCell_other _ _ _ _ (by simp)).trans h.bx.c15, by simpa using h.bx.lt⟩, fun k hk => by simpa using h.fz k hk⟩
theorem Fb.set_next {w : World} {b : Nat} {r : Rc} {L : Loc} (h : Fb w b r L) (z : Int) : Fb (w.setCell ⟨b, 2, none⟩ (.int .i64 z)) b { r with next := z } L :=
  ⟨⟨(World.cell?_setCell_other _ _ _ _ (by simp)).trans h.bx.c0, (World.cell?_setCell_other _ _ _ _ (by simp)).trans h.bx.c1, World.cell?_setCell_same _ _ _ h.bx.c2, (World.cell?_setCell_other _ _ _ _ (by simp)).trans h.bx.c3, (World.cell?_setCell_other _ _ _ _ (by simp)).trans h.bx.c4, (World.cell?_setCell_other _ _ _ _ (by simp)).trans h.bx.c5, (World.cell?_setCell_other _ _ _ _ (by simp)).trans h.bx.c6, (World.cell?_setCell_other _ _ _ _ (by simp)).trans h.bx.c7, (World.cell?_setCell_other _ _ _ _ (by simp)).trans h.bx.c8, (World.cell?_setCell_other _ _ _ _ (by simp)).trans h.bx.c9, (World.cell?_setCell_other _ _ _ _ (by simp)).trans h.bx.c10, (World.cell?_setCell_other _ _ _ _ (by simp)).trans h.bx.c11, (World.cell?_setCell_other _ _ _ _ (by simp)).trans h.bx.c12, (World.cell?_setCell_other _ _ _ _ (by simp)).trans h.bx.c13, (World.cell?_setCell_other _ _ _ _ (by simp)).trans h.bx.c14, (World.cell?_setCell_other _ _ _ _ (by simp)).trans h.bx.c15, by simpa using h.bx.lt⟩, fun k hk => by simpa using h.fz k hk⟩
theorem Fb.set_kind {w : World} {b : Nat} {r : Rc} {L : Loc} (h : Fb w b r L) (z : Int) : Fb (w.setCell ⟨b, 3, none⟩ (.int .u8 z)) b { r with kind := z } L :=
  ⟨⟨(World.cell?_setCell_other _ _ _ _ (by simp)).trans h.bx.c0, (World.cell?_setCell_other _ _ _ _ (by simp)).trans h.bx.c1, (World.cell?_setCell_other _ _ _ _ (by simp)).trans h.bx.c2, World.cell?_setCell_same _ _ _ h.bx.c3, (World.cell?_setCell_other _ _ _ _ (by simp)).trans h.bx.c4, (World.cell?_setCell_other _ _ _ _ (by simp)).trans h.bx.c5, (World.cell?_setCell_other _ _ _ _ (by simp)).trans h.bx.c6, (World.cell?_setCell_other _ _ _ _ (by simp)).trans h.bx.c7, (World.cell?_setCell_other _ _ _ _ (by simp)).trans h.bx.c8, (World.cell?_setCell_other _ _ _ _ (by simp)).trans h.bx.c9, (World.cell?_setCell_other _ _ _ _ (by simp)).trans h.bx.c10, (World.cell?_setCell_other _ _ _ _ (by simp)).trans h.bx.c11, (World.cell?_setCell_other _ _ _ _ (by simp)).trans h.bx.c12, (World.cell?_setCell_other _ _ _ _ (by simp)).trans h.bx.c13, (World.cell?_setCell_other _ _ _ _ (by simp)).trans h.bx.c14, (World.cell?_setCell_other _ _ _ _ (by simp)).trans h.bx.c15, by simpa using h.bx.lt⟩, fun k hk => by simpa using h.fz k hk⟩
theorem Fb.set_xid {w : World} {b : Nat} {r : Rc} {L : Loc} (h : Fb w b r L) (z : Int) : Fb (w.setCell ⟨b, 4, none⟩ (.int .i64 z)) b { r with xid := z } L :=
  ⟨⟨(World.cell?_setCell_other _ _ _ _ (by simp)).trans h.bx.c0, (World.cell?_setCell_other _ _ _ _ (by simp)).trans h.bx.c1, (World.cell?_setCell_other _ _ _ _ (by simp)).trans h.bx.c2, (World.cell?_setCell_other _ _ _ _ (by simp)).trans h.bx.c3, World.cell?_setCell_same _ _ _ h.bx.c4, (World.cell?_setCell_other _ _ _ _ (by simp)).trans h.bx.c5, (World.cell?_setCell_other _ _ _ _ (by simp)).trans h.bx.c6, (World.cell?_setCell_other _ _ _ _ (by simp)).trans h.bx.c7, (World.cell?_setCell_other _ _ _ _ (by simp)).trans h.bx.c8, (World.cell?_setCell_other _ _ _ _ (by simp)).trans h.bx.c9, (World.cell?_setCell_other _ _ _ _ (by simp)).trans h.bx.c10, (World.cell?_setCell_other _ _ _ _ (by simp)).trans h.bx.c11, (World.cell?_setCell_other _ _ _ _ (by simp)).trans h.bx.c12, (World.cell?_setCell_other _ _ _ _ (by simp)).trans h.bx.c13, (World.cell?_setCell_other _ _ _ _ (by simp)).trans h.bx.c14, (World.cell?_setCell_other _ _ _ _ (by simp)).trans h.bx.c15, by simpa using h.bx.lt⟩, fun k hk => by simpa using h.fz k hk⟩
theorem Fb.set_page {w : World} {b : Nat} {r : Rc} {L : Loc} (h : Fb w b r L) (z : Int) : Fb (w.setCell ⟨b, 5, none⟩ (.int .i64 z)) b { r with page := z } L :=
  ⟨⟨(World.cell?_setCell_other _ _ _ _ (by simp)).trans h.bx.c0, (World.cell?_setCell_other _ _ _ _ (by simp)).trans h.bx.c1, (World.cell?_setCell_other _ _ _ _ (by simp)).trans h.bx.c2, (World.cell?_setCell_other _ _ _ _ (by simp)).trans h.bx.c3, (World.cell?_setCell_other _ _ _ _ (by simp)).trans h.bx.c4, World.cell?_setCell_same _ _ _ h.bx.c5, (World.cell?_setCell_other _ _ _ _ (by simp)).trans h.bx.c6, (World.cell?_setCell_other _ _ _ _ (by simp)).trans h.bx.c7, (World.cell?_setCell_other _ _ _ _ (by simp)).trans h.bx.c8, (World.cell?_setCell_other _ _ _ _ (by simp)).trans h.bx.c9, (World.cell?_setCell_other _ _ _ _ (by simp)).trans h.bx.c10, (World.cell?_setCell_other _ _ _ _ (by simp)).trans h.bx.c11, (World.cell?_setCell_other _ _ _ _ (by simp)).trans h.bx.c12, (World.cell?_setCell_other _ _ _ _ (by simp)).trans h.bx.c13, (World.cell?_setCell_other _ _ _ _ (by simp)).trans h.bx.c14, (World.cell?_setCell_other _ _ _ _ (by simp)).trans h.bx.c15, by simpa using h.bx.lt⟩, fun k hk => by simpa using h.fz k hk⟩
theorem Fb.set_slot {w : World} {b : Nat} {r : Rc} {L : Loc} (h : Fb w b r L) (z : Int) : Fb (w.setCell ⟨b, 6, none⟩ (.int .i64 z)) b { r with slot := z } L :=
  ⟨⟨(World.cell?_setCell_other _ _ _ _ (by simp)).trans h.bx.c0, (World.cell?_setCell_other _ _ _ _ (by simp)).trans h.bx.c1, (World.cell?_setCell_other _ _ _ _ (by simp)).trans h.bx.c2, (World.cell?_setCell_other _ _ _ _ (by simp)).trans h.bx.c3, (World.cell?_setCell_other _ _ _ _ (by simp)).trans h.bx.c4, (World.cell?_setCell_other _ _ _ _ (by simp)).trans h.bx.c5, World.cell?_setCell_same _ _ _ h.bx.c6, (World.cell?_setCell_other _ _ _ _ (by simp)).trans h.bx.c7, (World.cell?_setCell_other _ _ _ _ (by simp)).trans h.bx.c8, (World.cell?_setCell_other _ _ _ _ (by simp)).trans h.bx.c9, (World.cell?_setCell_other _ _ _ _ (by simp)).trans h.bx.c10, (World.cell?_setCell_other _ _ _ _ (by simp)).trans h.bx.c11, (World.cell?_setCell_other _ _ _ _ (by simp)).trans h.bx.c12, (World.cell?_setCell_other _ _ _ _ (by simp)).trans h.bx.c13, (World.cell?_setCell_other _ _ _ _ (by simp)).trans h.bx.c14, (World.cell?_setCell_other _ _ _ _ (by simp)).trans h.bx.c15, by simpa using h.bx.lt⟩, fun k hk => by simpa using h.fz k hk⟩
theorem Fb.set_old {w : World} {b : Nat} {r : Rc} {L : Loc} (h : Fb w b r L) (z : Int) : Fb (w.setCell ⟨b, 7, none⟩ (.int .i64 z)) b { r with old := z } L :=
  ⟨⟨(World.cell?_setCell_other _ _ _ _ (by simp)).trans h.bx.c0, (World.cell?_setCell_other _ _ _ _ (by simp)).trans h.bx.c1, (World.cell?_setCell_other _ _ _ _ (by simp)).trans h.bx.c2, (World.cell?_setCell_other _ _ _ _ (by simp)).trans h.bx.c3, (World.cell?_setCell_other _ _ _ _ (by simp)).trans h.bx.c4, (World.cell?_setCell_other _ _ _ _ (by simp)).trans h.bx.c5, (World.cell?_setCell_other _ _ _ _ (by simp)).trans h.bx.c6, World.cell?_setCell_same _ _ _ h.bx.c7, (World.cell?_setCell_other _ _ _ _ (by simp)).trans h.bx.c8, (World.cell?_setCell_other _ _ _ _ (by simp)).trans h.bx.c9, (World.cell?_setCell_other _ _ _ _ (by simp)).trans h.bx.c10, (World.cell?_setCell_other _ _ _ _ (by simp)).trans h.bx.c11, (World.cell?_setCell_other _ _ _ _ (by simp)).trans h.bx.c12, (World.cell?_setCell_other _ _ _ _ (by simp)).trans h.bx.c13, (World.cell?_setCell_other _ _ _ _ (by simp)).trans h.bx.c14, (World.cell?_setCell_other _ _ _ _ (by simp)).trans h.bx.c15, by simpa using h.bx.lt⟩, fun k hk => by simpa using h.fz k hk⟩
theorem Fb.set_new {w : World} {b : Nat} {r : Rc} {L : Loc} (h : Fb w b r L) (z : Int) : Fb (w.setCell ⟨b, 8, none⟩ (.int .i64 z)) b { r with new := z } L :=
  ⟨⟨(World.cell?_setCell_other _ _ _ _ (by simp)).trans h.bx.c0, (World.cell?_setCell_other _ _ _ _ (by simp)).trans h.bx.c1, (World.cell?_setCell_other _ _ _ _ (by simp)).trans h.bx.c2, (World.cell?_setCell_other _ _ _ _ (by simp)).trans h.bx.c3, (World.cell?_setCell_other _ _ _ _ (by simp)).trans h.bx.c4, (World.cell?_setCell_other _ _ _ _ (by simp)).trans h.bx.c5, (World.cell?_setCell_other _ _ _ _ (by simp)).trans h.bx.c6, (World.cell?_setCell_other _ _ _ _ (by simp)).trans h.bx.c7, World.cell?_setCell_same _ _ _ h.bx.c8, (World.cell?_setCell_other _ _ _ _ (by simp)).trans h.bx.c9, (World.cell?_setCell_other _ _ _ _ (by simp)).trans h.bx.c10, (World.cell?_setCell_other _ _ _ _ (by simp)).trans h.bx.c11, (World.cell?_setCell_other _ _ _ _ (by simp)).trans h.bx.c12, (World.cell?_setCell_other _ _ _ _ (by simp)).trans h.bx.c13, (World.cell?_setCell_other _ _ _ _ (by simp)).trans h.bx.c14, (World.cell?_setCell_other _ _ _ _ (by simp)).trans h.bx.c15, by simpa using h.bx.lt⟩, fun k hk => by simpa using h.fz k hk⟩
theorem Fb.set_redo {w : World} {b : Nat} {r : Rc} {L : Loc} (h : Fb w b r L) (z : Int) : Fb (w.setCell ⟨b, 9, none⟩ (.int .i64 z)) b { r with redo := z } L :=
  ⟨⟨(World.cell?_setCell_other _ _ _ _ (by simp)).trans h.bx.c0, (World.cell?_setCell_other _ _ _ _ (by simp)).trans h.bx.c1, (World.cell?_setCell_other _ _ _ _ (by simp)).trans h.bx.c2, (World.cell?_setCell_other _ _ _ _ (by simp)).trans h.bx.c3, (World.cell?_setCell_other _ _ _ _ (by simp)).trans h.bx.c4, (World.cell?_setCell_other _ _ _ _ (by simp)).trans h.bx.c5, (World.cell?_setCell_other _ _ _ _ (by simp)).trans h.bx.c6, (World.cell?_setCell_other _ _ _ _ (by simp)).trans h.bx.c7, (World.cell?_setCell_other _ _ _ _ (by simp)).trans h.bx.c8, World.cell?_setCell_same _ _ _ h.bx.c9, (World.cell?_setCell_other _ _ _ _ (by simp)).trans h.bx.c10, (World.cell?_setCell_other _ _ _ _ (by simp)).trans h.bx.c11, (World.cell?_setCell_other _ _ _ _ (by simp)).trans h.bx.c12, (World.cell?_setCell_other _ _ _ _ (by simp)).trans h.bx.c13, (World.cell?_setCell_other _ _ _ _ (by simp)).trans h.bx.c14, (World.cell?_setCell_other _ _ _ _ (by simp)).trans h.bx.c15, by simpa using h.bx.lt⟩, fun k hk => by simpa using h.fz k hk⟩
theorem Fb.set_data {w : World} {b : Nat} {r : Rc} {L : Loc} (h : Fb w b r L) (z : ByteArray) : Fb (w.setCell ⟨b, 10, none⟩ (.string z)) b { r with data := z } L :=
  ⟨⟨(World.cell?_setCell_other _ _ _ _ (by simp)).trans h.bx.c0, (World.cell?_setCell_other _ _ _ _ (by simp)).trans h.bx.c1, (World.cell?_setCell_other _ _ _ _ (by simp)).trans h.bx.c2, (World.cell?_setCell_other _ _ _ _ (by simp)).trans h.bx.c3, (World.cell?_setCell_other _ _ _ _ (by simp)).trans h.bx.c4, (World.cell?_setCell_other _ _ _ _ (by simp)).trans h.bx.c5, (World.cell?_setCell_other _ _ _ _ (by simp)).trans h.bx.c6, (World.cell?_setCell_other _ _ _ _ (by simp)).trans h.bx.c7, (World.cell?_setCell_other _ _ _ _ (by simp)).trans h.bx.c8, (World.cell?_setCell_other _ _ _ _ (by simp)).trans h.bx.c9, World.cell?_setCell_same _ _ _ h.bx.c10, (World.cell?_setCell_other _ _ _ _ (by simp)).trans h.bx.c11, (World.cell?_setCell_other _ _ _ _ (by simp)).trans h.bx.c12, (World.cell?_setCell_other _ _ _ _ (by simp)).trans h.bx.c13, (World.cell?_setCell_other _ _ _ _ (by simp)).trans h.bx.c14, (World.cell?_setCell_other _ _ _ _ (by simp)).trans h.bx.c15, by simpa using h.bx.lt⟩, fun k hk => by simpa using h.fz k hk⟩
theorem Fb.set_slots {w : World} {b : Nat} {r : Rc} {L : Loc} (h : Fb w b r L) (l : List Int) (B cp : Nat) (ao : Option Addr) : Fb (w.setCell ⟨b, 11, none⟩ (.slice ao l.length cp)) b { r with slots := l } { L with a1 := ao, c1 := cp, b1 := B } :=
  ⟨⟨(World.cell?_setCell_other _ _ _ _ (by simp)).trans h.bx.c0, (World.cell?_setCell_other _ _ _ _ (by simp)).trans h.bx.c1, (World.cell?_setCell_other _ _ _ _ (by simp)).trans h.bx.c2, (World.cell?_setCell_other _ _ _ _ (by simp)).trans h.bx.c3, (World.cell?_setCell_other _ _ _ _ (by simp)).trans h.bx.c4, (World.cell?_setCell_other _ _ _ _ (by simp)).trans h.bx.c5, (World.cell?_setCell_other _ _ _ _ (by simp)).trans h.bx.c6, (World.cell?_setCell_other _ _ _ _ (by simp)).trans h.bx.c7, (World.cell?_setCell_other _ _ _ _ (by simp)).trans h.bx.c8, (World.cell?_setCell_other _ _ _ _ (by simp)).trans h.bx.c9, (World.cell?_setCell_other _ _ _ _ (by simp)).trans h.bx.c10, World.cell?_setCell_same _ _ _ h.bx.c11, (World.cell?_setCell_other _ _ _ _ (by simp)).trans h.bx.c12, (World.cell?_setCell_other _ _ _ _ (by simp)).trans h.bx.c13, (World.cell?_setCell_other _ _ _ _ (by simp)).trans h.bx.c14, (World.cell?_setCell_other _ _ _ _ (by simp)).trans h.bx.c15, by simpa using h.bx.lt⟩, fun k hk => by simpa using h.fz k hk⟩
theorem Fb.set_more {w : World} {b : Nat} {r : Rc} {L : Loc} (h : Fb w b r L) (l : List Int) (B cp : Nat) (ao : Option Addr) : Fb (w.setCell ⟨b, 12, none⟩ (.slice ao l.length cp)) b { r with more := l } { L with a2 := ao, c2 := cp, b2 := B } :=
  ⟨⟨(World.cell?_setCell_other _ _ _ _ (by simp)).trans h.bx.c0, (World.cell?_setCell_other _ _ _ _ (by simp)).trans h.bx.c1, (World.cell?_setCell_other _ _ _ _ (by simp)).trans h.bx.c2, (World.cell?_setCell_other _ _ _ _ (by simp)).trans h.bx.c3, (World.cell?_setCell_other _ _ _ _ (by simp)).trans h.bx.c4, (World.cell?_setCell_other _ _ _ _ (by simp)).trans h.bx.c5, (World.cell?_setCell_other _ _ _ _ (by simp)).trans h.bx.c6, (World.cell?_setCell_other _ _ _ _ (by simp)).trans h.bx.c7, (World.cell?_setCell_other _ _ _ _ (by simp)).trans h.bx.c8, (World.cell?_setCell_other _ _ _ _ (by simp)).trans h.bx.c9, (World.cell?_setCell_other _ _ _ _ (by simp)).trans h.bx.c10, (World.cell?_setCell_other _ _ _ _ (by simp)).trans h.bx.c11, World.cell?_setCell_same _ _ _ h.bx.c12, (World.cell?_setCell_other _ _ _ _ (by simp)).trans h.bx.c13, (World.cell?_setCell_other _ _ _ _ (by simp)).trans h.bx.c14, (World.cell?_setCell_other _ _ _ _ (by simp)).trans h.bx.c15, by simpa using h.bx.lt⟩, fun k hk => by simpa using h.fz k hk⟩
theorem Fb.set_images {w : World} {b : Nat} {r : Rc} {L : Loc} (h : Fb w b r L) (l : List Im) (B cp : Nat) (ao : Option Addr) : Fb (w.setCell ⟨b, 13, none⟩ (.slice ao l.length cp)) b { r with images := l } { L with a3 := ao, c3 := cp, b3 := B } :=
  ⟨⟨(World.cell?_setCell_other _ _ _ _ (by simp)).trans h.bx.c0, (World.cell?_setCell_other _ _ _ _ (by simp)).trans h.bx.c1, (World.cell?_setCell_other _ _ _ _ (by simp)).trans h.bx.c2, (World.cell?_setCell_other _ _ _ _ (by simp)).trans h.bx.c3, (World.cell?_setCell_other _ _ _ _ (by simp)).trans h.bx.c4, (World.cell?_setCell_other _ _ _ _ (by simp)).trans h.bx.c5, (World.cell?_setCell_other _ _ _ _ (by simp)).trans h.bx.c6, (World.cell?_setCell_other _ _ _ _ (by simp)).trans h.bx.c7, (World.cell?_setCell_other _ _ _ _ (by simp)).trans h.bx.c8, (World.cell?_setCell_other _ _ _ _ (by simp)).trans h.bx.c9, (World.cell?_setCell_other _ _ _ _ (by simp)).trans h.bx.c10, (World.cell?_setCell_other _ _ _ _ (by simp)).trans h.bx.c11, (World.cell?_setCell_other _ _ _ _ (by simp)).trans h.bx.c12, World.cell?_setCell_same _ _ _ h.bx.c13, (World.cell?_setCell_other _ _ _ _ (by simp)).trans h.bx.c14, (World.cell?_setCell_other _ _ _ _ (by simp)).trans h.bx.c15, by simpa using h.bx.lt⟩, fun k hk => by simpa using h.fz k hk⟩
theorem Fb.set_pages {w : World} {b : Nat} {r : Rc} {L : Loc} (h : Fb w b r L) (l : List (Int × Int)) (B cp : Nat) (ao : Option Addr) : Fb (w.setCell ⟨b, 14, none⟩ (.slice ao l.length cp)) b { r with pages := l } { L with a4 := ao, c4 := cp, b4 := B } :=
  ⟨⟨(World.cell?_setCell_other _ _ _ _ (by simp)).trans h.bx.c0, (World.cell?_setCell_other _ _ _ _ (by simp)).trans h.bx.c1, (World.cell?_setCell_other _ _ _ _ (by simp)).trans h.bx.c2, (World.cell?_setCell_other _ _ _ _ (by simp)).trans h.bx.c3, (World.cell?_setCell_other _ _ _ _ (by simp)).trans h.bx.c4, (World.cell?_setCell_other _ _ _ _ (by simp)).trans h.bx.c5, (World.cell?_setCell_other _ _ _ _ (by simp)).trans h.bx.c6, (World.cell?_setCell_other _ _ _ _ (by simp)).trans h.bx.c7, (World.cell?_setCell_other _ _ _ _ (by simp)).trans h.bx.c8, (World.cell?_setCell_other _ _ _ _ (by simp)).trans h.bx.c9, (World.cell?_setCell_other _ _ _ _ (by simp)).trans h.bx.c10, (World.cell?_setCell_other _ _ _ _ (by simp)).trans h.bx.c11, (World.cell?_setCell_other _ _ _ _ (by simp)).trans h.bx.c12, (World.cell?_setCell_other _ _ _ _ (by simp)).trans h.bx.c13, World.cell?_setCell_same _ _ _ h.bx.c14, (World.cell?_setCell_other _ _ _ _ (by simp)).trans h.bx.c15, by simpa using h.bx.lt⟩, fun k hk => by simpa using h.fz k hk⟩
theorem Fb.set_txns {w : World} {b : Nat} {r : Rc} {L : Loc} (h : Fb w b r L) (l : List (Int × Int)) (B cp : Nat) (ao : Option Addr) : Fb (w.setCell ⟨b, 15, none⟩ (.slice ao l.length cp)) b { r with txns := l } { L with a5 := ao, c5 := cp, b5 := B } :=
  ⟨⟨(World.cell?_setCell_other _ _ _ _ (by simp)).trans h.bx.c0, (World.cell?_setCell_other _ _ _ _ (by simp)).trans h.bx.c1, (World.cell?_setCell_other _ _ _ _ (by simp)).trans h.bx.c2, (World.cell?_setCell_other _ _ _ _ (by simp)).trans h.bx.c3, (World.cell?_setCell_other _ _ _ _ (by simp)).trans h.bx.c4, (World.cell?_setCell_other _ _ _ _ (by simp)).trans h.bx.c5, (World.cell?_setCell_other _ _ _ _ (by simp)).trans h.bx.c6, (World.cell?_setCell_other _ _ _ _ (by simp)).trans h.bx.c7, (World.cell?_setCell_other _ _ _ _ (by simp)).trans h.bx.c8, (World.cell?_setCell_other _ _ _ _ (by simp)).trans h.bx.c9, (World.cell?_setCell_other _ _ _ _ (by simp)).trans h.bx.c10, (World.cell?_setCell_other _ _ _ _ (by simp)).trans h.bx.c11, (World.cell?_setCell_other _ _ _ _ (by simp)).trans h.bx.c12, (World.cell?_setCell_other _ _ _ _ (by simp)).trans h.bx.c13, (World.cell?_setCell_other _ _ _ _ (by simp)).trans h.bx.c14, World.cell?_setCell_same _ _ _ h.bx.c15, by simpa using h.bx.lt⟩, fun k hk => by simpa using h.fz k hk⟩
end Go.Proofs.YtfjmidcldjfckaaGreatDoor

namespace Go.Proofs.YtfjmidcldjfckaaGreatDoor
open Go.RowKit

/-- What stands behind the two lists of numbers. -/
def Rc.rem13 (R : Rc) : List UInt8 := sev R.images.length ++ ((R.images.map imL).flatten ++ (sev R.pages.length ++ ((R.pages.map prL).flatten ++ (sev R.txns.length ++ ((R.txns.map prL).flatten ++ [])))))
/-- What stands behind the images. -/
def Rc.rem14 (R : Rc) : List UInt8 := sev R.pages.length ++ ((R.pages.map prL).flatten ++ (sev R.txns.length ++ ((R.txns.map prL).flatten ++ [])))
def Rc.rem15 (R : Rc) : List UInt8 := sev R.txns.length ++ ((R.txns.map prL).flatten ++ [])
theorem pair_eq {α : Type} {x x' : α} {u u' : St} {p : α × St} (h1 : p = (x, u)) (h2 : p = (x', u')) : x' = x ∧ u' = u := by rw [h1] at h2; simp at h2; exact ⟨h2.1.symm, h2.2.symm⟩
theorem taken_head (R : Rc) (hv : R.valid) {t : ByteArray} (ht : R.lay = bl t) {z0 z1 z2 z3 z4 z5 z6 z7 z8 z9 : Int} {d : List UInt8} {x11 x12 l11 l12 : List Int} {s1 s2 s3 s4 s5 s6 s7 s8 s9 s10 s11 s12 s13 : St}
    (E0 : rN top (bl t, 0) = (z0, s1)) (E1 : rN top s1 = (z1, s2)) (E2 : rN top s2 = (z2, s3)) (E3 : rN 13 s3 = (z3, s4)) (E4 : rN top s4 = (z4, s5)) (E5 : rN top s5 = (z5, s6)) (E6 : rN top s6 = (z6, s7)) (E7 : rN top s7 = (z7, s8)) (E8 : rN top s8 = (z8, s9)) (E9 : rN top s9 = (z9, s10))
    (E10 : rT 512 s10 = (d, s11)) (E11 : rL (rN top) 255 s11 = (x11, s12)) (H11 : s12.2 = 0 → l11 = x11) (E12 : rL (rN top) 255 s12 = (x12, s13)) (H12 : s13.2 = 0 → l12 = x12) :
    (z0 = R.lsn ∧ z1 = R.prev ∧ z2 = R.next ∧ z3 = R.kind ∧ z4 = R.xid ∧ z5 = R.page ∧ z6 = R.slot ∧ z7 = R.old ∧ z8 = R.new ∧ z9 = R.redo) ∧ str d = R.data ∧ l11 = R.slots ∧ l12 = R.more ∧ s13 = (R.rem13, 0) := by
  obtain ⟨k0, k1, hr, hs, hi, hlen⟩ := hv
  have ten := hr.ten
  simp only [List.mem_cons, List.not_mem_nil, or_false, forall_eq_or_imp, forall_eq] at ten
  obtain ⟨t0, t1, t2, t3, t4, t5, t6, t7, t8⟩ := ten
  have st : ∀ (z n : Int) (rest : List UInt8), 0 ≤ n → n ≤ z → z ≤ top → rN z (sev n.toNat ++ rest, 0) = (n, (rest, 0)) := fun z n rest h0 h1 h2 => rN_lay z n rest h0 h1 (by unfold top at h2; omega)
  have top_ := Int.le_refl top
  have hd := hs.data
  have hsl := hs.slots
  have hml := hs.more
  have one : ∀ n, mb n → ∀ t, rN top ((fun z : Int => sev z.toNat) n ++ t, 0) = (n, (t, 0)) := fun n hn t => st top n t hn.1 hn.2 top_
  have h13 := rL_laid (rN top) (fun z : Int => sev z.toNat) 255 R.more R.rem13 (by omega) (by omega) (fun n hn t => one n (hr.more n hn) t)
  have h12 := rL_laid (rN top) (fun z : Int => sev z.toNat) 255 R.slots (sev R.more.length ++ ((R.more.map fun z : Int => sev z.toNat).flatten ++ R.rem13)) (by omega) (by omega) (fun n hn t => one n (hr.slots n hn) t)
  have h11 := rT_lay 512 (bl R.data) (sev R.slots.length ++ ((R.slots.map fun z : Int => sev z.toNat).flatten ++ (sev R.more.length ++ ((R.more.map fun z : Int => sev z.toNat).flatten ++ R.rem13)))) (by rw [bl_len]; omega) (by rw [bl_len]; omega)
  rw [bl_len] at h11
  have key : R.lay = sev R.lsn.toNat ++ (sev R.prev.toNat ++ (sev R.next.toNat ++ (sev R.kind.toNat ++ (sev R.xid.toNat ++ (sev R.page.toNat ++ (sev R.slot.toNat ++ (sev R.old.toNat ++ (sev R.new.toNat ++ (sev R.redo.toNat ++ ((sev R.data.size ++ bl R.data) ++ (sev R.slots.length ++ ((R.slots.map fun z : Int => sev z.toNat).flatten ++ (sev R.more.length ++ ((R.more.map fun z : Int => sev z.toNat).flatten ++ R.rem13)))))))))))))) := by
    unfold Rc.lay textL Rc.rem13
    simp only [nums_cons, nums_nil, List.append_assoc, List.append_nil]
    simp only [nums_map]
  rw [← ht, key] at E0
  obtain ⟨e0, rfl⟩ := pair_eq (st top _ _ t0.1 t0.2 top_) E0
  obtain ⟨e1, rfl⟩ := pair_eq (st top _ _ t1.1 t1.2 top_) E1
  obtain ⟨e2, rfl⟩ := pair_eq (st top _ _ t2.1 t2.2 top_) E2
  obtain ⟨e3, rfl⟩ := pair_eq (st 13 _ _ (by omega) k1 (by decide)) E3
  obtain ⟨e4, rfl⟩ := pair_eq (st top _ _ t4.1 t4.2 top_) E4
  obtain ⟨e5, rfl⟩ := pair_eq (st top _ _ t5.1 t5.2 top_) E5
  obtain ⟨e6, rfl⟩ := pair_eq (st top _ _ t6.1 t6.2 top_) E6
  obtain ⟨e7, rfl⟩ := pair_eq (st top _ _ t7.1 t7.2 top_) E7
  obtain ⟨e8, rfl⟩ := pair_eq (st top _ _ t8.1 t8.2 top_) E8
  obtain ⟨e9, rfl⟩ := pair_eq (st top _ _ t3.1 t3.2 top_) E9
  obtain ⟨e10, rfl⟩ := pair_eq h11 E10
  obtain ⟨e11, rfl⟩ := pair_eq h12 E11
  obtain ⟨e12, rfl⟩ := pair_eq h13 E12
  exact ⟨⟨e0, e1, e2, e3, e4, e5, e6, e7, e8, e9⟩, by rw [e10]; exact str_bl R.data, by rw [H11 rfl, e11], by rw [H12 rfl, e12], rfl⟩
/-- How many. -/
theorem many_head {most : Int} {k : Nat} {rest : List UInt8} {s s' : St} {z : Int} (hk : (k : Int) ≤ most) (hm : most ≤ 65535) (hs : s = (sev k ++ rest, 0)) (h : rN most s = (z, s')) : z = (k : Int) ∧ s' = (rest, 0) := by
  have h1 := rN_lay most (k : Int) rest (by omega) hk (by omega)
  rw [Int.toNat_natCast, ← hs] at h1
  exact pair_eq h1 h
theorem drop_flat {α : Type} (f : α → List UInt8) (l : List α) (j : Nat) (hj : j < l.length) (rest : List UInt8) : ((l.drop j).map f).flatten ++ rest = f l[j] ++ (((l.drop (j + 1)).map f).flatten ++ rest) := by
  rw [List.drop_eq_getElem_cons hj, List.map_cons, List.flatten_cons, List.append_assoc]
theorem imL_app (i : Im) (X : List UInt8) : imL i ++ X = sev i.page.toNat ++ ((sev (bare i.body.enc).length ++ bare i.body.enc) ++ X) := by unfold imL; rw [List.append_assoc]
theorem prL_app (p : Int × Int) (X : List UInt8) : prL p ++ X = sev p.1.toNat ++ (sev p.2.toNat ++ X) := by unfold prL; rw [List.append_assoc]
/-- An image's page and text. -/
theorem im_one (i : Im) (hb : i.body.valid) (hp : mb i.page) {X : List UInt8} {s s2 s3 : St} {z : Int} {d : List UInt8} (hs : s = (imL i ++ X, 0)) (h1 : rN top s = (z, s2)) (h2 : rT 512 s2 = (d, s3)) :
    z = i.page ∧ s3 = (X, 0) ∧ dec (d ++ List.replicate (512 - d.length) 0) = (i.body, 0) := by
  have hen := enc_len i.body hb.fit.2.2
  have hbl := bare_len i.body.enc
  have hpd := bare_pad i.body.enc
  rw [hen] at hbl hpd
  unfold mb top at hp
  rw [imL_app] at hs
  have g1 := rN_lay top i.page ((sev (bare i.body.enc).length ++ bare i.body.enc) ++ X) hp.1 hp.2 (by omega)
  have g2 := rT_lay 512 (bare i.body.enc) X (by omega) (by omega)
  rw [hs] at h1
  obtain ⟨e1, rfl⟩ := pair_eq g1 h1
  obtain ⟨e2, rfl⟩ := pair_eq g2 h2
  refine ⟨e1, rfl, ?_⟩
  rw [e2, hpd, dec_enc i.body hb]
theorem im_head (R : Rc) (hv : R.valid) (hl : ∀ i ∈ R.images, i.body.lsn < 9223372036854775808) {j : Nat} (hj : j < R.images.length) {rest : List UInt8} {s s2 s3 : St} {z : Int} {d : List UInt8}
    (hs : s = (((R.images.drop j).map imL).flatten ++ rest, 0)) (h1 : rN top s = (z, s2)) (h2 : rT 512 s2 = (d, s3)) :
    z = R.images[j].page ∧ s3 = (((R.images.drop (j + 1)).map imL).flatten ++ rest, 0) ∧ dec (d ++ List.replicate (512 - d.length) 0) = (R.images[j].body, 0) := by
  have hm := List.getElem_mem hj
  have ha := imErr_all hv.ims _ hm
  rw [drop_flat imL _ _ hj] at hs
  exact im_one R.images[j] ⟨ha.2.1, ha.2.2, hl _ hm⟩ (hv.rng.images _ hm) hs h1 h2
/-- A pair. -/
theorem pr_head (l : List (Int × Int)) (hm : ∀ p ∈ l, mb p.1 ∧ mb p.2) {j : Nat} (hj : j < l.length) {rest : List UInt8} {s s2 s3 : St} {z1 z2 : Int}
    (hs : s = (((l.drop j).map prL).flatten ++ rest, 0)) (h1 : rN top s = (z1, s2)) (h2 : rN top s2 = (z2, s3)) :
    (z1, z2) = l[j] ∧ s3 = (((l.drop (j + 1)).map prL).flatten ++ rest, 0) := by
  obtain ⟨m1, m2⟩ := hm _ (List.getElem_mem hj)
  unfold mb top at m1 m2
  rw [drop_flat prL _ _ hj, prL_app] at hs
  have g1 := rN_lay top l[j].1 (sev l[j].2.toNat ++ (((l.drop (j + 1)).map prL).flatten ++ rest)) m1.1 m1.2 (by omega)
  have g2 := rN_lay top l[j].2 (((l.drop (j + 1)).map prL).flatten ++ rest) m2.1 m2.2 (by omega)
  rw [hs] at h1
  obtain ⟨e1, rfl⟩ := pair_eq g1 h1
  obtain ⟨e2, rfl⟩ := pair_eq g2 h2
  exact ⟨Prod.ext e1 e2, rfl⟩
theorem take_more {α : Type} (l : List α) (j : Nat) (hj : j < l.length) : l.take j ++ [l[j]] = l.take (j + 1) := by rw [List.take_succ_eq_append_getElem hj]
theorem rN_zero {z : Int} {s s' : St} {n : Int} (h : rN z s = (n, s')) (h0 : s'.2 ≠ 0) : n = 0 := by
  unfold rN at h
  split at h
  · simp only [Prod.mk.injEq] at h
    rw [← h.2] at h0
    have h0' : (rdN z s.1).2.2 ≠ 0 := h0
    rw [← h.1]
    unfold rdN at h0' ⊢
    split
    · rename_i h1
      rw [if_pos h1] at h0'
      split
      · rfl
      · rename_i h2
        rw [if_neg h2] at h0'
        exact absurd rfl h0'
    · rfl
  · simp only [Prod.mk.injEq] at h
    exact h.1.symm
end Go.Proofs.YtfjmidcldjfckaaGreatDoor

namespace Go.Proofs.YtfjmidcldjfckaaGreatDoor
open Go.RowKit

theorem Ims.under {w : World} {T : Nat → Prop} {B : Nat} {ao : Option Addr} {l : List Im} (h : Ims w T B ao l) : Ims w (fun d => T d ∧ d < w.heap.size) B ao l :=
  ⟨fun h0 => by
    obtain ⟨o, e, hc⟩ := h.at_ h0
    refine ⟨o, e, fun j hj => ?_⟩
    obtain ⟨D, a, c, hi, hD⟩ := hc j hj
    exact ⟨D, a, c, hi, fun h1 => ⟨hD h1, hi.strs.lt h1⟩⟩, h.lt, h.len⟩
/-- A record's lists, in blocks from lo on. -/
structure Lst (W : World) (lo : Nat) (q : Rc) (L : Loc) : Prop where
  slots : Zs W L.b1 L.a1 q.slots
  more : Zs W L.b2 L.a2 q.more
  images : Ims W (fun d => lo ≤ d ∧ d < W.heap.size) L.b3 L.a3 q.images
  pages : Prs W L.b4 L.a4 q.pages
  txns : Prs W L.b5 L.a5 q.txns
  f1 : Fit L.a1 q.slots.length L.c1
  f2 : Fit L.a2 q.more.length L.c2
  g1 : 0 < q.slots.length → lo ≤ L.b1
  g2 : 0 < q.more.length → lo ≤ L.b2
  g3 : 0 < q.images.length → lo ≤ L.b3
  g4 : 0 < q.pages.length → lo ≤ L.b4
  g5 : 0 < q.txns.length → lo ≤ L.b5
  data : q.data.size ≤ 140737488355328
  kind : 0 ≤ q.kind ∧ q.kind ≤ 255
theorem Lst.kept {S : Nat → Prop} {W W' : World} {lo : Nat} {q : Rc} {L : Loc} (h : Lst W lo q L) (ho : Only S W W') (hS : ∀ k, lo ≤ k → k < W.heap.size → ¬ S k) : Lst W' lo q L :=
  ⟨h.slots.kept ho (fun h0 => hS _ (h.g1 h0) (h.slots.lt h0)), h.more.kept ho (fun h0 => hS _ (h.g2 h0) (h.more.lt h0)),
    (h.images.kept ho (fun h0 => hS _ (h.g3 h0) (h.images.lt h0)) (fun d hd => hS d hd.1 hd.2)).mono (fun _ hd => ⟨hd.1, Nat.lt_of_lt_of_le hd.2 ho.size⟩),
    h.pages.kept ho (fun h0 => hS _ (h.g4 h0) (h.pages.lt h0)), h.txns.kept ho (fun h0 => hS _ (h.g5 h0) (h.txns.lt h0)), h.f1, h.f2, h.g1, h.g2, h.g3, h.g4, h.g5, h.data, h.kind⟩
theorem Lst.at_ {W : World} {lo : Nat} {q : Rc} {L : Loc} (h : Lst W lo q L) : RcAt W q L := ⟨h.slots, h.more, ⟨_, h.images⟩, h.pages, h.txns, h.f1, h.f2, h.data, h.kind⟩
theorem Lst.set_images {W : World} {lo : Nat} {q : Rc} {L : Loc} (h : Lst W lo q L) {l : List Im} {B cp : Nat} {ao : Option Addr} (hi : Ims W (fun d => lo ≤ d) B ao l) (hB : 0 < l.length → lo ≤ B) : Lst W lo { q with images := l } { L with a3 := ao, c3 := cp, b3 := B } :=
  ⟨h.slots, h.more, hi.under, h.pages, h.txns, h.f1, h.f2, h.g1, h.g2, hB, h.g4, h.g5, h.data, h.kind⟩
theorem Lst.set_pages {W : World} {lo : Nat} {q : Rc} {L : Loc} (h : Lst W lo q L) {l : List (Int × Int)} {B cp : Nat} {ao : Option Addr} (hi : Prs W B ao l) (hB : 0 < l.length → lo ≤ B) : Lst W lo { q with pages := l } { L with a4 := ao, c4 := cp, b4 := B } :=
  ⟨h.slots, h.more, h.images, hi, h.txns, h.f1, h.f2, h.g1, h.g2, h.g3, hB, h.g5, h.data, h.kind⟩
theorem Lst.set_txns {W : World} {lo : Nat} {q : Rc} {L : Loc} (h : Lst W lo q L) {l : List (Int × Int)} {B cp : Nat} {ao : Option Addr} (hi : Prs W B ao l) (hB : 0 < l.length → lo ≤ B) : Lst W lo { q with txns := l } { L with a5 := ao, c5 := cp, b5 := B } :=
  ⟨h.slots, h.more, h.images, h.pages, hi, h.f1, h.f2, h.g1, h.g2, h.g3, h.g4, hB, h.data, h.kind⟩
theorem Lst.lower {W : World} {lo lo' : Nat} {q : Rc} {L : Loc} (h : Lst W lo q L) (hl : lo' ≤ lo) : Lst W lo' q L :=
  ⟨h.slots, h.more, h.images.mono (fun _ hd => ⟨Nat.le_trans hl hd.1, hd.2⟩), h.pages, h.txns, h.f1, h.f2, fun h0 => Nat.le_trans hl (h.g1 h0), fun h0 => Nat.le_trans hl (h.g2 h0), fun h0 => Nat.le_trans hl (h.g3 h0), fun h0 => Nat.le_trans hl (h.g4 h0), fun h0 => Nat.le_trans hl (h.g5 h0), h.data, h.kind⟩
theorem Lst.none (W : World) (lo : Nat) : Lst W lo Rc.none Loc.none :=
  ⟨Zs.nil _ _ _, Zs.nil _ _ _, Ims.nil _ _ _ _, Prs.nil _ _ _, Prs.nil _ _ _, ⟨fun _ => rfl, Nat.le_refl _, Nat.zero_le _⟩, ⟨fun _ => rfl, Nat.le_refl _, Nat.zero_le _⟩, fun h => absurd h (by decide), fun h => absurd h (by decide), fun h => absurd h (by decide), fun h => absurd h (by decide), fun h => absurd h (by decide), Nat.zero_le _, ⟨by decide, by decide⟩⟩
/-- What taken answers: a record in memory; where a record R laid the bytes, that one. -/
structure TkQ (w w' : World) (e : Ending) (R : Rc) (V : Prop) : Prop where
  ex : ∃ q L good, e = .returned (.tuple #[.agg (q.cells L), .bool good]) ∧ Lst w' w.heap.size q L ∧ (V → good = true ∧ q = R) ∧ ∀ i ∈ q.images, i.body.lsn < 9223372036854775808
  only : Only (fun _ => False) w w'
/-- What was taken up so far, in block b + 2; the Reader in b + 1, the answer's block b. -/
structure Tk (w W : World) (b : Nat) (q : Rc) (L : Loc) (s : St) : Prop where
  fb : Fb W (b + 2) q L
  res : Fb W b Rc.none Loc.none
  xs : XS W (b + 1) s
  lst : Lst W (b + 3) q L
  only : Only (fun _ => False) w W
  hb : w.heap.size = b
  big : b + 3 ≤ W.heap.size
/-- The same while a list is taken up in blocks from base on: all but the record's cell. -/
theorem Tk.call {w W W' : World} {b : Nat} {q : Rc} {L : Loc} {s s' : St} (h : Tk w W b q L s) (hx : XS W' (b + 1) s') (ho : Only (fun k => k = b + 1) W W') : Tk w W' b q L s' :=
  ⟨h.fb.kept ho (by omega), h.res.kept ho (by omega), hx, h.lst.kept ho (fun k hk _ e => by omega), h.only.trans ho (fun i hi e => by have := h.hb; omega), h.hb, Nat.le_trans h.big ho.size⟩
/-- Images taken up so far. -/
structure ImS (W wr : World) (b : Nat) (q : Rc) (L : Loc) (s : St) (acc : List Lm) (ao : Option Addr) (m cp B : Nat) : Prop where
  li : Li wr W.heap.size (.slice ao m cp) acc
  m : acc.length = m
  fb : Fb wr (b + 2) { q with images := acc.map (·.1) } { L with a3 := ao, c3 := cp, b3 := B }
  res : Fb wr b Rc.none Loc.none
  xs : XS wr (b + 1) s
  only : Only (fun k => k = b + 1 ∨ k = b + 2 ∨ W.heap.size ≤ k) W wr
theorem ImS.start {w W : World} {b : Nat} {q : Rc} {L : Loc} {s : St} (h : Tk w W b q L s) (hq : q.images = []) (hL : L.a3 = none ∧ L.c3 = 0) : ImS W W b q L s [] none 0 0 L.b3 := by
  refine ⟨Li.nil _ _, rfl, ?_, h.res, h.xs, Only.refl _ _⟩
  have e1 : { q with images := ([] : List Lm).map (·.1) } = q := by
    obtain ⟨_, _, _, _, _, _, _, _, _, _, _, _, _, _, _, _⟩ := q
    simp only at hq
    subst hq
    rfl
  have e2 : { L with a3 := none, c3 := 0, b3 := L.b3 } = L := by
    obtain ⟨_, _, _, _, _, _, _, _, _, _, _, _, _, _, _⟩ := L
    simp only at hL
    obtain ⟨rfl, rfl⟩ := hL
    rfl
  rw [e1, e2]
  exact h.fb
theorem ImS.call {W wr wr' : World} {b : Nat} {q : Rc} {L : Loc} {s s' : St} {acc : List Lm} {ao : Option Addr} {m cp B : Nat} (h : ImS W wr b q L s acc ao m cp B) (hb : b + 3 ≤ W.heap.size) (hx : XS wr' (b + 1) s') (ho : Only (fun k => k = b + 1) wr wr') : ImS W wr' b q L s' acc ao m cp B :=
  ⟨h.li.kept ho (fun k hk e => by omega), h.m, h.fb.kept ho (by omega), h.res.kept ho (by omega), hx, h.only.trans ho (fun _ _ e => .inl e)⟩
theorem ImS.more {W wr wr' : World} {b : Nat} {q : Rc} {L : Loc} {s : St} {acc : List Lm} {ao : Option Addr} {m cp B : Nat} (h : ImS W wr b q L s acc ao m cp B) (ho : Only (fun _ => False) wr wr') : ImS W wr' b q L s acc ao m cp B :=
  ⟨h.li.kept ho (fun _ _ h => h), h.m, h.fb.kept ho (fun h => h), h.res.kept ho (fun h => h), h.xs.kept ho (fun h => h), h.only.trans ho (fun _ _ e => e.elim)⟩
theorem ImS.done {w W wr : World} {b : Nat} {q : Rc} {L : Loc} {s s0 : St} {acc : List Lm} {ao : Option Addr} {m cp B : Nat} (ht : Tk w W b q L s0) (h : ImS W wr b q L s acc ao m cp B) (hm : m ≤ 1000) : ∃ B', Tk w wr b { q with images := acc.map (·.1) } { L with a3 := ao, c3 := cp, b3 := B' } s := by
  obtain ⟨B', ao', cp', hv, hi, hf, hB⟩ := h.li.ims (by have := h.m; omega)
  have hbg := ht.big
  have hhb := ht.hb
  injection hv with e1 e2 e3
  subst e1
  subst e3
  refine ⟨B', ⟨?_, h.res, h.xs, ?_, ht.only.trans h.only (fun i hi e => by omega), ht.hb, Nat.le_trans ht.big h.only.size⟩⟩
  · have f := h.fb
    exact ⟨⟨f.bx.c0, f.bx.c1, f.bx.c2, f.bx.c3, f.bx.c4, f.bx.c5, f.bx.c6, f.bx.c7, f.bx.c8, f.bx.c9, f.bx.c10, f.bx.c11, f.bx.c12, f.bx.c13, f.bx.c14, f.bx.c15, f.bx.lt⟩, f.fz⟩
  · exact (ht.lst.kept h.only (fun k hk hk2 e => by omega)).set_images (hi.mono (fun d hd => by omega)) (fun h0 => by have := hB (by simpa using h0); omega)
end Go.Proofs.YtfjmidcldjfckaaGreatDoor

namespace Go.Proofs.YtfjmidcldjfckaaGreatDoor
open Go.RowKit

theorem Bx.range {w : World} {b : Nat} {q : Rc} {L : Loc} (h : Bx w b q L) : w.rangeAt b 0 (q.cl L) := by
  intro j v hv
  have hj : j < 16 := (List.getElem?_eq_some_iff.1 hv).1
  rw [Nat.zero_add]
  match j, hj, hv with
  | 0, _, hv => injection hv with hv; subst hv; exact h.c0
  | 1, _, hv => injection hv with hv; subst hv; exact h.c1
  | 2, _, hv => injection hv with hv; subst hv; exact h.c2
  | 3, _, hv => injection hv with hv; subst hv; exact h.c3
  | 4, _, hv => injection hv with hv; subst hv; exact h.c4
  | 5, _, hv => injection hv with hv; subst hv; exact h.c5
  | 6, _, hv => injection hv with hv; subst hv; exact h.c6
  | 7, _, hv => injection hv with hv; subst hv; exact h.c7
  | 8, _, hv => injection hv with hv; subst hv; exact h.c8
  | 9, _, hv => injection hv with hv; subst hv; exact h.c9
  | 10, _, hv => injection hv with hv; subst hv; exact h.c10
  | 11, _, hv => injection hv with hv; subst hv; exact h.c11
  | 12, _, hv => injection hv with hv; subst hv; exact h.c12
  | 13, _, hv => injection hv with hv; subst hv; exact h.c13
  | 14, _, hv => injection hv with hv; subst hv; exact h.c14
  | 15, _, hv => injection hv with hv; subst hv; exact h.c15
theorem Fb.there {w : World} {b : Nat} {q : Rc} {L : Loc} (h : Fb w b q L) : w.there b 0 16 := fun j hj => by
  rw [Nat.zero_add]
  refine ⟨?_, h.fz j hj⟩
  have h1 := h.bx.range j _ (List.getElem?_eq_getElem (by show j < 16; exact hj))
  rw [Nat.zero_add] at h1
  rw [h1]
  rfl
/-- pages taken up so far. -/
structure PgS (W wr : World) (b : Nat) (q : Rc) (L : Loc) (s : St) (acc : List (Int × Int)) (ao : Option Addr) (m cp B : Nat) : Prop where
  own : wr.ownsRow W.heap.size 50 2 (.slice ao m cp) acc.length (acc.flatMap prc)
  m : acc.length = m
  fb : Fb wr (b + 2) { q with pages := acc } { L with a4 := ao, c4 := cp, b4 := B }
  res : Fb wr b Rc.none Loc.none
  xs : XS wr (b + 1) s
  only : Only (fun k => k = b + 1 ∨ k = b + 2 ∨ W.heap.size ≤ k) W wr
theorem PgS.start {w W : World} {b : Nat} {q : Rc} {L : Loc} {s : St} (h : Tk w W b q L s) (hq : q.pages = []) (hL : L.a4 = none ∧ L.c4 = 0) : PgS W W b q L s [] none 0 0 L.b4 := by
  refine ⟨World.ownsRow_nil _ _ _ _, rfl, ?_, h.res, h.xs, Only.refl _ _⟩
  have e1 : { q with pages := [] } = q := by
    obtain ⟨_, _, _, _, _, _, _, _, _, _, _, _, _, _, _, _⟩ := q
    simp only at hq
    subst hq
    rfl
  have e2 : { L with a4 := none, c4 := 0, b4 := L.b4 } = L := by
    obtain ⟨_, _, _, _, _, _, _, _, _, _, _, _, _, _, _⟩ := L
    simp only at hL
    obtain ⟨rfl, rfl⟩ := hL
    rfl
  rw [e1, e2]
  exact h.fb
theorem PgS.call {W wr wr' : World} {b : Nat} {q : Rc} {L : Loc} {s s' : St} {acc : List (Int × Int)} {ao : Option Addr} {m cp B : Nat} (h : PgS W wr b q L s acc ao m cp B) (hb : b + 3 ≤ W.heap.size) (hx : XS wr' (b + 1) s') (ho : Only (fun k => k = b + 1) wr wr') : PgS W wr' b q L s' acc ao m cp B :=
  ⟨own_kept h.own ho (fun k hk e => by have := (World.ownsRow.lt h.own k hk).1; omega), h.m, h.fb.kept ho (by omega), h.res.kept ho (by omega), hx, h.only.trans ho (fun _ _ e => .inl e)⟩
theorem PgS.more {W wr wr' : World} {b : Nat} {q : Rc} {L : Loc} {s : St} {acc : List (Int × Int)} {ao : Option Addr} {m cp B : Nat} (h : PgS W wr b q L s acc ao m cp B) (ho : Only (fun _ => False) wr wr') : PgS W wr' b q L s acc ao m cp B :=
  ⟨own_kept h.own ho (fun _ _ h => h), h.m, h.fb.kept ho (fun h => h), h.res.kept ho (fun h => h), h.xs.kept ho (fun h => h), h.only.trans ho (fun _ _ e => e.elim)⟩
theorem PgS.cell {W wr : World} {b : Nat} {q : Rc} {L : Loc} {s : St} {acc : List (Int × Int)} {ao : Option Addr} {m cp B : Nat} (h : PgS W wr b q L s acc ao m cp B) : wr.cell? ⟨b + 2, 14, none⟩ = some (.slice ao m cp) := by
  have h1 := h.fb.bx.c14
  have h2 := h.m
  simp only at h1
  rw [h2] at h1
  exact h1
theorem PgS.done {w W wr : World} {b : Nat} {q : Rc} {L : Loc} {s s0 : St} {acc : List (Int × Int)} {ao : Option Addr} {m cp B : Nat} (ht : Tk w W b q L s0) (h : PgS W wr b q L s acc ao m cp B) (hm : m ≤ 10000) : ∃ B', Tk w wr b { q with pages := acc } { L with a4 := ao, c4 := cp, b4 := B' } s := by
  obtain ⟨B', ao', cp', hv, hi, hf, hB⟩ := own_prs h.own (by have := h.m; omega)
  have hbg := ht.big
  have hhb := ht.hb
  injection hv with e1 e2 e3
  subst e1
  subst e3
  refine ⟨B', ⟨?_, h.res, h.xs, ?_, ht.only.trans h.only (fun i hi e => by omega), ht.hb, Nat.le_trans ht.big h.only.size⟩⟩
  · have f := h.fb
    exact ⟨⟨f.bx.c0, f.bx.c1, f.bx.c2, f.bx.c3, f.bx.c4, f.bx.c5, f.bx.c6, f.bx.c7, f.bx.c8, f.bx.c9, f.bx.c10, f.bx.c11, f.bx.c12, f.bx.c13, f.bx.c14, f.bx.c15, f.bx.lt⟩, f.fz⟩
  · exact (ht.lst.kept h.only (fun k hk hk2 e => by omega)).set_pages hi (fun h0 => by have := hB h0; omega)
/-- One more: appended, and stored into the record's cell. -/
theorem PgS.push {W wr : World} {b : Nat} {q : Rc} {L : Loc} {s : St} {acc : List (Int × Int)} {ao : Option Addr} {m cp B : Nat} (h : PgS W wr b q L s acc ao m cp B) (hb : b + 3 ≤ W.heap.size) (hm : m ≤ 10000) (z : Int × Int) (ty : TypeId) :
    ∃ ao' cp' w', (Builtin.append_ #[25, 25] ty #[.slice ao m cp, .slice (some ⟨wr.heap.size, 0, none⟩) 1 1]).run Tryz.prog (wr.alloc (.cells #[.int .i64 z.1, .int .i64 z.2] 50)) = .ok (.slice ao' (m + 1) cp') w' ∧
      w'.cell? ⟨b + 2, 14, none⟩ = some (.slice ao m cp) ∧ w'.frozen? ⟨b + 2, 14, none⟩ = false ∧ PgS W (w'.setCell ⟨b + 2, 14, none⟩ (.slice ao' (m + 1) cp')) b q L s (acc ++ [z]) ao' (m + 1) cp' B := by
  obtain ⟨v', w', hr, h2, h3⟩ := append_owed wr ty W.heap.size (.slice ao m cp) acc h.own z (by have := h.m; omega) h.only.size
  have hl : (acc ++ [z]).length = m + 1 := by rw [List.length_append, h.m]; rfl
  obtain ⟨ao', cp', rfl⟩ : ∃ ao' cp', v' = .slice ao' (m + 1) cp' := by
    rcases own_form h2 with ⟨rfl, h0⟩ | ⟨g, cap, rfl, _⟩
    · omega
    · exact ⟨_, _, by rw [hl]⟩
  have hblt := h.fb.bx.lt
  have hfb := h.fb.kept h3 (by omega)
  have hst := Only.setCell (S := fun k => k = b + 2) w' ⟨b + 2, 14, none⟩ (.slice ao' (m + 1) cp') rfl
  have hset := hfb.set_pages (acc ++ [z]) B cp' ao'
  rw [hl] at hset
  refine ⟨ao', cp', w', hr, ?_, hfb.fz 14 (by omega), ⟨?_, hl, hset, (h.res.kept h3 (by omega)).kept hst (by omega), (h.xs.kept h3 (by omega)).kept hst (by omega), ?_⟩⟩
  · have h1 := hfb.bx.c14
    simp only at h1
    rw [h.m] at h1
    exact h1
  · exact own_kept h2 hst (fun k hk e => by have := (World.ownsRow.lt h2 k hk).1; omega)
  · exact (h.only.trans h3 (fun i hi e => .inr (.inr e))).trans hst (fun i hi e => .inr (.inl e))
/-- txns taken up so far. -/
structure TxS (W wr : World) (b : Nat) (q : Rc) (L : Loc) (s : St) (acc : List (Int × Int)) (ao : Option Addr) (m cp B : Nat) : Prop where
  own : wr.ownsRow W.heap.size 52 2 (.slice ao m cp) acc.length (acc.flatMap prc)
  m : acc.length = m
  fb : Fb wr (b + 2) { q with txns := acc } { L with a5 := ao, c5 := cp, b5 := B }
  res : Fb wr b Rc.none Loc.none
  xs : XS wr (b + 1) s
  only : Only (fun k => k = b + 1 ∨ k = b + 2 ∨ W.heap.size ≤ k) W wr
theorem TxS.start {w W : World} {b : Nat} {q : Rc} {L : Loc} {s : St} (h : Tk w W b q L s) (hq : q.txns = []) (hL : L.a5 = none ∧ L.c5 = 0) : TxS W W b q L s [] none 0 0 L.b5 := by
  refine ⟨World.ownsRow_nil _ _ _ _, rfl, ?_, h.res, h.xs, Only.refl _ _⟩
  have e1 : { q with txns := [] } = q := by
    obtain ⟨_, _, _, _, _, _, _, _, _, _, _, _, _, _, _, _⟩ := q
    simp only at hq
    subst hq
    rfl
  have e2 : { L with a5 := none, c5 := 0, b5 := L.b5 } = L := by
    obtain ⟨_, _, _, _, _, _, _, _, _, _, _, _, _, _, _⟩ := L
    simp only at hL
    obtain ⟨rfl, rfl⟩ := hL
    rfl
  rw [e1, e2]
  exact h.fb
theorem TxS.call {W wr wr' : World} {b : Nat} {q : Rc} {L : Loc} {s s' : St} {acc : List (Int × Int)} {ao : Option Addr} {m cp B : Nat} (h : TxS W wr b q L s acc ao m cp B) (hb : b + 3 ≤ W.heap.size) (hx : XS wr' (b + 1) s') (ho : Only (fun k => k = b + 1) wr wr') : TxS W wr' b q L s' acc ao m cp B :=
  ⟨own_kept h.own ho (fun k hk e => by have := (World.ownsRow.lt h.own k hk).1; omega), h.m, h.fb.kept ho (by omega), h.res.kept ho (by omega), hx, h.only.trans ho (fun _ _ e => .inl e)⟩
theorem TxS.more {W wr wr' : World} {b : Nat} {q : Rc} {L : Loc} {s : St} {acc : List (Int × Int)} {ao : Option Addr} {m cp B : Nat} (h : TxS W wr b q L s acc ao m cp B) (ho : Only (fun _ => False) wr wr') : TxS W wr' b q L s acc ao m cp B :=
  ⟨own_kept h.own ho (fun _ _ h => h), h.m, h.fb.kept ho (fun h => h), h.res.kept ho (fun h => h), h.xs.kept ho (fun h => h), h.only.trans ho (fun _ _ e => e.elim)⟩
theorem TxS.cell {W wr : World} {b : Nat} {q : Rc} {L : Loc} {s : St} {acc : List (Int × Int)} {ao : Option Addr} {m cp B : Nat} (h : TxS W wr b q L s acc ao m cp B) : wr.cell? ⟨b + 2, 15, none⟩ = some (.slice ao m cp) := by
  have h1 := h.fb.bx.c15
  have h2 := h.m
  simp only at h1
  rw [h2] at h1
  exact h1
theorem TxS.done {w W wr : World} {b : Nat} {q : Rc} {L : Loc} {s s0 : St} {acc : List (Int × Int)} {ao : Option Addr} {m cp B : Nat} (ht : Tk w W b q L s0) (h : TxS W wr b q L s acc ao m cp B) (hm : m ≤ 10000) : ∃ B', Tk w wr b { q with txns := acc } { L with a5 := ao, c5 := cp, b5 := B' } s := by
  obtain ⟨B', ao', cp', hv, hi, hf, hB⟩ := own_prs h.own (by have := h.m; omega)
  have hbg := ht.big
  have hhb := ht.hb
  injection hv with e1 e2 e3
  subst e1
  subst e3
  refine ⟨B', ⟨?_, h.res, h.xs, ?_, ht.only.trans h.only (fun i hi e => by omega), ht.hb, Nat.le_trans ht.big h.only.size⟩⟩
  · have f := h.fb
    exact ⟨⟨f.bx.c0, f.bx.c1, f.bx.c2, f.bx.c3, f.bx.c4, f.bx.c5, f.bx.c6, f.bx.c7, f.bx.c8, f.bx.c9, f.bx.c10, f.bx.c11, f.bx.c12, f.bx.c13, f.bx.c14, f.bx.c15, f.bx.lt⟩, f.fz⟩
  · exact (ht.lst.kept h.only (fun k hk hk2 e => by omega)).set_txns hi (fun h0 => by have := hB h0; omega)
/-- One more: appended, and stored into the record's cell. -/
theorem TxS.push {W wr : World} {b : Nat} {q : Rc} {L : Loc} {s : St} {acc : List (Int × Int)} {ao : Option Addr} {m cp B : Nat} (h : TxS W wr b q L s acc ao m cp B) (hb : b + 3 ≤ W.heap.size) (hm : m ≤ 10000) (z : Int × Int) (ty : TypeId) :
    ∃ ao' cp' w', (Builtin.append_ #[26, 26] ty #[.slice ao m cp, .slice (some ⟨wr.heap.size, 0, none⟩) 1 1]).run Tryz.prog (wr.alloc (.cells #[.int .i64 z.1, .int .i64 z.2] 52)) = .ok (.slice ao' (m + 1) cp') w' ∧
      w'.cell? ⟨b + 2, 15, none⟩ = some (.slice ao m cp) ∧ w'.frozen? ⟨b + 2, 15, none⟩ = false ∧ TxS W (w'.setCell ⟨b + 2, 15, none⟩ (.slice ao' (m + 1) cp')) b q L s (acc ++ [z]) ao' (m + 1) cp' B := by
  obtain ⟨v', w', hr, h2, h3⟩ := append_begun wr ty W.heap.size (.slice ao m cp) acc h.own z (by have := h.m; omega) h.only.size
  have hl : (acc ++ [z]).length = m + 1 := by rw [List.length_append, h.m]; rfl
  obtain ⟨ao', cp', rfl⟩ : ∃ ao' cp', v' = .slice ao' (m + 1) cp' := by
    rcases own_form h2 with ⟨rfl, h0⟩ | ⟨g, cap, rfl, _⟩
    · omega
    · exact ⟨_, _, by rw [hl]⟩
  have hblt := h.fb.bx.lt
  have hfb := h.fb.kept h3 (by omega)
  have hst := Only.setCell (S := fun k => k = b + 2) w' ⟨b + 2, 15, none⟩ (.slice ao' (m + 1) cp') rfl
  have hset := hfb.set_txns (acc ++ [z]) B cp' ao'
  rw [hl] at hset
  refine ⟨ao', cp', w', hr, ?_, hfb.fz 15 (by omega), ⟨?_, hl, hset, (h.res.kept h3 (by omega)).kept hst (by omega), (h.xs.kept h3 (by omega)).kept hst (by omega), ?_⟩⟩
  · have h1 := hfb.bx.c15
    simp only at h1
    rw [h.m] at h1
    exact h1
  · exact own_kept h2 hst (fun k hk e => by have := (World.ownsRow.lt h2 k hk).1; omega)
  · exact (h.only.trans h3 (fun i hi e => .inr (.inr e))).trans hst (fun i hi e => .inr (.inl e))
theorem ImS.cell {W wr : World} {b : Nat} {q : Rc} {L : Loc} {s : St} {acc : List Lm} {ao : Option Addr} {m cp B : Nat} (h : ImS W wr b q L s acc ao m cp B) : wr.cell? ⟨b + 2, 13, none⟩ = some (.slice ao m cp) := by
  have h1 := h.fb.bx.c13
  have h2 := h.m
  simp only [List.length_map] at h1
  rw [h2] at h1
  exact h1
/-- One image more. -/
theorem ImS.push {W wr : World} {b : Nat} {q : Rc} {L : Loc} {s : St} {acc : List Lm} {ao : Option Addr} {m cp B : Nat} (h : ImS W wr b q L s acc ao m cp B) (hb : b + 3 ≤ W.heap.size) (hm : m ≤ 10000) (z : Lm) (hz : LmAt wr W.heap.size (.slice ao m cp) z) (ty : TypeId) :
    ∃ ao' cp' w', (Builtin.append_ #[24, 24] ty #[.slice ao m cp, .slice (some ⟨wr.heap.size, 0, none⟩) 1 1]).run Tryz.prog (wr.alloc (.cells #[.int .i64 z.1.page, .int .i64 z.1.body.lsn, .int .i64 z.1.body.kind, .int .i64 z.1.body.level, .int .i64 z.1.body.right, .string z.1.body.high, .slice z.2.2.1 z.1.body.items.length z.2.2.2] 47)) = .ok (.slice ao' (m + 1) cp') w' ∧
      w'.cell? ⟨b + 2, 13, none⟩ = some (.slice ao m cp) ∧ w'.frozen? ⟨b + 2, 13, none⟩ = false ∧ ImS W (w'.setCell ⟨b + 2, 13, none⟩ (.slice ao' (m + 1) cp')) b q L s (acc ++ [z]) ao' (m + 1) cp' B := by
  obtain ⟨v', w', hr, h2, h3⟩ := append_image wr ty W.heap.size (.slice ao m cp) acc h.li z hz (by have := h.m; omega) h.only.size
  have hl : (acc ++ [z]).length = m + 1 := by rw [List.length_append, h.m]; rfl
  obtain ⟨ao', cp', rfl⟩ : ∃ ao' cp', v' = .slice ao' (m + 1) cp' := by
    rcases own_form h2.own with ⟨rfl, h0⟩ | ⟨g, cap, rfl, _⟩
    · omega
    · exact ⟨_, _, by rw [hl]⟩
  have hblt := h.fb.bx.lt
  have hfb := h.fb.kept h3 (by omega)
  have hst := Only.setCell (S := fun k => k = b + 2) w' ⟨b + 2, 13, none⟩ (.slice ao' (m + 1) cp') rfl
  have hset := hfb.set_images ((acc ++ [z]).map (·.1)) B cp' ao'
  rw [List.length_map, hl] at hset
  refine ⟨ao', cp', w', hr, ?_, hfb.fz 13 (by omega), ⟨?_, hl, hset, (h.res.kept h3 (by omega)).kept hst (by omega), (h.xs.kept h3 (by omega)).kept hst (by omega), ?_⟩⟩
  · have h1 := hfb.bx.c13
    simp only [List.length_map] at h1
    rw [h.m] at h1
    exact h1
  · exact h2.kept hst (fun k hk e => by omega)
  · exact (h.only.trans h3 (fun i hi e => .inr (.inr e))).trans hst (fun i hi e => .inr (.inl e))
end Go.Proofs.YtfjmidcldjfckaaGreatDoor

namespace Go.Proofs.YtfjmidcldjfckaaGreatDoor
open Go.RowKit

theorem takeL_mem {α : Type} {one : St → α × St} {P : α → Prop} (h : ∀ s, P (one s).1) : ∀ (k : Nat) (acc : List α) (s : St), (∀ x ∈ acc, P x) → ∀ x ∈ (takeL one k acc s).1, P x
  | 0, acc, s, ha => ha
  | k + 1, acc, s, ha => by
    rw [takeL]
    split
    · exact takeL_mem h k _ _ (fun x hx => by
        rcases List.mem_append.1 hx with hx | hx
        · exact ha x hx
        · simp at hx; rw [hx]; exact h s)
    · intro x hx; cases hx
theorem steps_ex (l : List UInt8) : ∃ q e, Steps l q e ∧ ∀ i ∈ q.images, i.body.lsn < 9223372036854775808 := by
  obtain ⟨⟨z0, s1⟩, h0⟩ : ∃ a, rN top (l, 0) = a := ⟨_, rfl⟩
  obtain ⟨⟨z1, s2⟩, h1⟩ : ∃ a, rN top s1 = a := ⟨_, rfl⟩
  obtain ⟨⟨z2, s3⟩, h2⟩ : ∃ a, rN top s2 = a := ⟨_, rfl⟩
  obtain ⟨⟨z3, s4⟩, h3⟩ : ∃ a, rN 13 s3 = a := ⟨_, rfl⟩
  obtain ⟨⟨z4, s5⟩, h4⟩ : ∃ a, rN top s4 = a := ⟨_, rfl⟩
  obtain ⟨⟨z5, s6⟩, h5⟩ : ∃ a, rN top s5 = a := ⟨_, rfl⟩
  obtain ⟨⟨z6, s7⟩, h6⟩ : ∃ a, rN top s6 = a := ⟨_, rfl⟩
  obtain ⟨⟨z7, s8⟩, h7⟩ : ∃ a, rN top s7 = a := ⟨_, rfl⟩
  obtain ⟨⟨z8, s9⟩, h8⟩ : ∃ a, rN top s8 = a := ⟨_, rfl⟩
  obtain ⟨⟨z9, s10⟩, h9⟩ : ∃ a, rN top s9 = a := ⟨_, rfl⟩
  obtain ⟨⟨d, s11⟩, h10⟩ : ∃ a, rT 512 s10 = a := ⟨_, rfl⟩
  obtain ⟨⟨x11, s12⟩, h11⟩ : ∃ a, rL (rN top) 255 s11 = a := ⟨_, rfl⟩
  obtain ⟨⟨x12, s13⟩, h12⟩ : ∃ a, rL (rN top) 255 s12 = a := ⟨_, rfl⟩
  obtain ⟨⟨x13, s14⟩, h13⟩ : ∃ a, rL rIm 4 s13 = a := ⟨_, rfl⟩
  obtain ⟨⟨x14, s15⟩, h14⟩ : ∃ a, rL rPr 8192 s14 = a := ⟨_, rfl⟩
  obtain ⟨⟨x15, s16⟩, h15⟩ : ∃ a, rL rPr 1024 s15 = a := ⟨_, rfl⟩
  refine ⟨⟨z0, z1, z2, z3, z4, z5, z6, z7, z8, z9, str d, x11, x12, x13, x14, x15⟩, s16, ⟨⟨s1, s2, s3, s4, s5, s6, s7, s8, s9, s10, s11, s12, s13, s14, s15, d, h0, h1, h2, h3, h4, h5, h6, h7, h8, h9, h10, rfl, h11, h12, h13, h14, h15⟩⟩, ?_⟩
  have hm := takeL_mem (one := rIm) (P := fun i : Im => i.body.lsn < 9223372036854775808) (fun s => (dec_bounds _).1) (rN 4 s13).1.toNat [] (rN 4 s13).2 (fun x hx => by cases hx)
  have e : takeL rIm (rN 4 s13).1.toNat [] (rN 4 s13).2 = (x13, s14) := h13
  rw [e] at hm
  exact hm
/-- What Decode answers is one thing. -/
theorem DecIs.one {l : List UInt8} {r r' : Rc} {n n' c c' : Int} (h : DecIs l r n c) (h' : DecIs l r' n' c') : r = r' ∧ n = n' ∧ c = c' := by
  by_cases h8 : l.length < 8
  · obtain ⟨rfl, rfl, rfl⟩ := h.short h8
    obtain ⟨rfl, rfl, rfl⟩ := h'.short h8
    exact ⟨rfl, rfl, rfl⟩
  · by_cases hz : ofTo (l.take 4) = 0 ∨ 65535 < ofTo (l.take 4)
    · obtain ⟨rfl, rfl, rfl⟩ := h.zero (by omega) hz
      obtain ⟨rfl, rfl, rfl⟩ := h'.zero (by omega) hz
      exact ⟨rfl, rfl, rfl⟩
    · by_cases hc : (l.length : Int) - 8 < ofTo (l.take 4)
      · obtain ⟨rfl, rfl, rfl⟩ := h.cut (by omega) hz hc
        obtain ⟨rfl, rfl, rfl⟩ := h'.cut (by omega) hz hc
        exact ⟨rfl, rfl, rfl⟩
      · by_cases hs : sum ((l.drop 8).take (ofTo (l.take 4)).toNat) = ofTo ((l.drop 4).take 4)
        · obtain ⟨q, e, hst, _, hx⟩ := h.rest (by omega) hz hc hs
          obtain ⟨q', e', hst', _, hx'⟩ := h'.rest (by omega) hz hc hs
          obtain ⟨rfl, rfl⟩ := hst.one hst'
          rcases hx with ⟨a1, a2, a3, rfl, rfl, rfl⟩ | ⟨a1, rfl, rfl, rfl⟩
          · rcases hx' with ⟨_, _, _, rfl, rfl, rfl⟩ | ⟨b1, _⟩
            · exact ⟨rfl, rfl, rfl⟩
            · exact absurd ⟨a1, a2, a3⟩ b1
          · rcases hx' with ⟨b1, b2, b3, _⟩ | ⟨_, rfl, rfl, rfl⟩
            · exact absurd ⟨b1, b2, b3⟩ a1
            · exact ⟨rfl, rfl, rfl⟩
        · obtain ⟨rfl, rfl, rfl⟩ := h.bad (by omega) hz hc hs
          obtain ⟨rfl, rfl, rfl⟩ := h'.bad (by omega) hz hc hs
          exact ⟨rfl, rfl, rfl⟩
end Go.Proofs.YtfjmidcldjfckaaGreatDoor
