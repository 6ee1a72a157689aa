/- Lists of numbers in memory: slices.Index, Contains; package blink's areFresh. -/
import Derived.Test.YthjjkhacniebiaaGreatK08
namespace Go.Proofs.YthjjkhacniebiaaGreat
open Go.RowKit

/-- Numbers that a slice leads to, in block B. -/
structure Ns (w : World) (B : Nat) (ao : Option Addr) (l : List Int) : Prop where
  at_ : 0 < l.length → ∃ o, ao = some ⟨B, o, none⟩ ∧ ∀ j (h : j < l.length), w.cell? ⟨B, o + j, none⟩ = some (.int .i64 l[j])
  len : l.length < 9223372036854775808
theorem Ns.take {w : World} {B : Nat} {ao : Option Addr} {l : List Int} (h : Ns w B ao l) (k : Nat) : Ns w B ao (l.take k) := by
  refine ⟨fun h0 => ?_, by have := h.len; rw [List.length_take]; omega⟩
  rw [List.length_take] at h0
  obtain ⟨o, e, hc⟩ := h.at_ (by omega)
  exact ⟨o, e, fun j hj => by rw [List.length_take] at hj; rw [hc j (by omega), List.getElem_take]⟩
theorem not_mem_take {l : List Int} {x : Int} {j : Nat} (h : ∀ k (hk : k < l.length), k < j → l[k] ≠ x) (hj : l.length ≤ j) : x ∉ l := by
  intro hm
  obtain ⟨k, hk, e⟩ := List.getElem_of_mem hm
  exact h k hk (by omega) e
/-- A number was returned: not below 0 just if P. -/
structure RJ (e : Ending) (P : Prop) : Prop where
  ex : ∃ c : Int, e = .returned (.int .i64 c) ∧ (0 ≤ c ↔ P)
set_option maxRecDepth 100000 in
set_option maxHeartbeats 800000 in
theorem index_any (w : World) (B cp : Nat) (ao : Option Addr) (l : List Int) (x : Int) (h : Ns w B ao l) :
    Calls Tryz.prog 104 #[.slice ao l.length cp, .int .i64 x] w fun e w' => RJ e (x ∈ l) ∧ w' = w := by
  have hlen := h.len
  have HS := hide h
  clear h
  go_enter Tryz.func104, Tryz.ntmps104
  go_wp2_with fail
  go_loop [8] (fun y => ∃ j : Nat, j ≤ l.length ∧ y = .int .i64 (j : Int) ∧ Hid (∀ k (hk : k < l.length), k < j → l[k] ≠ x)) (fun y => l.length - (intOf y).toNat)
  case atStart => exact ⟨0, by omega, rfl, (fun k _ hk => by omega)⟩
  case round =>
    obtain ⟨j, hj, rfl, HQ⟩ := hrel
    by_cases hlt : j < l.length
    · obtain ⟨o, e1, c1⟩ := HS.out.at_ (by omega)
      have k1 := c1 j hlt
      obtain ⟨z, hz⟩ : ∃ z, l[j] = z := ⟨_, rfl⟩
      have HZ := hide hz
      rw [hz] at k1
      clear c1 hz
      subst e1
      by_cases he : z = x
      · have hm : x ∈ l := by rw [← he, ← HZ.out]; exact List.getElem_mem hlt
        have HM := hide hm
        clear hm
        subst he
        go_wp2_with fail
        go_ret
        exact ⟨⟨_, rfl, fun _ => HM.out, fun _ => by omega⟩, rfl⟩
      · have hb : (x == z) = false := by simp [Ne.symm he]
        go_wp2_with fail
        go_round
        case rel =>
          refine ⟨j + 1, by omega, by go_num, ?_⟩
          intro k hk hkj
          by_cases ek : k = j
          · subst ek; rw [HZ.out]; exact he
          · exact HQ.out k hk (by omega)
        case measure => simp [intOf]; omega
    · have HM := hide (not_mem_take HQ.out (by omega))
      go_wp2_with fail
      go_ret
      exact ⟨⟨_, rfl, fun h => absurd h (by decide), fun h => absurd h HM.out⟩, rfl⟩
set_option maxRecDepth 100000 in
set_option maxHeartbeats 800000 in
theorem contains_any (w : World) (B cp : Nat) (ao : Option Addr) (l : List Int) (x : Int) (h : Ns w B ao l) :
    Calls Tryz.prog 64 #[.slice ao l.length cp, .int .i64 x] w fun e w' => e = .returned (.bool (decide (x ∈ l))) ∧ w' = w := by
  have HC := hide (index_any w B cp ao l x h)
  clear h
  go_enter Tryz.func64, Tryz.ntmps64
  go_wp2_with fail
  refine HC.out.mono ?_
  rintro e w1 ⟨⟨c, rfl, hc⟩, rfl⟩
  have HP := hide hc
  clear hc HC
  by_cases h0 : 0 ≤ c
  · have g0 : decide (0 ≤ c) = true := decide_eq_true h0
    go_wp2_with fail
    go_ret
    exact ⟨ret_bool (by rw [decide_eq_true (HP.out.1 h0)]), rfl⟩
  · have g0 : decide (0 ≤ c) = false := decide_eq_false h0
    go_wp2_with fail
    go_ret
    exact ⟨ret_bool (by rw [decide_eq_false (fun h => by have := HP.out.2 h; omega)]), rfl⟩
/-- Whether pages may be new ones. -/
def frs (zs : List Int) : Bool := decide (∀ k (h : k < zs.length), 2 ≤ zs[k] ∧ zs[k] ∉ zs.take k)
set_option maxRecDepth 100000 in
set_option maxHeartbeats 800000 in
theorem areFresh_any (w : World) (B cp : Nat) (ao : Option Addr) (l : List Int) (h : Ns w B ao l) (hc : l.length ≤ cp) (hb : cp ≤ maxLen) :
    Calls Tryz.prog 29 #[.slice ao l.length cp] w fun e w' => e = .returned (.bool (frs l)) ∧ w' = w := by
  have hlen := h.len
  have HS := hide h
  have HCN : Hid (∀ (k m : Nat) (x : Int), m = k → k ≤ l.length → Calls Tryz.prog 64 #[.slice ao m cp, .int .i64 x] w fun e w' => e = .returned (.bool (decide (x ∈ l.take k))) ∧ w' = w) := fun k m x hm hk => by
    have := contains_any w B cp ao (l.take k) x (h.take k)
    rw [List.length_take, Nat.min_eq_left hk] at this
    rw [hm]
    exact this
  have HB : Hid (l.length ≤ cp ∧ cp ≤ maxLen) := ⟨hc, hb⟩
  clear h hc hb
  go_enter Tryz.func29, Tryz.ntmps29
  go_wp2_with fail
  go_loop [7] (fun y => ∃ j : Nat, j ≤ l.length ∧ y = .int .i64 (j : Int) ∧ Hid (∀ k (hk : k < l.length), k < j → 2 ≤ l[k] ∧ l[k] ∉ l.take k)) (fun y => l.length - (intOf y).toNat)
  case atStart => exact ⟨0, by omega, rfl, (fun k _ hk => by omega)⟩
  case round =>
    obtain ⟨j, hj, rfl, HQ⟩ := hrel
    by_cases hlt : j < l.length
    · obtain ⟨o, e1, c1⟩ := HS.out.at_ (by omega)
      have k1 := c1 j hlt
      have HCJ := hide (HCN.out j j l[j] rfl (by omega))
      obtain ⟨z, hz⟩ : ∃ z, l[j] = z := ⟨_, rfl⟩
      have HZ : Hid (∀ hh : j < l.length, l[j] = z) := fun _ => hz
      rw [hz] at k1 HCJ
      clear c1 hz HCN
      subst e1
      by_cases h2 : z < 2
      · have HF : Hid (frs l = false) := by
          unfold Hid frs
          rw [decide_eq_false_iff_not]
          intro q
          have := (q j hlt).1
          rw [HZ.out hlt] at this
          omega
        go_wp2_with fail
        go_ret
        exact ⟨ret_bool HF.out.symm, rfl⟩
      · obtain ⟨D, hD⟩ : ∃ D, decide (z ∈ l.take j) = D := ⟨_, rfl⟩
        rw [hD] at HCJ
        have HD := hide hD
        clear hD
        have hj0 : (0 : Int) ≤ (j : Int) := by omega
        have hj1 : (j : Int) ≤ (l.length : Int) := by omega
        have hj2 : (j : Int) ≤ (cp : Int) := by have := HB.out.1; omega
        have hcm := HB.out.2
        unfold maxLen at hcm
        cases D with
        | true =>
          have HF : Hid (frs l = false) := by
            unfold Hid frs
            rw [decide_eq_false_iff_not]
            intro q
            have h1 := (q j hlt).2
            rw [HZ.out hlt] at h1
            exact h1 (by simpa using HD.out)
          go_wp2_with fail
          refine HCJ.out.mono ?_
          rintro e w1 ⟨rfl, h4⟩
          obtain rfl := h4.symm
          go_wp2_with fail
          go_ret
          exact ⟨ret_bool HF.out.symm, rfl⟩
        | false =>
          go_wp2_with fail
          refine HCJ.out.mono ?_
          rintro e w1 ⟨rfl, h4⟩
          obtain rfl := h4.symm
          go_wp2_with fail
          go_round
          case rel =>
            refine ⟨j + 1, by omega, by go_num, ?_⟩
            intro k hk hkj
            by_cases ek : k = j
            · subst ek
              refine ⟨by rw [HZ.out hk]; omega, ?_⟩
              rw [HZ.out hk]
              simpa using HD.out
            · exact HQ.out k hk (by omega)
          case measure => simp [intOf]; omega
    · have HF : Hid (frs l = true) := by
        unfold Hid frs
        rw [decide_eq_true_iff]
        exact fun k hk => HQ.out k hk (by omega)
      clear HCN
      go_wp2_with fail
      go_ret
      exact ⟨ret_bool HF.out.symm, rfl⟩
end Go.Proofs.YthjjkhacniebiaaGreat
