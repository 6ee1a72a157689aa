/- Lists of numbers in memory; whether one has a number. -/
import Derived.Test.YtolfmodgkkjnbaaGreatXBef
import Derived.Test.YtolfmodgkkjnbaaGreatPMem
namespace Go.Proofs.YtolfmodgkkjnbaaGreat
open Go.RowKit

/-- Numbers that a slice leads to, in block B. -/
structure Ns (w : World) (B : Nat) (ao : Option Addr) (l : List Int) : Prop where
  at_ : 0 < l.length → ∃ o, ao = some ⟨B, o, none⟩ ∧ ∀ j (h : j < l.length), w.cell? ⟨B, o + j, none⟩ = some (.int .i64 l[j])
  wf : ∀ x ∈ l, I64 x
  lt : 0 < l.length → B < w.heap.size
  len : l.length < 9223372036854775808
theorem Ns.nil (w : World) (B : Nat) (ao : Option Addr) : Ns w B ao [] := ⟨fun h => absurd h (by simp), fun _ h => by (cases h), fun h => absurd h (by simp), by simp⟩
theorem Ns.kept {S : Nat → Prop} {w w' : World} {B : Nat} {ao : Option Addr} {l : List Int} (h : Ns w B ao l) (ho : Only S w w') (hS : 0 < l.length → ¬ S B) : Ns w' B ao l :=
  ⟨fun h0 => by
    obtain ⟨o, e, hc⟩ := h.at_ h0
    exact ⟨o, e, fun j hj => (ho.cell (p := ⟨B, o + j, none⟩) (h.lt h0) (hS h0)).trans (hc j hj)⟩, h.wf, fun h0 => Nat.lt_of_lt_of_le (h.lt h0) ho.size, h.len⟩
theorem Ns.more {w w' : World} {B : Nat} {ao : Option Addr} {l : List Int} (h : Ns w B ao l) (ho : Only (fun _ => False) w w') : Ns w' B ao l := h.kept ho (fun _ h => h)
theorem Ns.one (w : World) (a : Int) (ha : I64 a) : Ns (w.alloc (.cells #[.int .i64 a] 3)) w.heap.size (some ⟨w.heap.size, 0, none⟩) [a] :=
  ⟨fun _ => ⟨0, rfl, fun j hj => by
    match j, hj with
    | 0, _ => simp⟩, fun x hx => by simp at hx; subst hx; exact ha, fun _ => by simp, by simp⟩

theorem not_mem_take {l : List Int} {x : Int} {j : Nat} (h : ∀ k (hk : k < l.length), k < j → l[k] ≠ x) (hj : l.length ≤ j) : x ∉ l := by
  intro hm
  obtain ⟨k, hk, e⟩ := List.getElem_of_mem hm
  exact h k hk (by omega) e
set_option maxRecDepth 100000 in
set_option maxHeartbeats 800000 in
theorem nin_any (w : World) (B cp : Nat) (ao : Option Addr) (l : List Int) (x : Int) (h : Ns w B ao l) :
    Calls Tryz.prog 32 #[.slice ao l.length cp, .int .i64 x] w fun e w' => e = .returned (.bool (decide (x ∈ l))) ∧ w' = w := by
  have hlen := h.len
  have HS := hide h
  clear h
  go_enter Tryz.func32, Tryz.ntmps32
  go_wp2_with fail
  go_loop [5] (fun y => ∃ j : Nat, j ≤ l.length ∧ y = .int .i64 (j : Int) ∧ Hid (∀ k (hk : k < l.length), k < j → l[k] ≠ x)) (fun y => l.length - (intOf y).toNat)
  case atStart => exact ⟨0, by omega, rfl, (fun k _ hk => by omega)⟩
  case round =>
    obtain ⟨j, hj, rfl, HQ⟩ := hrel
    by_cases hlt : j < l.length
    · obtain ⟨o, e1, c1⟩ := HS.out.at_ (by omega)
      have k1 := c1 j hlt
      obtain ⟨z, hz⟩ : ∃ z, l[j] = z := ⟨_, rfl⟩
      have HZ := hide hz
      rw [hz] at k1
      clear c1 hz
      subst e1
      by_cases he : z = x
      · have hm : x ∈ l := by rw [← he, ← HZ.out]; exact List.getElem_mem hlt
        have HM := hide hm
        clear hm
        subst he
        go_wp2_with fail
        go_ret
        exact ⟨ret_bool (decide_eq_true HM.out).symm, rfl⟩
      · have hb : (z == x) = false := by simp [he]
        go_wp2_with fail
        go_round
        case rel =>
          refine ⟨j + 1, by omega, by go_num, ?_⟩
          intro k hk hkj
          by_cases ek : k = j
          · subst ek; rw [HZ.out]; exact he
          · exact HQ.out k hk (by omega)
        case measure => simp [intOf]; omega
    · have HM := hide (not_mem_take HQ.out (by omega))
      go_wp2_with fail
      go_ret
      exact ⟨ret_bool (decide_eq_false HM.out).symm, rfl⟩
/-- A number was returned: not below 0 just if P. -/
structure RJ (e : Ending) (P : Prop) : Prop where
  ex : ∃ c : Int, e = .returned (.int .i64 c) ∧ (0 ≤ c ↔ P)
set_option maxRecDepth 100000 in
set_option maxHeartbeats 800000 in
theorem index_any (w : World) (B cp : Nat) (ao : Option Addr) (l : List Int) (x : Int) (h : Ns w B ao l) :
    Calls Tryz.prog 56 #[.slice ao l.length cp, .int .i64 x] w fun e w' => RJ e (x ∈ l) ∧ w' = w := by
  have hlen := h.len
  have HS := hide h
  clear h
  go_enter Tryz.func56, Tryz.ntmps56
  go_wp2_with fail
  go_loop [8] (fun y => ∃ j : Nat, j ≤ l.length ∧ y = .int .i64 (j : Int) ∧ Hid (∀ k (hk : k < l.length), k < j → l[k] ≠ x)) (fun y => l.length - (intOf y).toNat)
  case atStart => exact ⟨0, by omega, rfl, (fun k _ hk => by omega)⟩
  case round =>
    obtain ⟨j, hj, rfl, HQ⟩ := hrel
    by_cases hlt : j < l.length
    · obtain ⟨o, e1, c1⟩ := HS.out.at_ (by omega)
      have k1 := c1 j hlt
      obtain ⟨z, hz⟩ : ∃ z, l[j] = z := ⟨_, rfl⟩
      have HZ := hide hz
      rw [hz] at k1
      clear c1 hz
      subst e1
      by_cases he : z = x
      · have hm : x ∈ l := by rw [← he, ← HZ.out]; exact List.getElem_mem hlt
        have HM := hide hm
        clear hm
        subst he
        go_wp2_with fail
        go_ret
        exact ⟨⟨_, rfl, fun _ => HM.out, fun _ => by omega⟩, rfl⟩
      · have hb : (x == z) = false := by simp [Ne.symm he]
        go_wp2_with fail
        go_round
        case rel =>
          refine ⟨j + 1, by omega, by go_num, ?_⟩
          intro k hk hkj
          by_cases ek : k = j
          · subst ek; rw [HZ.out]; exact he
          · exact HQ.out k hk (by omega)
        case measure => simp [intOf]; omega
    · have HM := hide (not_mem_take HQ.out (by omega))
      go_wp2_with fail
      go_ret
      exact ⟨⟨_, rfl, fun h => absurd h (by decide), fun h => absurd h HM.out⟩, rfl⟩
set_option maxRecDepth 100000 in
set_option maxHeartbeats 800000 in
theorem contains_any (w : World) (B cp : Nat) (ao : Option Addr) (l : List Int) (x : Int) (h : Ns w B ao l) :
    Calls Tryz.prog 30 #[.slice ao l.length cp, .int .i64 x] w fun e w' => e = .returned (.bool (decide (x ∈ l))) ∧ w' = w := by
  have HC := hide (index_any w B cp ao l x h)
  clear h
  go_enter Tryz.func30, Tryz.ntmps30
  go_wp2_with fail
  refine HC.out.mono ?_
  rintro e w1 ⟨⟨c, rfl, hc⟩, rfl⟩
  have HP := hide hc
  clear hc HC
  by_cases h0 : 0 ≤ c
  · have g0 : decide (0 ≤ c) = true := decide_eq_true h0
    go_wp2_with fail
    go_ret
    exact ⟨ret_bool (by rw [decide_eq_true (HP.out.1 h0)]), rfl⟩
  · have g0 : decide (0 ≤ c) = false := decide_eq_false h0
    go_wp2_with fail
    go_ret
    exact ⟨ret_bool (by rw [decide_eq_false (fun h => by have := HP.out.2 h; omega)]), rfl⟩
end Go.Proofs.YtolfmodgkkjnbaaGreat
