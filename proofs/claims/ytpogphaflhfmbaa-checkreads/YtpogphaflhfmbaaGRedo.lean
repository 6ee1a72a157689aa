/- What Redo does, the code's and the document's. -/
import Derived.Test.YtpogphaflhfmbaaGPure
namespace Go.Proofs.Ytpogphaflhfmbaa
open Go.RowKit

/-- Pairs of numbers that a slice at ao leads to, in block B. -/
structure Pr (w : World) (B : Nat) (ao : Option Addr) (l : List (Int × Int)) : Prop where
  at_ : 0 < l.length → ∃ o, ao = some ⟨B, o, none⟩ ∧ ∀ j (h : j < l.length), w.cell? ⟨B, o + j * 2, none⟩ = some (.int .i64 l[j].1) ∧ w.cell? ⟨B, o + j * 2 + 1, none⟩ = some (.int .i64 l[j].2)
  lt : 0 < l.length → B < w.heap.size
  len : l.length ≤ 9223372036854775807
theorem Pr.nil (w : World) (B : Nat) (ao : Option Addr) : Pr w B ao [] := ⟨fun h => absurd h (by simp), fun h => absurd h (by simp), by simp⟩
theorem Pr.more {w w' : World} {B : Nat} {ao : Option Addr} {l : List (Int × Int)} (h : Pr w B ao l) (ho : Only (fun _ => False) w w') : Pr w' B ao l :=
  ⟨fun h0 => by
    obtain ⟨o, e, hc⟩ := h.at_ h0
    exact ⟨o, e, fun j hj => ⟨(ho.cell (p := ⟨B, o + j * 2, none⟩) (h.lt h0) (fun h => h)).trans (hc j hj).1, (ho.cell (p := ⟨B, o + j * 2 + 1, none⟩) (h.lt h0) (fun h => h)).trans (hc j hj).2⟩⟩, fun h0 => Nat.lt_of_lt_of_le (h.lt h0) ho.size, h.len⟩
/-- One step of Redo. -/
def rdS (a : Int) (z : Int × Int) : Int := if 0 < z.2 then (if z.2 < a then z.2 else a) else a
def rdL (at_ : Int) (l : List (Int × Int)) : Int := l.foldl rdS at_
theorem rdL_snoc (a : Int) (l : List (Int × Int)) (j : Nat) (h : j < l.length) : rdL a (l.take (j + 1)) = rdS (rdL a (l.take j)) l[j] := by
  unfold rdL
  rw [List.take_succ_eq_append_getElem h, List.foldl_append]
  rfl
set_option maxRecDepth 100000 in
set_option maxHeartbeats 800000 in
theorem redo_any (w : World) (a : Int) (B cp : Nat) (ao : Option Addr) (l : List (Int × Int)) (h : Pr w B ao l) :
    Calls Try.prog 13 #[.int .i64 a, .slice ao l.length cp] w fun e w' => e = .returned (.int .i64 (rdL a l)) ∧ Only (fun _ => False) w w' := by
  have hlen := h.len
  have HS := hide h
  clear h
  go_enter Try.func13, Try.ntmps13
  go_wp2_with fail
  go_loopw [0, 9] (fun x y wr => ∃ (j : Nat) (q : Int), j ≤ l.length ∧ y = .int .i64 (j : Int) ∧ x = .int .i64 q ∧ Hid (rdL a (l.take j) = q) ∧ Hid (Only (fun _ => False) w wr)) (fun _ y _ => l.length - (intOf y).toNat)
  case atStart => exact ⟨0, a, by omega, rfl, rfl, rfl, Only.refl _ _⟩
  case round =>
    obtain ⟨j, q, hj, rfl, rfl, HQ, HO⟩ := hrel
    by_cases hlt : j < l.length
    · obtain ⟨o, e1, c1⟩ := (HS.out.more HO.out).at_ (by omega)
      have k1 := c1 j hlt
      have hj1 : (j : Int) < (l.length : Int) := by omega
      have HT := hide (rdL_snoc a l j hlt)
      rw [HQ.out] at HT
      obtain ⟨⟨z1, z2⟩, hz⟩ : ∃ z, l[j] = z := ⟨_, rfl⟩
      rw [hz] at k1 HT
      clear c1 hz
      subst e1
      obtain ⟨d0, d1⟩ := k1
      simp only at d0 d1
      by_cases h0 : 0 < z2
      · have e2 : rdS q (z1, z2) = if z2 < q then z2 else q := if_pos h0
        rw [e2] at HT
        clear e2
        have hm : decide (0 < z2) = true := by simpa using h0
        go_wp2_with fail
        go_roundw
        case rel => exact ⟨j + 1, (if z2 < q then z2 else q), by omega, by go_num, rfl, HT, o2 HO.out (onlyA _ _)⟩
        case measure => simp [intOf]; omega
      · have e2 : rdS q (z1, z2) = q := if_neg h0
        rw [e2] at HT
        clear e2
        have hm : decide (0 < z2) = false := by simpa using h0
        go_wp2_with fail
        go_roundw
        case rel => exact ⟨j + 1, q, by omega, by go_num, rfl, HT, o2 HO.out (onlyA _ _)⟩
        case measure => simp [intOf]; omega
    · have e : l.take j = l := List.take_of_length_le (by omega)
      rw [e] at HQ
      go_wp2_with fail
      go_ret
      exact ⟨ret_int HQ.out.symm, HO.out⟩
set_option maxRecDepth 100000 in
set_option maxHeartbeats 800000 in
theorem rredo_any (w : World) (a : Int) (B cp : Nat) (ao : Option Addr) (l : List (Int × Int)) (h : Pr w B ao l) :
    Calls Try.prog 14 #[.int .i64 a, .slice ao l.length cp] w fun e w' => e = .returned (.int .i64 (rdL a l)) ∧ Only (fun _ => False) w w' := by
  have hlen := h.len
  have HS := hide h
  clear h
  go_enter Try.func14, Try.ntmps14
  go_wp2_with fail
  go_loopw [5, 6] (fun x y wr => ∃ (j : Nat) (q : Int), j ≤ l.length ∧ y = .int .i64 (j : Int) ∧ x = .int .i64 q ∧ Hid (rdL a (l.take j) = q) ∧ wr = w) (fun _ y _ => l.length - (intOf y).toNat)
  case atStart => exact ⟨0, a, by omega, rfl, rfl, rfl, rfl⟩
  case round =>
    obtain ⟨j, q, hj, rfl, rfl, HQ, hw⟩ := hrel
    obtain rfl := hw.symm
    clear hw
    by_cases hlt : j < l.length
    · obtain ⟨o, e1, c1⟩ := HS.out.at_ (by omega)
      have k1 := c1 j hlt
      have hj1 : (j : Int) < (l.length : Int) := by omega
      have HT := hide (rdL_snoc a l j hlt)
      rw [HQ.out] at HT
      obtain ⟨⟨z1, z2⟩, hz⟩ : ∃ z, l[j] = z := ⟨_, rfl⟩
      rw [hz] at k1 HT
      clear c1 hz
      subst e1
      obtain ⟨d0, d1⟩ := k1
      simp only at d0 d1
      by_cases h0 : 0 < z2
      · have e2 : rdS q (z1, z2) = if z2 < q then z2 else q := if_pos h0
        rw [e2] at HT
        clear e2
        go_wp2_with fail
        go_roundw
        case rel => exact ⟨j + 1, (if z2 < q then z2 else q), by omega, by go_num, rfl, HT, trivial⟩
        case measure => simp [intOf]; omega
      · have e2 : rdS q (z1, z2) = q := if_neg h0
        rw [e2] at HT
        clear e2
        go_wp2_with fail
        go_roundw
        case rel => exact ⟨j + 1, q, by omega, by go_num, rfl, HT, trivial⟩
        case measure => simp [intOf]; omega
    · have e : l.take j = l := List.take_of_length_le (by omega)
      rw [e] at HQ
      go_wp2_with fail
      go_ret
      exact ⟨ret_int HQ.out.symm, Only.refl _ _⟩
theorem pr_two (w : World) (a b c d : Int) : Pr (w.alloc (.cells #[.int .i64 a, .int .i64 b, .int .i64 c, .int .i64 d] 48)) w.heap.size (some ⟨w.heap.size, 0, none⟩) [(a, b), (c, d)] := by
  refine ⟨fun _ => ⟨0, rfl, fun j hj => ?_⟩, fun _ => by simp, by simp⟩
  match j, hj with
  | 0, _ => exact ⟨by simp, by simp⟩
  | 1, _ => exact ⟨by simp, by simp⟩
end Go.Proofs.Ytpogphaflhfmbaa
