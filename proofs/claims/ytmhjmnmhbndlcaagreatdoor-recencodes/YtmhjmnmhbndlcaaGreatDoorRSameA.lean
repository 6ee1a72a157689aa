/- What Same does. -/
import Derived.Test.YtmhjmnmhbndlcaaGreatDoorRWalkA
import Derived.Deep.QuietTactic
import Derived.BigQuiet
namespace Go.Proofs.YtmhjmnmhbndlcaaGreatDoor
open Go.RowKit

set_option maxRecDepth 100000 in
set_option maxHeartbeats 800000 in
theorem eqI_any (w : World) (B B' cp cp' : Nat) (ao ao' : Option Addr) (l l' : List Int) (h : Zs w B ao l) (h' : Zs w B' ao' l') :
    Calls Tryz.prog 22 #[.slice ao l.length cp, .slice ao' l'.length cp'] w fun e w' => RB e (l = l') ∧ Only (fun _ => False) w w' := by
  have hlen := h.len
  have hlen' := h'.len
  have HS := hide h
  have HS' := hide h'
  clear h h'
  by_cases hn : l.length = l'.length
  · have hb : ((l.length : Int) != (l'.length : Int)) = false := by simp; omega
    go_enter Tryz.func22, Tryz.ntmps22
    go_wp2_with fail
    go_loopw [13] (fun y wr => ∃ j : Nat, j ≤ l.length ∧ y = .int .i64 (j : Int) ∧ Hid (l.take j = l'.take j) ∧ Hid (Only (fun _ => False) w wr)) (fun y _ => l.length - (intOf y).toNat)
    case atStart => exact ⟨0, by omega, rfl, rfl, Only.refl _ _⟩
    case round =>
      obtain ⟨j, hj, rfl, HQ, HO⟩ := hrel
      by_cases hlt : j < l.length
      · have hlt' : j < l'.length := by omega
        obtain ⟨o, e1, c1⟩ := (HS.out.more HO.out).at_ (by omega)
        obtain ⟨o', e1', c1'⟩ := (HS'.out.more HO.out).at_ (by omega)
        have k1 := c1 j hlt
        have k1' := c1' j hlt'
        have hj1 : (j : Int) < (l.length : Int) := by omega
        have hj1' : (j : Int) < (l'.length : Int) := by omega
        obtain ⟨z, hz⟩ : ∃ z, l[j] = z := ⟨_, rfl⟩
        obtain ⟨z', hz'⟩ : ∃ z', l'[j] = z' := ⟨_, rfl⟩
        have HT : Hid (l.take (j + 1) = l.take j ++ [z]) := by unfold Hid; rw [List.take_succ_eq_append_getElem hlt, hz]
        have HT' : Hid (l'.take (j + 1) = l'.take j ++ [z']) := by unfold Hid; rw [List.take_succ_eq_append_getElem hlt', hz']
        rw [hz] at k1
        rw [hz'] at k1'
        have HZ := hide hz
        have HZ' := hide hz'
        clear c1 c1' hz hz'
        subst e1
        subst e1'
        by_cases hzz : z = z'
        · have HF : Hid (l.take (j + 1) = l'.take (j + 1)) := by unfold Hid; rw [HT.out, HT'.out, HQ.out, hzz]
          subst hzz
          go_wp2_with fail
          go_region
          go_wp2_with fail
          go_roundw
          case rel => exact ⟨j + 1, by omega, by go_num, HF, o2 HO.out (Only.drew _ _)⟩
          case measure => simp [intOf]; omega
        · have HF : Hid (¬ l = l') := fun h => hzz (by rw [← HZ.out, ← HZ'.out]; simp [h])
          have hx : (z != z') = true := by simpa using hzz
          clear hzz
          go_wp2_with fail
          go_region
          go_wp2_with fail
          go_ret
          exact ⟨RB.no HF.out, o2 HO.out (Only.drew _ _)⟩
      · have e : l.take j = l := List.take_of_length_le (by omega)
        have e' : l'.take j = l' := List.take_of_length_le (by omega)
        rw [e, e'] at HQ
        go_wp2_with fail
        go_ret
        exact ⟨RB.yes HQ.out, HO.out⟩
  · have hb : ((l.length : Int) != (l'.length : Int)) = true := by simp; omega
    go_enter Tryz.func22, Tryz.ntmps22
    go_wp2_with fail
    go_ret
    exact ⟨RB.no (fun h => hn (by rw [h])), Only.refl _ _⟩
end Go.Proofs.YtmhjmnmhbndlcaaGreatDoor
