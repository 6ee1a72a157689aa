/- Records that are the same. -/
import Derived.Test.YtfjmidcldjfckaaGreatDoorRWalkA
import Derived.Deep.QuietTactic
import Derived.BigQuiet
import Derived.Laws.StructEq
namespace Go.Proofs.YtfjmidcldjfckaaGreatDoor
open Go.RowKit

set_option maxRecDepth 100000 in
set_option maxHeartbeats 800000 in
theorem eqI_any (w : World) (B B' cp cp' : Nat) (ao ao' : Option Addr) (l l' : List Int) (h : Zs w B ao l) (h' : Zs w B' ao' l') :
    Calls Tryz.prog 47 #[.slice ao l.length cp, .slice ao' l'.length cp'] w fun e w' => RB e (l = l') ∧ Only (fun _ => False) w w' := by
  have hlen := h.len
  have hlen' := h'.len
  have HS := hide h
  have HS' := hide h'
  clear h h'
  by_cases hn : l.length = l'.length
  · have hb : ((l.length : Int) != (l'.length : Int)) = false := by simp; omega
    go_enter Tryz.func47, Tryz.ntmps47
    go_wp2_with fail
    go_loopw [13] (fun y wr => ∃ j : Nat, j ≤ l.length ∧ y = .int .i64 (j : Int) ∧ Hid (l.take j = l'.take j) ∧ Hid (Only (fun _ => False) w wr)) (fun y _ => l.length - (intOf y).toNat)
    case atStart => exact ⟨0, by omega, rfl, rfl, Only.refl _ _⟩
    case round =>
      obtain ⟨j, hj, rfl, HQ, HO⟩ := hrel
      by_cases hlt : j < l.length
      · have hlt' : j < l'.length := by omega
        obtain ⟨o, e1, c1⟩ := (HS.out.more HO.out).at_ (by omega)
        obtain ⟨o', e1', c1'⟩ := (HS'.out.more HO.out).at_ (by omega)
        have k1 := c1 j hlt
        have k1' := c1' j hlt'
        have hj1 : (j : Int) < (l.length : Int) := by omega
        have hj1' : (j : Int) < (l'.length : Int) := by omega
        obtain ⟨z, hz⟩ : ∃ z, l[j] = z := ⟨_, rfl⟩
        obtain ⟨z', hz'⟩ : ∃ z', l'[j] = z' := ⟨_, rfl⟩
        have HT : Hid (l.take (j + 1) = l.take j ++ [z]) := by unfold Hid; rw [List.take_succ_eq_append_getElem hlt, hz]
        have HT' : Hid (l'.take (j + 1) = l'.take j ++ [z']) := by unfold Hid; rw [List.take_succ_eq_append_getElem hlt', hz']
        rw [hz] at k1
        rw [hz'] at k1'
        have HZ := hide hz
        have HZ' := hide hz'
        clear c1 c1' hz hz'
        subst e1
        subst e1'
        by_cases hzz : z = z'
        · have HF : Hid (l.take (j + 1) = l'.take (j + 1)) := by unfold Hid; rw [HT.out, HT'.out, HQ.out, hzz]
          subst hzz
          go_wp2_with fail
          go_region
          go_wp2_with fail
          go_roundw
          case rel => exact ⟨j + 1, by omega, by go_num, HF, o2 HO.out (Only.drew _ _)⟩
          case measure => simp [intOf]; omega
        · have HF : Hid (¬ l = l') := fun h => hzz (by rw [← HZ.out, ← HZ'.out]; simp [h])
          have hx : (z != z') = true := by simpa using hzz
          clear hzz
          go_wp2_with fail
          go_region
          go_wp2_with fail
          go_ret
          exact ⟨RB.no HF.out, o2 HO.out (Only.drew _ _)⟩
      · have e : l.take j = l := List.take_of_length_le (by omega)
        have e' : l'.take j = l' := List.take_of_length_le (by omega)
        rw [e, e'] at HQ
        go_wp2_with fail
        go_ret
        exact ⟨RB.yes HQ.out, HO.out⟩
  · have hb : ((l.length : Int) != (l'.length : Int)) = true := by simp; omega
    go_enter Tryz.func47, Tryz.ntmps47
    go_wp2_with fail
    go_ret
    exact ⟨RB.no (fun h => hn (by rw [h])), Only.refl _ _⟩
end Go.Proofs.YtfjmidcldjfckaaGreatDoor

namespace Go.Proofs.YtfjmidcldjfckaaGreatDoor
open Go.RowKit

theorem guardO (x y : Operand) (xs ys : Array Value) (w : World) : (eqGuard .neq 50 x y (.agg xs) (.agg ys)).run Tryz.prog w = .ok () w := run_eqGuard_agg w .neq 50 x y xs ys (by kernel_rfl)
attribute [local go_sem] guardO
set_option maxRecDepth 100000 in
set_option maxHeartbeats 800000 in
theorem eqO_any (w : World) (B B' cp cp' : Nat) (ao ao' : Option Addr) (l l' : List (Int × Int)) (h : Prs w B ao l) (h' : Prs w B' ao' l') :
    Calls Tryz.prog 50 #[.slice ao l.length cp, .slice ao' l'.length cp'] w fun e w' => RB e (l = l') ∧ Only (fun _ => False) w w' := by
  have hlen := h.len
  have hlen' := h'.len
  have HS := hide h
  have HS' := hide h'
  clear h h'
  by_cases hn : l.length = l'.length
  · have hb : ((l.length : Int) != (l'.length : Int)) = false := by simp; omega
    go_enter Tryz.func50, Tryz.ntmps50
    go_wp2_with fail
    go_loopw [13] (fun y wr => ∃ j : Nat, j ≤ l.length ∧ y = .int .i64 (j : Int) ∧ Hid (l.take j = l'.take j) ∧ Hid (Only (fun _ => False) w wr)) (fun y _ => l.length - (intOf y).toNat)
    case atStart => exact ⟨0, by omega, rfl, rfl, Only.refl _ _⟩
    case round =>
      obtain ⟨j, hj, rfl, HQ, HO⟩ := hrel
      by_cases hlt : j < l.length
      · have hlt' : j < l'.length := by omega
        obtain ⟨o, e1, c1⟩ := (HS.out.more HO.out).at_ (by omega)
        obtain ⟨o', e1', c1'⟩ := (HS'.out.more HO.out).at_ (by omega)
        have k1 := c1 j hlt
        have k1' := c1' j hlt'
        have hj1 : (j : Int) < (l.length : Int) := by omega
        have hj1' : (j : Int) < (l'.length : Int) := by omega
        obtain ⟨z, hz⟩ : ∃ z, l[j] = z := ⟨_, rfl⟩
        obtain ⟨z', hz'⟩ : ∃ z', l'[j] = z' := ⟨_, rfl⟩
        have HT : Hid (l.take (j + 1) = l.take j ++ [z]) := by unfold Hid; rw [List.take_succ_eq_append_getElem hlt, hz]
        have HT' : Hid (l'.take (j + 1) = l'.take j ++ [z']) := by unfold Hid; rw [List.take_succ_eq_append_getElem hlt', hz']
        rw [hz] at k1
        rw [hz'] at k1'
        have HZ := hide hz
        have HZ' := hide hz'
        clear c1 c1' hz hz'
        subst e1
        subst e1'
        by_cases hzz : z = z'
        · have HF : Hid (l.take (j + 1) = l'.take (j + 1)) := by unfold Hid; rw [HT.out, HT'.out, HQ.out, hzz]
          subst hzz
          obtain ⟨d0, d1⟩ := k1
          obtain ⟨d0', d1'⟩ := k1'
          go_wp2_with fail
          go_region
          go_wp2_with fail
          go_roundw
          case rel => exact ⟨j + 1, by omega, by go_num, HF, o2 HO.out (Only.drew _ _)⟩
          case measure => simp [intOf]; omega
        · have HF : Hid (¬ l = l') := fun h => hzz (by rw [← HZ.out, ← HZ'.out]; simp [h])
          obtain ⟨d0, d1⟩ := k1
          obtain ⟨d0', d1'⟩ := k1'
          by_cases h1 : z.1 = z'.1
          · have h2 : ¬ z.2 = z'.2 := fun h2 => hzz (Prod.ext h1 h2)
            clear hzz
            go_wp2_with fail
            go_region
            go_wp2_with fail
            go_ret
            exact ⟨RB.no HF.out, o2 HO.out (Only.drew _ _)⟩
          · clear hzz
            go_wp2_with fail
            go_region
            go_wp2_with fail
            go_ret
            exact ⟨RB.no HF.out, o2 HO.out (Only.drew _ _)⟩
      · have e : l.take j = l := List.take_of_length_le (by omega)
        have e' : l'.take j = l' := List.take_of_length_le (by omega)
        rw [e, e'] at HQ
        go_wp2_with fail
        go_ret
        exact ⟨RB.yes HQ.out, HO.out⟩
  · have hb : ((l.length : Int) != (l'.length : Int)) = true := by simp; omega
    go_enter Tryz.func50, Tryz.ntmps50
    go_wp2_with fail
    go_ret
    exact ⟨RB.no (fun h => hn (by rw [h])), Only.refl _ _⟩
theorem guardB (x y : Operand) (xs ys : Array Value) (w : World) : (eqGuard .neq 52 x y (.agg xs) (.agg ys)).run Tryz.prog w = .ok () w := run_eqGuard_agg w .neq 52 x y xs ys (by kernel_rfl)
attribute [local go_sem] guardB
set_option maxRecDepth 100000 in
set_option maxHeartbeats 800000 in
theorem eqB_any (w : World) (B B' cp cp' : Nat) (ao ao' : Option Addr) (l l' : List (Int × Int)) (h : Prs w B ao l) (h' : Prs w B' ao' l') :
    Calls Tryz.prog 51 #[.slice ao l.length cp, .slice ao' l'.length cp'] w fun e w' => RB e (l = l') ∧ Only (fun _ => False) w w' := by
  have hlen := h.len
  have hlen' := h'.len
  have HS := hide h
  have HS' := hide h'
  clear h h'
  by_cases hn : l.length = l'.length
  · have hb : ((l.length : Int) != (l'.length : Int)) = false := by simp; omega
    go_enter Tryz.func51, Tryz.ntmps51
    go_wp2_with fail
    go_loopw [13] (fun y wr => ∃ j : Nat, j ≤ l.length ∧ y = .int .i64 (j : Int) ∧ Hid (l.take j = l'.take j) ∧ Hid (Only (fun _ => False) w wr)) (fun y _ => l.length - (intOf y).toNat)
    case atStart => exact ⟨0, by omega, rfl, rfl, Only.refl _ _⟩
    case round =>
      obtain ⟨j, hj, rfl, HQ, HO⟩ := hrel
      by_cases hlt : j < l.length
      · have hlt' : j < l'.length := by omega
        obtain ⟨o, e1, c1⟩ := (HS.out.more HO.out).at_ (by omega)
        obtain ⟨o', e1', c1'⟩ := (HS'.out.more HO.out).at_ (by omega)
        have k1 := c1 j hlt
        have k1' := c1' j hlt'
        have hj1 : (j : Int) < (l.length : Int) := by omega
        have hj1' : (j : Int) < (l'.length : Int) := by omega
        obtain ⟨z, hz⟩ : ∃ z, l[j] = z := ⟨_, rfl⟩
        obtain ⟨z', hz'⟩ : ∃ z', l'[j] = z' := ⟨_, rfl⟩
        have HT : Hid (l.take (j + 1) = l.take j ++ [z]) := by unfold Hid; rw [List.take_succ_eq_append_getElem hlt, hz]
        have HT' : Hid (l'.take (j + 1) = l'.take j ++ [z']) := by unfold Hid; rw [List.take_succ_eq_append_getElem hlt', hz']
        rw [hz] at k1
        rw [hz'] at k1'
        have HZ := hide hz
        have HZ' := hide hz'
        clear c1 c1' hz hz'
        subst e1
        subst e1'
        by_cases hzz : z = z'
        · have HF : Hid (l.take (j + 1) = l'.take (j + 1)) := by unfold Hid; rw [HT.out, HT'.out, HQ.out, hzz]
          subst hzz
          obtain ⟨d0, d1⟩ := k1
          obtain ⟨d0', d1'⟩ := k1'
          go_wp2_with fail
          go_region
          go_wp2_with fail
          go_roundw
          case rel => exact ⟨j + 1, by omega, by go_num, HF, o2 HO.out (Only.drew _ _)⟩
          case measure => simp [intOf]; omega
        · have HF : Hid (¬ l = l') := fun h => hzz (by rw [← HZ.out, ← HZ'.out]; simp [h])
          obtain ⟨d0, d1⟩ := k1
          obtain ⟨d0', d1'⟩ := k1'
          by_cases h1 : z.1 = z'.1
          · have h2 : ¬ z.2 = z'.2 := fun h2 => hzz (Prod.ext h1 h2)
            clear hzz
            go_wp2_with fail
            go_region
            go_wp2_with fail
            go_ret
            exact ⟨RB.no HF.out, o2 HO.out (Only.drew _ _)⟩
          · clear hzz
            go_wp2_with fail
            go_region
            go_wp2_with fail
            go_ret
            exact ⟨RB.no HF.out, o2 HO.out (Only.drew _ _)⟩
      · have e : l.take j = l := List.take_of_length_le (by omega)
        have e' : l'.take j = l' := List.take_of_length_le (by omega)
        rw [e, e'] at HQ
        go_wp2_with fail
        go_ret
        exact ⟨RB.yes HQ.out, HO.out⟩
  · have hb : ((l.length : Int) != (l'.length : Int)) = true := by simp; omega
    go_enter Tryz.func51, Tryz.ntmps51
    go_wp2_with fail
    go_ret
    exact ⟨RB.no (fun h => hn (by rw [h])), Only.refl _ _⟩
end Go.Proofs.YtfjmidcldjfckaaGreatDoor

namespace Go.Proofs.YtfjmidcldjfckaaGreatDoor
open Go.RowKit

theorem im_ext {i i' : Im} (h1 : i.page = i'.page) (h2 : i.body.lsn = i'.body.lsn ∧ i.body.kind = i'.body.kind ∧ i.body.level = i'.body.level ∧ i.body.right = i'.body.right ∧ i.body.high = i'.body.high ∧ i.body.items = i'.body.items) : i = i' := by
  obtain ⟨p, ⟨a, b, c, d, e, f⟩⟩ := i
  obtain ⟨p', ⟨a', b', c', d', e', f'⟩⟩ := i'
  simp only at h1 h2
  obtain ⟨rfl, rfl, rfl, rfl, rfl, rfl⟩ := h2
  subst h1
  rfl
set_option maxRecDepth 100000 in
set_option maxHeartbeats 1600000 in
theorem sameImage_any (w : World) (z y : Im) (D D' c c' : Nat) (a a' : Option Addr) (hS : Strs w D a z.body.items) (hS' : Strs w D' a' y.body.items) :
    Calls Tryz.prog 49 #[.agg #[.int .i64 z.page, .int .i64 z.body.lsn, .int .i64 z.body.kind, .int .i64 z.body.level, .int .i64 z.body.right, .string z.body.high, .slice a z.body.items.length c], .agg #[.int .i64 y.page, .int .i64 y.body.lsn, .int .i64 y.body.kind, .int .i64 y.body.level, .int .i64 y.body.right, .string y.body.high, .slice a' y.body.items.length c']] w fun e w' => RB e (z = y) ∧ Only (fun _ => False) w w' := by
  have HO := hide (o2 (onlyA w (.cells #[.int .i64 z.page, .int .i64 z.body.lsn, .int .i64 z.body.kind, .int .i64 z.body.level, .int .i64 z.body.right, .string z.body.high, .slice a z.body.items.length c] 47)) (onlyA _ (.cells #[.int .i64 y.page, .int .i64 y.body.lsn, .int .i64 y.body.kind, .int .i64 y.body.level, .int .i64 y.body.right, .string y.body.high, .slice a' y.body.items.length c'] 47)))
  have HS := hide (hS.more HO.out)
  have HS' := hide (hS'.more HO.out)
  clear hS hS'
  by_cases hp : z.page = y.page
  · have hp' : (z.page == y.page) = true := by simpa using hp
    have HP := hide hp
    clear hp
    have HC := hide (psame_any _ z.body.lsn z.body.kind z.body.level z.body.right y.body.lsn y.body.kind y.body.level y.body.right z.body.high y.body.high D D' c c' a a' z.body.items y.body.items HS.out HS'.out)
    obtain ⟨b, hb⟩ : ∃ b, decide (z.body.lsn = y.body.lsn ∧ z.body.kind = y.body.kind ∧ z.body.level = y.body.level ∧ z.body.right = y.body.right ∧ z.body.high = y.body.high ∧ z.body.items = y.body.items) = b := ⟨_, rfl⟩
    rw [hb] at HC
    have HB := hide hb
    clear hb
    go_enter Tryz.func49, Tryz.ntmps49
    go_wp2_with fail
    refine HC.out.mono ?_
    rintro e w1 ⟨rfl, ho1⟩
    have HO1 := hide (o2 HO.out ho1)
    clear ho1
    go_wp2_with fail
    go_ret
    refine ⟨?_, HO1.out⟩
    cases b with
    | true => exact RB.yes (im_ext HP.out (of_decide_eq_true HB.out))
    | false => exact RB.no (fun h => of_decide_eq_false HB.out (by subst h; exact ⟨rfl, rfl, rfl, rfl, rfl, rfl⟩))
  · have hp' : (z.page == y.page) = false := by simpa using hp
    have HP := hide hp
    clear hp
    go_enter Tryz.func49, Tryz.ntmps49
    go_wp2_with fail
    go_ret
    exact ⟨RB.no (fun h => HP.out (by rw [h])), HO.out⟩
set_option maxRecDepth 100000 in
set_option maxHeartbeats 1600000 in
theorem eqF_any (w : World) (T T' : Nat → Prop) (B B' cp cp' : Nat) (ao ao' : Option Addr) (l l' : List Im) (h : Ims w T B ao l) (h' : Ims w T' B' ao' l') :
    Calls Tryz.prog 48 #[.slice ao l.length cp, .slice ao' l'.length cp', .func (.func 49) #[] #[]] w fun e w' => RB e (l = l') ∧ Only (fun _ => False) w w' := by
  have hlen := h.len
  have hlen' := h'.len
  have HS := hide h
  have HS' := hide h'
  clear h h'
  by_cases hn : l.length = l'.length
  · have hb : ((l.length : Int) != (l'.length : Int)) = false := by simp; omega
    have hn1 : l.length ≤ l'.length := by omega
    have hn2 : l'.length ≤ l.length := by omega
    clear hn
    go_enter Tryz.func48, Tryz.ntmps48
    go_wp2_with fail
    go_loopw [17] (fun y wr => ∃ j : Nat, j ≤ l.length ∧ y = .int .i64 (j : Int) ∧ Hid (l.take j = l'.take j) ∧ Hid (Only (fun _ => False) w wr)) (fun y _ => l.length - (intOf y).toNat)
    case atStart => exact ⟨0, by omega, rfl, rfl, Only.refl _ _⟩
    case round =>
      obtain ⟨j, hj, rfl, HQ, HO⟩ := hrel
      by_cases hlt : j < l.length
      · have hlt' : j < l'.length := by omega
        obtain ⟨o, e1, c1⟩ := (HS.out.more HO.out).at_ (by omega)
        obtain ⟨o', e1', c1'⟩ := (HS'.out.more HO.out).at_ (by omega)
        obtain ⟨D, a, c, k1, _⟩ := c1 j hlt
        obtain ⟨D', a', c', k1', _⟩ := c1' j hlt'
        have hj1 : (j : Int) < (l.length : Int) := by omega
        have hj1' : (j : Int) < (l'.length : Int) := by omega
        have hBl := HS.out.lt (by omega)
        have hBl' := HS'.out.lt (by omega)
        have hsz := HO.out.size
        have hB1 : B' < wr.heap.size := by omega
        obtain ⟨z, hz⟩ : ∃ z, l[j] = z := ⟨_, rfl⟩
        obtain ⟨y, hy⟩ : ∃ y, l'[j] = y := ⟨_, rfl⟩
        have HT : Hid (l.take (j + 1) = l.take j ++ [z]) := by unfold Hid; rw [List.take_succ_eq_append_getElem hlt, hz]
        have HT' : Hid (l'.take (j + 1) = l'.take j ++ [y]) := by unfold Hid; rw [List.take_succ_eq_append_getElem hlt', hy]
        rw [hz] at k1
        rw [hy] at k1'
        have HZ := hide hz
        have HZ' := hide hy
        clear c1 c1' hz hy
        subst e1
        subst e1'
        have HA1 := hide (onlyA wr (.cells #[.int .i64 z.page, .int .i64 z.body.lsn, .int .i64 z.body.kind, .int .i64 z.body.level, .int .i64 z.body.right, .string z.body.high, .slice a z.body.items.length c] 47))
        have HA2 := hide (onlyA (wr.alloc (.cells #[.int .i64 z.page, .int .i64 z.body.lsn, .int .i64 z.body.kind, .int .i64 z.body.level, .int .i64 z.body.right, .string z.body.high, .slice a z.body.items.length c] 47)) (.cells #[.int .i64 y.page, .int .i64 y.body.lsn, .int .i64 y.body.kind, .int .i64 y.body.level, .int .i64 y.body.right, .string y.body.high, .slice a' y.body.items.length c'] 47))
        have HK1 := hide (k1.strs.more (o2 HA1.out HA2.out))
        have HK2 := hide (k1'.strs.more (o2 HA1.out HA2.out))
        obtain ⟨d0, d1, d2, d3, d4, d5, d6, _, _, _, _⟩ := k1
        obtain ⟨g0, g1, g2, g3, g4, g5, g6, _, _, _, _⟩ := k1'
        clear hBl hBl' hsz
        go_wp2_with fail
        refine (sameImage_any _ z y D D' c c' a a' HK1.out HK2.out).mono ?_
        rintro e w1 ⟨hb2, ho1⟩
        obtain ⟨cc, rfl, hc⟩ := hb2.ex
        have HC := hide hc
        have HO1 := hide (o2 HO.out (o2 (o2 HA1.out HA2.out) ho1))
        clear hc hb2 ho1 d0 d1 d2 d3 d4 d5 d6 g0 g1 g2 g3 g4 g5 g6
        cases cc with
        | true =>
          have HF : Hid (l.take (j + 1) = l'.take (j + 1)) := by
            have hzy : z = y := HC.out.1 rfl
            unfold Hid; rw [HT.out, HT'.out, HQ.out, hzy]
          go_wp2_with fail
          go_roundw
          case rel => exact ⟨j + 1, by omega, by go_num, HF, HO1⟩
          case measure => simp [intOf]; omega
        | false =>
          have HF : Hid (¬ l = l') := fun h => by
            have hzy : z = y := by rw [← HZ.out, ← HZ'.out]; simp [h]
            have := HC.out.2 hzy
            cases this
          go_wp2_with fail
          go_ret
          exact ⟨RB.no HF.out, HO1.out⟩
      · have e : l.take j = l := List.take_of_length_le (by omega)
        have e' : l'.take j = l' := List.take_of_length_le (by omega)
        rw [e, e'] at HQ
        go_wp2_with fail
        go_ret
        exact ⟨RB.yes HQ.out, HO.out⟩
  · have hb : ((l.length : Int) != (l'.length : Int)) = true := by simp; omega
    go_enter Tryz.func48, Tryz.ntmps48
    go_wp2_with fail
    go_ret
    exact ⟨RB.no (fun h => hn (by rw [h])), Only.refl _ _⟩
end Go.Proofs.YtfjmidcldjfckaaGreatDoor

namespace Go.Proofs.YtfjmidcldjfckaaGreatDoor
open Go.RowKit

theorem rc_ext {a b : Rc} (h0 : a.lsn = b.lsn) (h1 : a.prev = b.prev) (h2 : a.next = b.next) (h3 : a.kind = b.kind) (h4 : a.xid = b.xid) (h5 : a.page = b.page) (h6 : a.slot = b.slot) (h7 : a.old = b.old) (h8 : a.new = b.new) (h9 : a.redo = b.redo) (h10 : a.data = b.data) (h11 : a.slots = b.slots) (h12 : a.more = b.more) (h13 : a.images = b.images) (h14 : a.pages = b.pages) (h15 : a.txns = b.txns) : a = b := by
  obtain ⟨_, _, _, _, _, _, _, _, _, _, _, _, _, _, _, _⟩ := a
  obtain ⟨_, _, _, _, _, _, _, _, _, _, _, _, _, _, _, _⟩ := b
  simp only at h0 h1 h2 h3 h4 h5 h6 h7 h8 h9 h10 h11 h12 h13 h14 h15
  subst h0 h1 h2 h3 h4 h5 h6 h7 h8 h9 h10 h11 h12 h13 h14 h15
  rfl
theorem two_boxes (w : World) (a b : Rc) (L M : Loc) : ∃ W, (w.alloc (.cells (a.cells L) 28)).alloc (.cells (b.cells M) 28) = W ∧ Bx W w.heap.size a L ∧ Bx W (w.heap.size + 1) b M ∧ Only (fun _ => False) w W := by
  refine ⟨_, rfl, (Bx.new w a L).more (onlyA _ _), ?_, o2 (onlyA _ _) (onlyA _ _)⟩
  have h := Bx.new (w.alloc (.cells (a.cells L) 28)) b M
  simpa using h
end Go.Proofs.YtfjmidcldjfckaaGreatDoor
