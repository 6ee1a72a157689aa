/- Numbers appended to numbers: a list that is owned. -/
import Derived.Test.YtolfmodgkkjnbaaGreatSInts
import Derived.Maps.AppendAt
import Derived.Laws.OwnMore
namespace Go.Proofs.YtolfmodgkkjnbaaGreat
open Go.RowKit

theorem sadd_at (b o n : Nat) : (⟨b, o, none⟩ : Addr).add n = ⟨b, o + n, none⟩ := by
  unfold Addr.add
  split
  · rename_i h; rw [h]; rfl
  · rfl
def zc (l : List Int) : List Value := l.map (Value.int .i64)
theorem zc_append (l m : List Int) : zc (l ++ m) = zc l ++ zc m := by simp [zc]
theorem zc_one (l : List Int) : ∀ u ∈ zc l, u.oneCell' = true := by
  intro u hu
  obtain ⟨s, _, rfl⟩ := List.mem_map.1 hu
  rfl
/-- Numbers that the value v owns, in a block from base on. -/
def Lz (w : World) (base : Nat) (v : Value) (l : List Int) : Prop := w.ownsRow base 3 1 v l.length (zc l)
theorem Lz.nil (w : World) (base : Nat) : Lz w base (.slice none 0 0) [] := World.ownsRow_nil _ _ _ _
theorem Lz.one (w : World) (base : Nat) (hb : base ≤ w.heap.size) (x : Int) : Lz (w.alloc (.cells #[.int .i64 x] 3)) base (.slice (some ⟨w.heap.size, 0, none⟩) 1 1) [x] :=
  World.ownsRow_lit (size := 1) w #[.int .i64 x] 1 hb (by unfold maxLen; omega) rfl
theorem Lz.none (w : World) (base : Nat) (hb : base ≤ w.heap.size) : Lz (w.alloc (.cells #[] 3)) base (.slice (some ⟨w.heap.size, 0, Option.none⟩) 0 0) [] :=
  World.ownsRow_lit (size := 1) w #[] 0 hb (by unfold maxLen; omega) rfl
theorem Lz.kept {S : Nat → Prop} {w w' : World} {base : Nat} {v : Value} {l : List Int} (h : Lz w base v l) (ho : Only S w w') (hS : ∀ k, v.ownBlock = some k → ¬ S k) : Lz w' base v l := by
  obtain ⟨h1, h2⟩ := h
  refine ⟨h1, ?_⟩
  rcases h2 with h2 | ⟨g, cap, cur, hv, hg, hh, r⟩
  · exact .inl h2
  · subst hv
    exact .inr ⟨g, cap, cur, rfl, hg, by rw [ho.block g (Array.getElem?_eq_some_iff.1 hh).1 (hS g rfl)]; exact hh, r⟩
theorem Lz.more {w w' : World} {base : Nat} {v : Value} {l : List Int} (h : Lz w base v l) (ho : Only (fun _ => False) w w') : Lz w' base v l := h.kept ho (fun _ _ h => h)
theorem Lz.lt {w : World} {base : Nat} {v : Value} {l : List Int} (h : Lz w base v l) : ∀ k, v.ownBlock = some k → base ≤ k ∧ k < w.heap.size := fun k hk => World.ownsRow.lt h k hk
theorem Lz.ns {w : World} {base : Nat} {v : Value} {l : List Int} (h : Lz w base v l) (hl : l.length < 9223372036854775808) (hs : ∀ x ∈ l, I64 x) :
    ∃ B ao cp, v = .slice ao l.length cp ∧ Ns w B ao l ∧ (ao = Option.none → cp = 0) ∧ (0 < l.length → base ≤ B) := by
  rcases h.2 with ⟨rfl, h0⟩ | ⟨g, cap, cur, rfl, hb, hg, hn, hm, _⟩
  · have e : l = [] := List.eq_nil_of_length_eq_zero h0
    subst e
    exact ⟨0, Option.none, 0, rfl, Ns.nil _ _ _, fun _ => rfl, fun h => absurd h (by simp)⟩
  · refine ⟨g, some ⟨g, 0, Option.none⟩, cap, rfl, ⟨fun _ => ⟨0, rfl, fun j hj => ?_⟩, hs, fun _ => (Array.getElem?_eq_some_iff.1 hg).1, hl⟩, (fun h => by cases h), fun _ => hb⟩
    rw [Nat.zero_add, World.ownsRow.cellAt h j (by omega)]
    simp [zc, hj]
theorem Ns.none_nil {w : World} {B : Nat} {l : List Int} (h : Ns w B Option.none l) : l = [] := by
  cases l with
  | nil => rfl
  | cons s t =>
    obtain ⟨o, e, _⟩ := h.at_ (by simp)
    cases e
theorem Tryz.infoI : (Tryz.prog.info? 3).map (fun i => (i.zero, i.size, i.bytes)) = some (some (.int .i64 0), 1, 8) := by kernel_rfl
theorem append_ns (w : World) (ty : TypeId) (base : Nat) (v : Value) (l : List Int) (h : Lz w base v l) (B cp : Nat) (ao : Option Addr) (m : List Int) (hm : Ns w B ao m) (hf : ao = Option.none → cp = 0) (hroom : l.length + m.length ≤ 17592186044416) (hbase : base ≤ w.heap.size) :
    ∃ v' w', (Builtin.append_ #[25, 25] ty #[v, .slice ao m.length cp]).run Tryz.prog w = .ok v' w' ∧ Lz w' base v' (l ++ m) ∧ Only (fun k => v.ownBlock = some k) w w' := by
  obtain ⟨i0, hi, hz0, hz1, hz2⟩ := info_parts Tryz.infoI
  cases ao with
  | none =>
    have e := hm.none_nil
    subst e
    have hc := hf rfl
    subst hc
    refine ⟨v, w, run_append_owned_none (P := Tryz.prog) w base 25 ty 3 i0 1 Tryz.underlying25 hi v l.length (zc l) h, by rw [List.append_nil]; exact h, Only.refl _ _⟩
  | some ad =>
    obtain ⟨v', w', hr, h2, h3, _, _⟩ := run_append_own_at (P := Tryz.prog) w base 25 ty 3 i0 (.int .i64 0) 1 8 Tryz.underlying25 hi hz0 hz1 hz2 rfl (by decide) v l.length (zc l) h ad m.length cp (zc m) (by simp [zc])
      (fun j u hu => by
        have hj : j < m.length := by have := (List.getElem?_eq_some_iff.1 hu).1; simpa [zc] using this
        obtain ⟨o, e, hc⟩ := hm.at_ (by omega)
        cases e
        rw [sadd_at, hc j hj, ← hu]
        simp [zc, hj]) (zc_one m) (by unfold maxLen; omega) (by omega) hbase
    refine ⟨v', w', hr, ?_, Only.grown h3 (fun k hk => hk)⟩
    have e : l.length + m.length = (l ++ m).length := by simp
    unfold Lz
    rw [zc_append, ← e]
    exact h2
/-- Which of some is the first that none of them is ahead of. -/
def hfst (m : Int) (l : List Int) (x : Int) : Bool := !l.any (fun o => xbef m o x)
def hor (m : Int) (l : List Int) : Int := (l.find? (hfst m l)).getD 0
set_option maxRecDepth 100000 in
set_option maxHeartbeats 800000 in
theorem clo_any (w : World) (b1 b2 : Nat) (m x o : Int) (hm : I64 m) (hx : I64 x) (ho : I64 o) (c1 : w.cell? ⟨b1, 0, none⟩ = some (.int .i64 m)) (c2 : w.cell? ⟨b2, 0, none⟩ = some (.int .i64 x)) :
    Calls Tryz.prog 64 #[.int .i64 o, .pointer (some ⟨b1, 0, none⟩), .pointer (some ⟨b2, 0, none⟩)] w fun e w' => e = .returned (.bool (xbef m o x)) ∧ w' = w := by
  have HC := hide (before_any m o x w hm ho hx)
  clear hm hx ho
  go_enter Tryz.func64, Tryz.ntmps64
  go_wp2_with fail
  refine HC.out.mono ?_
  rintro e w1 ⟨rfl, rfl⟩
  go_wp2_with fail
  go_ret
  exact ⟨rfl, rfl⟩
set_option maxRecDepth 100000 in
set_option maxHeartbeats 800000 in
theorem ifi_any (w : World) (B cp : Nat) (ao : Option Addr) (l : List Int) (b1 b2 : Nat) (m x : Int) (h : Ns w B ao l) (hm : I64 m) (hx : I64 x) (c1 : w.cell? ⟨b1, 0, none⟩ = some (.int .i64 m)) (c2 : w.cell? ⟨b2, 0, none⟩ = some (.int .i64 x)) :
    Calls Tryz.prog 84 #[.slice ao l.length cp, .func (.func 64) #[] #[.pointer (some ⟨b1, 0, none⟩), .pointer (some ⟨b2, 0, none⟩)]] w fun e w' => RJ e (∃ o ∈ l, xbef m o x = true) ∧ w' = w := by
  have hlen := h.len
  have HS := hide h
  have HW := hide h.wf
  have HM := hide hm
  have HX := hide hx
  have K1 := hide c1
  have K2 := hide c2
  clear h hm hx c1 c2
  go_enter Tryz.func84, Tryz.ntmps84
  go_wp2_with fail
  go_loop [8] (fun y => ∃ j : Nat, j ≤ l.length ∧ y = .int .i64 (j : Int) ∧ Hid (∀ o ∈ l.take j, xbef m o x = false)) (fun y => l.length - (intOf y).toNat)
  case atStart => exact ⟨0, by omega, rfl, (fun n hn => by simp at hn)⟩
  case round =>
    obtain ⟨j, hj, rfl, HQ⟩ := hrel
    by_cases hlt : j < l.length
    · obtain ⟨o, e1, c1⟩ := HS.out.at_ (by omega)
      have k1 := c1 j hlt
      obtain ⟨z, hz⟩ : ∃ z, l[j] = z := ⟨_, rfl⟩
      have HZ : Hid (z ∈ l) := by unfold Hid; rw [← hz]; exact List.getElem_mem hlt
      have HT : Hid (l.take (j + 1) = l.take j ++ [z]) := by unfold Hid; rw [List.take_succ_eq_append_getElem hlt, hz]
      rw [hz] at k1
      clear c1 hz
      subst e1
      go_wp2_with fail
      refine (clo_any w b1 b2 m x z HM.out HX.out (HW.out z HZ.out) K1.out K2.out).mono ?_
      rintro e w1 ⟨rfl, hw⟩
      obtain rfl := hw.symm
      clear hw
      obtain ⟨b, hb⟩ : ∃ b, xbef m z x = b := ⟨_, rfl⟩
      have HB := hide hb
      rw [hb]
      clear hb
      cases b with
      | true =>
        go_wp2_with fail
        go_ret
        exact ⟨⟨_, rfl, fun _ => ⟨z, HZ.out, HB.out⟩, fun _ => by omega⟩, rfl⟩
      | false =>
        go_wp2_with fail
        go_round
        case rel =>
          refine ⟨j + 1, by omega, by go_num, ?_⟩
          unfold Hid
          rw [HT.out]
          intro n hn
          rcases List.mem_append.1 hn with hn | hn
          · exact HQ.out n hn
          · simp at hn; subst hn; exact HB.out
        case measure => simp [intOf]; omega
    · have e : l.take j = l := List.take_of_length_le (by omega)
      rw [e] at HQ
      go_wp2_with fail
      go_ret
      exact ⟨⟨_, rfl, fun h => absurd h (by decide), fun ⟨o, ho, h⟩ => by have := HQ.out o ho; rw [this] at h; cases h⟩, rfl⟩
theorem any_iff {l : List Int} {p : Int → Bool} {c : Int} (h : 0 ≤ c ↔ ∃ o ∈ l, p o = true) : decide (0 ≤ c) = l.any p := by
  by_cases h0 : 0 ≤ c
  · rw [decide_eq_true h0, Eq.comm, List.any_eq_true]; exact h.1 h0
  · rw [decide_eq_false h0, Eq.comm, List.any_eq_false]
    intro x hx hp
    exact h0 (h.2 ⟨x, hx, hp⟩)
set_option maxRecDepth 100000 in
set_option maxHeartbeats 800000 in
theorem cfi_any (w : World) (B cp : Nat) (ao : Option Addr) (l : List Int) (b1 b2 : Nat) (m x : Int) (h : Ns w B ao l) (hm : I64 m) (hx : I64 x) (c1 : w.cell? ⟨b1, 0, none⟩ = some (.int .i64 m)) (c2 : w.cell? ⟨b2, 0, none⟩ = some (.int .i64 x)) :
    Calls Tryz.prog 63 #[.slice ao l.length cp, .func (.func 64) #[] #[.pointer (some ⟨b1, 0, none⟩), .pointer (some ⟨b2, 0, none⟩)]] w fun e w' => e = .returned (.bool (l.any (fun o => xbef m o x))) ∧ w' = w := by
  have HC := hide (ifi_any w B cp ao l b1 b2 m x h hm hx c1 c2)
  clear h hm hx c1 c2
  go_enter Tryz.func63, Tryz.ntmps63
  go_wp2_with fail
  refine HC.out.mono ?_
  rintro e w1 ⟨⟨c, rfl, hc⟩, rfl⟩
  have HP := hide (any_iff hc)
  clear hc HC
  by_cases h0 : 0 ≤ c
  · have g0 : decide (0 ≤ c) = true := decide_eq_true h0
    rw [g0] at HP
    go_wp2_with fail
    go_ret
    exact ⟨ret_bool HP.out, rfl⟩
  · have g0 : decide (0 ≤ c) = false := decide_eq_false h0
    rw [g0] at HP
    go_wp2_with fail
    go_ret
    exact ⟨ret_bool HP.out, rfl⟩
set_option maxRecDepth 100000 in
set_option maxHeartbeats 800000 in
theorem isFirst_any (w : World) (B cp : Nat) (ao : Option Addr) (l : List Int) (m x : Int) (h : Ns w B ao l) (hm : I64 m) (hx : I64 x) :
    Calls Tryz.prog 48 #[.int .i64 m, .int .i64 x, .slice ao l.length cp] w fun e w' => e = .returned (.bool (hfst m l x)) ∧ Only (fun _ => False) w w' := by
  have ho := o2 (onlyA w (.cells #[.int .i64 m] 3)) (onlyA _ (.cells #[.int .i64 x] 3))
  have HC := hide (cfi_any _ B cp ao l w.heap.size (w.heap.size + 1) m x (h.more ho) hm hx (by simp) (by simp))
  have HO := hide ho
  unfold hfst
  obtain ⟨b, hb⟩ : ∃ b, l.any (fun o => xbef m o x) = b := ⟨_, rfl⟩
  rw [hb] at HC ⊢
  clear hb h hm hx ho
  go_enter Tryz.func48, Tryz.ntmps48
  go_wp2_with fail
  refine HC.out.mono ?_
  rintro e w1 ⟨rfl, rfl⟩
  go_wp2_with fail
  go_ret
  exact ⟨rfl, HO.out⟩
end Go.Proofs.YtolfmodgkkjnbaaGreat
