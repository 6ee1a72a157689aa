/- Parts. -/
import Derived.Test.YtpnbhddmdfcjdaaK22
set_option maxRecDepth 100000
namespace Go.Proofs.Ytpnbhddmdfcjdaa
open Go.RowKit
/-- A page in the variable's block b, its items in block B. -/
structure PgB (W : World) (b : Nat) (p : Pg) (B : Nat) (ao : Option Addr) (cp : Nat) : Prop where
  pag : Pag W b (.int .i64 p.lsn) (.int .i64 p.kind) (.int .i64 p.level) (.int .i64 p.right) (.string p.high) (.slice ao p.items.length cp)
  strs : Strs W B ao p.items
  fit : Fit ao p.items.length cp
theorem PgB.kept {S : Nat → Prop} {W W' : World} {b B cp : Nat} {p : Pg} {ao : Option Addr} (h : PgB W b p B ao cp) (ho : Only S W W') (hb : ¬ S b) (hB : 0 < p.items.length → ¬ S B) : PgB W' b p B ao cp :=
  ⟨h.pag.kept ho hb, h.strs.kept ho hB, h.fit⟩
theorem PgB.more {W W' : World} {b B cp : Nat} {p : Pg} {ao : Option Addr} (h : PgB W b p B ao cp) (ho : Only (fun _ => False) W W') : PgB W' b p B ao cp := h.kept ho (fun h => h) (fun _ h => h)
theorem PgB.new {w : World} {p : Pg} {B cp : Nat} {ao : Option Addr} (hS : Strs w B ao p.items) (hF : Fit ao p.items.length cp) :
    PgB (w.alloc (.cells #[.int .i64 p.lsn, .int .i64 p.kind, .int .i64 p.level, .int .i64 p.right, .string p.high, .slice ao p.items.length cp] 30)) w.heap.size p B ao cp :=
  ⟨Pag.new w _ _ _ _ _ _, hS.more (onlyA _ _), hF⟩
theorem PgB.put {w : World} {b : Nat} {v0 v1 v2 v3 v4 v5 : Value} (h : Pag w b v0 v1 v2 v3 v4 v5) {p : Pg} {B cp : Nat} {ao : Option Addr} (hS : Strs w B ao p.items) (hF : Fit ao p.items.length cp) (hB : 0 < p.items.length → B ≠ b) :
    PgB ((((((w.setCell ⟨b, 0, none⟩ (.int .i64 p.lsn)).setCell ⟨b, 1, none⟩ (.int .i64 p.kind)).setCell ⟨b, 2, none⟩ (.int .i64 p.level)).setCell ⟨b, 3, none⟩ (.int .i64 p.right)).setCell ⟨b, 4, none⟩ (.string p.high)).setCell ⟨b, 5, none⟩ (.slice ao p.items.length cp)) b p B ao cp :=
  ⟨h.six _ _ _ _ _ _, hS.kept (Only.six w b _ _ _ _ _ _) hB, hF⟩
/-- Numbers that a slice leads to, in block B. -/
structure Nz (w : World) (B : Nat) (ao : Option Addr) (l : List Int) : Prop where
  at_ : 0 < l.length → ∃ o, ao = some ⟨B, o, none⟩ ∧ ∀ j (h : j < l.length), w.cell? ⟨B, o + j, none⟩ = some (.int .i64 l[j])
  wf : ∀ x ∈ l, I64 x
  lt : 0 < l.length → B < w.heap.size
  len : l.length < 9223372036854775808
theorem Nz.nil (w : World) (B : Nat) (ao : Option Addr) : Nz w B ao [] := ⟨fun h => absurd h (by simp), fun _ h => by (cases h), fun h => absurd h (by simp), by simp⟩
theorem Nz.kept {S : Nat → Prop} {w w' : World} {B : Nat} {ao : Option Addr} {l : List Int} (h : Nz w B ao l) (ho : Only S w w') (hS : 0 < l.length → ¬ S B) : Nz w' B ao l :=
  ⟨fun h0 => by
    obtain ⟨o, e, hc⟩ := h.at_ h0
    exact ⟨o, e, fun j hj => (ho.cell (p := ⟨B, o + j, none⟩) (h.lt h0) (hS h0)).trans (hc j hj)⟩, h.wf, fun h0 => Nat.lt_of_lt_of_le (h.lt h0) ho.size, h.len⟩
theorem Nz.more {w w' : World} {B : Nat} {ao : Option Addr} {l : List Int} (h : Nz w B ao l) (ho : Only (fun _ => False) w w') : Nz w' B ao l := h.kept ho (fun _ h => h)
theorem Nz.one (w : World) (a : Int) (ha : I64 a) : Nz (w.alloc (.cells #[.int .i64 a] 3)) w.heap.size (some ⟨w.heap.size, 0, none⟩) [a] :=
  ⟨fun _ => ⟨0, rfl, fun j hj => by
    match j, hj with
    | 0, _ => simp⟩, fun x hx => by simp at hx; subst hx; exact ha, fun _ => by simp, by simp⟩
theorem snot_mem_take {l : List Int} {x : Int} {j : Nat} (h : ∀ k (hk : k < l.length), k < j → l[k] ≠ x) (hj : l.length ≤ j) : x ∉ l := by
  intro hm
  obtain ⟨k, hk, e⟩ := List.getElem_of_mem hm
  exact h k hk (by omega) e
/-- A number was returned: not below 0 just if P. -/
structure RJs (e : Ending) (P : Prop) : Prop where
  ex : ∃ c : Int, e = .returned (.int .i64 c) ∧ (0 ≤ c ↔ P)
set_option maxRecDepth 100000 in
set_option maxHeartbeats 800000 in
theorem sindex_any (w : World) (B cp : Nat) (ao : Option Addr) (l : List Int) (x : Int) (h : Nz w B ao l) :
    Calls Try.prog 93 #[.slice ao l.length cp, .int .i64 x] w fun e w' => RJs e (x ∈ l) ∧ w' = w := by
  have hlen := h.len
  have HS := hide h
  clear h
  go_enter Try.func93, Try.ntmps93
  go_wp2_with fail
  go_loop [8] (fun y => ∃ j : Nat, j ≤ l.length ∧ y = .int .i64 (j : Int) ∧ Hid (∀ k (hk : k < l.length), k < j → l[k] ≠ x)) (fun y => l.length - (intOf y).toNat)
  case atStart => exact ⟨0, by omega, rfl, (fun k _ hk => by omega)⟩
  case round =>
    obtain ⟨j, hj, rfl, HQ⟩ := hrel
    by_cases hlt : j < l.length
    · obtain ⟨o, e1, c1⟩ := HS.out.at_ (by omega)
      have k1 := c1 j hlt
      obtain ⟨z, hz⟩ : ∃ z, l[j] = z := ⟨_, rfl⟩
      have HZ := hide hz
      rw [hz] at k1
      clear c1 hz
      subst e1
      by_cases he : z = x
      · have hm : x ∈ l := by rw [← he, ← HZ.out]; exact List.getElem_mem hlt
        have HM := hide hm
        clear hm
        subst he
        go_wp2_with fail
        go_ret
        exact ⟨⟨_, rfl, fun _ => HM.out, fun _ => by omega⟩, rfl⟩
      · have hb : (x == z) = false := by simp [Ne.symm he]
        go_wp2_with fail
        go_round
        case rel =>
          refine ⟨j + 1, by omega, by go_num, ?_⟩
          intro k hk hkj
          by_cases ek : k = j
          · subst ek; rw [HZ.out]; exact he
          · exact HQ.out k hk (by omega)
        case measure => simp [intOf]; omega
    · have HM := hide (snot_mem_take HQ.out (by omega))
      go_wp2_with fail
      go_ret
      exact ⟨⟨_, rfl, fun h => absurd h (by decide), fun h => absurd h HM.out⟩, rfl⟩
set_option maxRecDepth 100000 in
set_option maxHeartbeats 800000 in
theorem scontains_any (w : World) (B cp : Nat) (ao : Option Addr) (l : List Int) (x : Int) (h : Nz w B ao l) :
    Calls Try.prog 86 #[.slice ao l.length cp, .int .i64 x] w fun e w' => e = .returned (.bool (decide (x ∈ l))) ∧ w' = w := by
  have HC := hide (sindex_any w B cp ao l x h)
  clear h
  go_enter Try.func86, Try.ntmps86
  go_wp2_with fail
  refine HC.out.mono ?_
  rintro e w1 ⟨⟨c, rfl, hc⟩, rfl⟩
  have HP := hide hc
  clear hc HC
  by_cases h0 : 0 ≤ c
  · have g0 : decide (0 ≤ c) = true := decide_eq_true h0
    go_wp2_with fail
    go_ret
    exact ⟨ret_bool (by rw [decide_eq_true (HP.out.1 h0)]), rfl⟩
  · have g0 : decide (0 ≤ c) = false := decide_eq_false h0
    go_wp2_with fail
    go_ret
    exact ⟨ret_bool (by rw [decide_eq_false (fun h => by have := HP.out.2 h; omega)]), rfl⟩
end Go.Proofs.Ytpnbhddmdfcjdaa
