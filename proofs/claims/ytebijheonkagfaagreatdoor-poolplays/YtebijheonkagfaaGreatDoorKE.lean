/- The law's own example: what is written, and what is read again. -/
import Derived.Test.YtebijheonkagfaaGreatDoorKC
namespace Go.Proofs.YtebijheonkagfaaGreatDoor
open Go.RowKit
structure Dk.Wk (D : Dk) (n : Nat) (f : Nat → List UInt8) : Prop where
  dead : D.dead = false
  armed : D.armed = 0
  len : D.old.length = n
  cur : ∀ k, k < n → D.cur k = f k
theorem Dk.Wk.new (n : Nat) : (Dk.new n).Wk n (fun _ => List.replicate 64 0) := by
  refine ⟨rfl, rfl, by simp [Dk.new], fun k hk => ?_⟩; unfold Dk.cur Dk.new
  simp [List.getD_eq_getElem?_getD, hk]
theorem Dk.Wk.put {D : Dk} {n : Nat} {f : Nat → List UInt8} (h : D.Wk n f) (k : Nat) (b : List UInt8) : ((D.put k b).act).Wk n (fun j => if j = k then b else f j) := by
  refine ⟨?_, ?_, h.len, fun j hj => ?_⟩
  · show (if D.armed = 0 then D.dead else _) = false
    rw [if_pos h.armed]
    exact h.dead
  · show (if D.armed = 0 then 0 else _) = (0 : Int)
    rw [if_pos h.armed]
  · have hc := h.cur j hj
    unfold Dk.cur at hc ⊢
    show ((if j = k then some b else D.fresh j).getD (D.old.getD j [])) = _
    by_cases e : j = k
    · rw [if_pos e, if_pos e]
      rfl
    · rw [if_neg e, if_neg e]
      exact hc
theorem Dk.Wk.writes {D : Dk} {n : Nat} {f : Nat → List UInt8} (cs : List (List UInt8)) (k : Nat) (h : D.Wk n f) : (D.writes k cs).2 = 0 ∧ (D.writes k cs).1.Wk n (fun j => if k ≤ j ∧ j < k + cs.length then cs.getD (j - k) [] else f j) := by
  induction cs generalizing D f k with
  | nil =>
    refine ⟨rfl, ?_⟩
    have e : (fun j => if k ≤ j ∧ j < k + ([] : List (List UInt8)).length then ([] : List (List UInt8)).getD (j - k) [] else f j) = f := by
      funext j
      rw [if_neg (by simp)]
    rw [e]
    exact h
  | cons b r ih =>
    have hw : D.writes k (b :: r) = Dk.writes (D.put k b).act (k + 1) r := by
      rw [Dk.writes, if_neg (by rw [h.armed]; omega)]
    rw [hw]; obtain ⟨h1, h2⟩ := ih (k + 1) (h.put k b); refine ⟨h1, ?_⟩
    have e : (fun j => if k + 1 ≤ j ∧ j < k + 1 + r.length then r.getD (j - (k + 1)) [] else if j = k then b else f j) = (fun j => if k ≤ j ∧ j < k + (b :: r).length then (b :: r).getD (j - k) [] else f j) := by
      funext j
      by_cases hj : j = k
      · subst hj
        rw [if_neg (by omega), if_pos rfl, if_pos (by simp), Nat.sub_self]
        rfl
      · rw [if_neg hj]
        by_cases hr : k + 1 ≤ j ∧ j < k + 1 + r.length
        · rw [if_pos hr, if_pos (by rw [List.length_cons]; omega), show j - k = (j - (k + 1)) + 1 by omega, List.getD_cons_succ]
        · rw [if_neg hr, if_neg (by rw [List.length_cons]; omega)]
    rw [← e]
    exact h2
theorem Dk.Wk.sync {D : Dk} {n : Nat} {f : Nat → List UInt8} (h : D.Wk n f) : D.sync.2 = 0 ∧ D.sync.1.Wk n f := by
  have e : D.sync = (D.act.synced, 0) := by
    unfold Dk.sync; rw [h.dead, h.armed]
    rfl
  rw [e]; refine ⟨rfl, ?_, ?_, ?_, fun k hk => ?_⟩
  · show (if D.armed = 0 then D.dead else _) = false
    rw [if_pos h.armed]
    exact h.dead
  · show (if D.armed = 0 then 0 else _) = (0 : Int)
    rw [if_pos h.armed]
  · show ((List.range D.old.length).map _).length = n
    rw [List.length_map, List.length_range, h.len]
  · show (none : Option (List UInt8)).getD (((List.range D.old.length).map D.act.cur).getD k []) = f k
    rw [Option.getD_none, List.getD_eq_getElem?_getD, List.getElem?_map, List.getElem?_range (by rw [h.len]; exact hk)]
    exact h.cur k hk
theorem Dk.Wk.write {D : Dk} {n : Nat} {f : Nat → List UInt8} (h : D.Wk n f) (a c : Nat) (l : List UInt8) (hl : l.length = 64 * c) (ha : a + c ≤ n) : (D.write (a : Int) l).2 = 0 ∧ (D.write (a : Int) l).1.Wk n (fun j => if a ≤ j ∧ j < a + c then (l.drop (64 * (j - a))).take 64 else f j) := by
  have e : D.write (a : Int) l = D.writes a (chunks c l) := by
    unfold Dk.write; rw [h.dead, h.len, hl]
    rw [if_neg (by simp), if_pos (by
      refine ⟨by omega, ?_⟩; unfold hasB
      simp
      omega), Int.toNat_natCast, show 64 * c / 64 = c by omega]
  rw [e]; obtain ⟨h1, h2⟩ := Dk.Wk.writes (chunks c l) a h; refine ⟨h1, h2.dead, h2.armed, h2.len, fun k hk => ?_⟩; rw [h2.cur k hk, chunks_len]
  by_cases hr : a ≤ k ∧ k < a + c
  · rw [if_pos hr, if_pos hr, List.getD_eq_getElem?_getD, chunks_get c l (k - a) (by omega)]
    rfl
  · rw [if_neg hr, if_neg hr]
def sm : Rc := ⟨0, 0, 0, 8, 0, 1, 0, 0, 0, 0, ⟨#[]⟩, [], [], [], [], []⟩
section
variable {ops : Array Oper} {rest : List Oper} {o : Oper} {a : Act} {w : World} {Q : Exit → Act → World → Prop}
end
theorem LogAt.owned {W : World} {l d frm n base : Nat} (h : LogAt W l d (Lg.new frm n) 0 none 0 (.slice none 0 0)) : LogOw W l d (Lg.new frm n) base (.slice none 0 0) (.slice none 0 0) :=
  ⟨h.c0, h.c1, h.c2, h.c3, h.c4, h.c5, h.c6, h.c7, h.c8, h.fz, h.lt, ⟨World.ownsRow_nil _ _ _ _, rfl⟩, World.ownsRow_nil _ _ _ _, (by simp [Value.ownBlock]), (by simp [Value.ownBlock]), (fun k e => by simp [Value.ownBlock] at e)⟩
abbrev zs64 : List UInt8 := List.replicate 64 0
end Go.Proofs.YtebijheonkagfaaGreatDoor
