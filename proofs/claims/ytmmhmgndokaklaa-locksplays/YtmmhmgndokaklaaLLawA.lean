/- The state of a law's walk: a table, made since the call began. -/
import Derived.Test.YtmmhmgndokaklaaLOpen
namespace Go.Proofs.Ytmmhmgndokaklaa
open Go.RowKit Go.Maps

structure Lk (w W : World) (t h m n : Nat) (T : Tb) : Prop where
  tab : Tab W t h m n T
  only : Only (fun _ => False) w W
  lt0 : w.heap.size ≤ t
  lt1 : w.heap.size ≤ h
  lt2 : w.heap.size ≤ m
theorem Lk.more {w W W' : World} {t h m n : Nat} {T : Tb} (H : Lk w W t h m n T) (ho : Only (fun _ => False) W W') : Lk w W' t h m n T :=
  ⟨H.tab.more ho, H.only.trans ho (fun _ _ h => h), H.lt0, H.lt1, H.lt2⟩
theorem Lk.did {w W W' : World} {t h m n n' : Nat} {T T' : Tb} (H : Lk w W t h m n T) (hT : Tab W' t h m n' T') (ho : Only (tw h m) W W') : Lk w W' t h m n' T' :=
  ⟨hT, H.only.trans ho (fun i hi e => by rcases e with e | e <;> subst e; exact absurd H.lt1 (by omega); exact absurd H.lt2 (by omega)), H.lt0, H.lt1, H.lt2⟩
/-- What a call keeps: cells of other blocks. -/
structure Kp (h m : Nat) (W W' : World) : Prop where
  only : Only (tw h m) W W'
theorem Kp.cell {h m : Nat} {W W' : World} (H : Kp h m W W') {b o : Nat} {v : Value} (hc : W.cell? ⟨b, o, none⟩ = some v) (h1 : b ≠ h) (h2 : b ≠ m) : W'.cell? ⟨b, o, none⟩ = some v :=
  (H.only.cell (p := ⟨b, o, none⟩) (World.block_lt_of_cell? W _ hc) (by rintro (e | e); exact h1 e; exact h2 e)).trans hc
theorem Only.kp {h m : Nat} {W W' : World} (H : Only (fun _ => False) W W') : Kp h m W W' := ⟨H.mono (fun _ _ e => e.elim)⟩
theorem lk_new (w : World) : Calls Try.prog 8 #[] w fun e w' => ∃ t h m, e = .returned (.pointer (some ⟨t, 0, none⟩)) ∧ Lk w w' t h m 0 Tb.new := by
  refine (lnew_any w).mono ?_
  rintro e w' ⟨t, h, m, rfl, h0, h1, h2, hT, hO⟩
  exact ⟨t, h, m, rfl, hT, hO, h0, h1, h2⟩
theorem lk_holder {w W : World} {t h m n : Nat} {T : Tb} (H : Lk w W t h m n T) (k : ByteArray) (hk : k.size ≤ maxLen) : Calls Try.prog 14 #[.pointer (some ⟨t, 0, none⟩), .string k] W fun e w' =>
    e = .returned (.tuple #[.int .i64 ((T.hold k).getD 0), .bool (T.hold k).isSome]) ∧ w' = W := lholder_any W t h m n T H.tab k hk
theorem lk_waits {w W : World} {t h m n : Nat} {T : Tb} (H : Lk w W t h m n T) (x : Int) (hx : N64 x) : Calls Try.prog 16 #[.pointer (some ⟨t, 0, none⟩), .int .i64 x] W fun e w' =>
    e = .returned (.tuple #[.string ((T.wait x).getD ⟨#[]⟩), .bool (T.wait x).isSome]) ∧ Lk w w' t h m n T ∧ Only (fun _ => False) W w' := by
  refine (lwaits_any W t h m n T H.tab x hx).mono ?_
  rintro e w' ⟨rfl, hO⟩
  exact ⟨rfl, H.more hO, hO⟩
theorem lk_try {w W : World} {t h m n : Nat} {T : Tb} (H : Lk w W t h m n T) (who : Int) (k : ByteArray) (hw : N64 who) (hk : k.size ≤ maxLen) (hn : n < 4398046511104) : Calls Try.prog 12 #[.pointer (some ⟨t, 0, none⟩), .int .i64 who, .string k] W fun e w' =>
    e = .returned (.tuple #[.bool (T.tryR who k).1, .int .i64 (T.tryR who k).2.1]) ∧ Lk w w' t h m (n + 1) (T.tryR who k).2.2 ∧ Kp h m W w' := by
  refine (ltry_any W t h m n T H.tab who k hw hk (by unfold maxLen; omega)).mono ?_
  rintro e w' ⟨rfl, hT, hO⟩
  exact ⟨rfl, H.did hT hO, ⟨hO⟩⟩
theorem lk_release {w W : World} {t h m n : Nat} {T : Tb} (H : Lk w W t h m n T) (who : Int) (hw : N64 who) (hn : n ≤ 4398046511104) : Calls Try.prog 10 #[.pointer (some ⟨t, 0, none⟩), .int .i64 who] W fun e w' =>
    ∃ v L, e = .returned v ∧ FreeIs (T.quit who) who L ∧ IRow w' W.heap.size v L ∧ L.length ≤ n ∧ Lk w w' t h m n (T.freed who) ∧ Kp h m W w' := by
  refine (lrelease_any W t h m n T H.tab who hw hn).mono ?_
  rintro e w' ⟨v, L, rfl, h1, h2, h3, hT, hO⟩
  exact ⟨v, L, rfl, h1, h2, h3, H.did hT hO, ⟨hO⟩⟩
theorem lk_held {w W : World} {t h m n : Nat} {T : Tb} (H : Lk w W t h m n T) (who : Int) (hn : n ≤ 4398046511104) : Calls Try.prog 19 #[.pointer (some ⟨t, 0, none⟩), .int .i64 who] W fun e w' =>
    ∃ v L, e = .returned v ∧ HeldIs T who L ∧ SRow w' W.heap.size v L ∧ L.length ≤ n ∧ Lk w w' t h m n T ∧ Only (fun _ => False) W w' := by
  refine (lheld_any W t h m n T H.tab who hn).mono ?_
  rintro e w' ⟨v, L, rfl, h1, h2, h3, hO⟩
  exact ⟨v, L, rfl, h1, h2, h3, H.more hO, hO⟩
theorem lk_waiting {w W : World} {t h m n : Nat} {T : Tb} (H : Lk w W t h m n T) (hn : n ≤ 4398046511104) : Calls Try.prog 21 #[.pointer (some ⟨t, 0, none⟩)] W fun e w' =>
    ∃ v L, e = .returned v ∧ WaitIs T L ∧ IRow w' W.heap.size v L ∧ L.length ≤ n ∧ Lk w w' t h m n T ∧ Only (fun _ => False) W w' := by
  refine (lwaiting_any W t h m n T H.tab hn).mono ?_
  rintro e w' ⟨v, L, rfl, h1, h2, h3, hO⟩
  exact ⟨v, L, rfl, h1, h2, h3, H.more hO, hO⟩
theorem Lk.mono {w W : World} {t h m n n' : Nat} {T : Tb} (H : Lk w W t h m n T) (hn : n ≤ n') : Lk w W t h m n' T := ⟨H.tab.mono hn, H.only, H.lt0, H.lt1, H.lt2⟩
/-- A call that came in, in a variable. -/
structure Box (W : World) (b h m : Nat) (c : Bool) (x : Int) (s : ByteArray) : Prop where
  c0 : W.cell? ⟨b, 0, none⟩ = some (.bool c)
  c1 : W.cell? ⟨b, 1, none⟩ = some (.int .i64 x)
  c2 : W.cell? ⟨b, 2, none⟩ = some (.string s)
  n1 : b ≠ h
  n2 : b ≠ m
theorem Box.kept {W W' : World} {b h m : Nat} {c : Bool} {x : Int} {s : ByteArray} (H : Box W b h m c x s) (k : Kp h m W W') : Box W' b h m c x s :=
  ⟨k.cell H.c0 H.n1 H.n2, k.cell H.c1 H.n1 H.n2, k.cell H.c2 H.n1 H.n2, H.n1, H.n2⟩
theorem Box.new {w W : World} {t h m n : Nat} {T : Tb} (H : Lk w W t h m n T) (c : Bool) (x : Int) (s : ByteArray) : Box (W.alloc (.cells #[.bool c, .int .i64 x, .string s] 29)) W.heap.size h m c x s := by
  have := H.tab.sizes
  refine ⟨by simp, by simp, by simp, by omega, by omega⟩
theorem Tb.tryR_none {T : Tb} {who : Int} {k : ByteArray} (h : T.hold k = none) : (T.tryR who k).1 = true ∧ (T.tryR who k).2.1 = 0 ∧ (T.tryR who k).2.2.hold k = some who := by
  have e : (T.quit who).hold k = none := h
  unfold Tb.tryR
  rw [e]
  exact ⟨rfl, rfl, by simp [Tb.grab]⟩
theorem Tb.tryR_own {T : Tb} {who : Int} {k : ByteArray} (h : T.hold k = some who) : (T.tryR who k).1 = true ∧ (T.tryR who k).2.1 = 0 ∧ (T.tryR who k).2.2.hold k = some who := by
  have e : (T.quit who).hold k = some who := h
  unfold Tb.tryR
  rw [e]
  simp [Tb.grab]
theorem Tb.tryR_other {T : Tb} {who y : Int} {k : ByteArray} (h : T.hold k = some y) (hne : y ≠ who) : (T.tryR who k).1 = false ∧ (T.tryR who k).2.2.hold k = some y := by
  have e : (T.quit who).hold k = some y := h
  unfold Tb.tryR
  rw [e]
  simp only [hne, if_false]
  split
  · exact ⟨rfl, h⟩
  · exact ⟨rfl, h⟩
theorem Tb.freed_hold {T : Tb} {who b : Int} {k : ByteArray} : (T.freed who).hold k = some b ↔ (T.hold k = some b ∧ b ≠ who) := Tb.drop_hold
theorem Tb.freed_none {T : Tb} {who : Int} {k : ByteArray} (h : T.hold k = none ∨ T.hold k = some who) : (T.freed who).hold k = none := by
  cases e : (T.freed who).hold k with
  | none => rfl
  | some b =>
    obtain ⟨h1, h2⟩ := Tb.freed_hold.1 e
    rcases h with h | h
    · rw [h] at h1; cases h1
    · rw [h] at h1; exact absurd (Option.some.inj h1).symm h2
end Go.Proofs.Ytmmhmgndokaklaa
