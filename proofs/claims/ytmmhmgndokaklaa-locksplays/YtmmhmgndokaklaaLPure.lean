/- Who holds which key and who waits for which one, as plain data. -/
import Derived.Test.YtmmhmgndokaklaaDBase
namespace Go.Proofs.Ytmmhmgndokaklaa
open Go.RowKit

/-- Numbers of 64 bits. -/
def N64 (x : Int) : Prop := -9223372036854775808 ≤ x ∧ x < 9223372036854775808
/-- A table: who holds a key, and which key somebody waits for. -/
structure Tb where
  hold : ByteArray → Option Int
  wait : Int → Option ByteArray
/-- a waits for b. -/
def Tb.Next (T : Tb) (a b : Int) : Prop := ∃ k, T.wait a = some k ∧ T.hold k = some b
/-- b is in the chain of a. -/
inductive Tb.Rch (T : Tb) : Int → Int → Prop
  | one {a b : Int} : T.Next a b → Tb.Rch T a b
  | step {a b c : Int} : T.Next a b → Tb.Rch T b c → Tb.Rch T a c
theorem Tb.Next.det {T : Tb} {a b c : Int} (h : T.Next a b) (k : T.Next a c) : b = c := by
  obtain ⟨x, h1, h2⟩ := h
  obtain ⟨y, k1, k2⟩ := k
  rw [h1] at k1
  cases k1
  rw [h2] at k2
  exact Option.some.inj k2
theorem Tb.Rch.on {T : Tb} {a b c : Int} (h : T.Rch a c) (k : T.Next a b) : b = c ∨ T.Rch b c := by
  cases h with
  | one h => exact .inl (k.det h)
  | step h g => exact .inr (by rw [k.det h]; exact g)
theorem Tb.Rch.none {T : Tb} {a c : Int} (h : T.Rch a c) (hw : T.wait a = none) : False := by
  cases h with
  | one h => obtain ⟨k, h1, _⟩ := h; rw [hw] at h1; cases h1
  | step h _ => obtain ⟨k, h1, _⟩ := h; rw [hw] at h1; cases h1
/-- A table as calls leave it. -/
structure Tb.Ok (T : Tb) : Prop where
  held : ∀ a k, T.wait a = some k → ∃ b, T.hold k = some b
  rank : ∃ r : Int → Nat, ∀ a b, T.Next a b → r b < r a
  i64 : ∀ k b, T.hold k = some b → N64 b
  w64 : ∀ a k, T.wait a = some k → N64 a ∧ k.size ≤ maxLen
  h64 : ∀ k b, T.hold k = some b → k.size ≤ maxLen
def Tb.new : Tb := ⟨fun _ => none, fun _ => none⟩
theorem Tb.new_ok : Tb.new.Ok :=
  ⟨(fun _ _ h => by cases h), ⟨fun _ => 0, (fun a b h => by obtain ⟨k, h, _⟩ := h; cases h)⟩, (fun _ _ h => by cases h), (fun _ _ h => by cases h), (fun _ _ h => by cases h)⟩
def Tb.quit (T : Tb) (who : Int) : Tb := { T with wait := fun a => if a = who then none else T.wait a }
def Tb.grab (T : Tb) (who : Int) (key : ByteArray) : Tb := { T with hold := fun k => if k = key then some who else T.hold k }
def Tb.queue (T : Tb) (who : Int) (key : ByteArray) : Tb := { T with wait := fun a => if a = who then some key else T.wait a }
/-- Nobody waits for what somebody holds. -/
def Tb.loose (T : Tb) (who : Int) : Tb := { T with wait := fun a => match T.wait a with
  | none => none
  | some k => if T.hold k = some who then none else some k }
def Tb.drop (T : Tb) (who : Int) : Tb := { T with hold := fun k => if T.hold k = some who then none else T.hold k }
def Tb.freed (T : Tb) (who : Int) : Tb := ((T.quit who).loose who).drop who
theorem Tb.quit_none (T : Tb) (who : Int) : (T.quit who).wait who = none := by simp [Tb.quit]
theorem Tb.quit_next {T : Tb} {who a b : Int} (h : (T.quit who).Next a b) : T.Next a b ∧ a ≠ who := by
  obtain ⟨k, h1, h2⟩ := h
  simp only [Tb.quit] at h1 h2
  split at h1
  · cases h1
  · rename_i hne
    exact ⟨⟨k, h1, h2⟩, hne⟩
theorem Tb.Ok.quit {T : Tb} (h : T.Ok) (who : Int) : (T.quit who).Ok := by
  have hw : ∀ a k, (T.quit who).wait a = some k → T.wait a = some k := fun a k e => by
    simp only [Tb.quit] at e
    split at e
    · cases e
    · exact e
  obtain ⟨r, hr⟩ := h.rank
  exact ⟨fun a k e => h.held a k (hw a k e), ⟨r, fun a b e => hr a b (Tb.quit_next e).1⟩, h.i64, fun a k e => h.w64 a k (hw a k e), h.h64⟩
theorem Tb.Ok.grab {T : Tb} (h : T.Ok) {who : Int} {key : ByteArray} (hw : N64 who) (hk : key.size ≤ maxLen) (hn : T.hold key = none ∨ T.hold key = some who) : (T.grab who key).Ok := by
  have hx : ∀ a k, T.wait a = some k → (T.grab who key).hold k = T.hold k := fun a k e => by
    simp only [Tb.grab]
    split
    · rename_i e1
      subst e1
      obtain ⟨b, hb⟩ := h.held a k e
      rcases hn with hn | hn
      · rw [hn] at hb; cases hb
      · exact hn.symm
    · rfl
  obtain ⟨r, hr⟩ := h.rank
  refine ⟨fun a k e => ?_, ⟨r, fun a b e => ?_⟩, fun k b e => ?_, h.w64, fun k b e => ?_⟩
  · rw [hx a k e]; exact h.held a k e
  · obtain ⟨k, h1, h2⟩ := e
    rw [hx a k h1] at h2
    exact hr a b ⟨k, h1, h2⟩
  · simp only [Tb.grab] at e
    split at e
    · cases e; exact hw
    · exact h.i64 k b e
  · simp only [Tb.grab] at e
    split at e
    · rename_i e1; subst e1; exact hk
    · exact h.h64 k b e
open Classical in
theorem Tb.Ok.queue {T : Tb} (h : T.Ok) {who ho : Int} {key : ByteArray} (hw : N64 who) (hk : key.size ≤ maxLen) (hn : T.hold key = some ho) (hq : T.wait who = none) (hne : ho ≠ who) (hr : ¬ T.Rch ho who) : (T.queue who key).Ok := by
  have hx : ∀ a k, (T.queue who key).wait a = some k → (a = who ∧ k = key) ∨ (a ≠ who ∧ T.wait a = some k) := fun a k e => by
    simp only [Tb.queue] at e
    split at e
    · rename_i e1
      cases e
      exact .inl ⟨e1, rfl⟩
    · rename_i e1
      exact .inr ⟨e1, e⟩
  obtain ⟨r, hrk⟩ := h.rank
  refine ⟨fun a k e => ?_, ⟨fun x => r x + (if x = who ∨ T.Rch x who then r ho + 1 else 0), fun a b e => ?_⟩, h.i64, fun a k e => ?_, h.h64⟩
  · rcases hx a k e with ⟨_, rfl⟩ | ⟨_, e⟩
    · exact ⟨ho, hn⟩
    · exact h.held a k e
  · obtain ⟨k, h1, h2⟩ := e
    show r b + (if b = who ∨ T.Rch b who then r ho + 1 else 0) < r a + (if a = who ∨ T.Rch a who then r ho + 1 else 0)
    rcases hx a k h1 with ⟨rfl, rfl⟩ | ⟨e1, e2⟩
    · have : b = ho := by
        have : T.hold k = some b := h2
        rw [hn] at this
        exact (Option.some.inj this).symm
      subst this
      rw [if_neg (by rintro (e | e); exact hne e; exact hr e), if_pos (.inl rfl)]
      omega
    · have hN : T.Next a b := ⟨k, e2, h2⟩
      have h1 := hrk a b hN
      by_cases hb : b = who ∨ T.Rch b who
      · rw [if_pos hb, if_pos (.inr (by rcases hb with e | e; exact .one (e ▸ hN); exact .step hN e))]
        omega
      · rw [if_neg hb]
        omega
  · rcases hx a k e with ⟨rfl, rfl⟩ | ⟨_, e⟩
    · exact ⟨hw, hk⟩
    · exact h.w64 a k e
theorem Tb.loose_wait {T : Tb} {who a : Int} {k : ByteArray} : (T.loose who).wait a = some k ↔ (T.wait a = some k ∧ T.hold k ≠ some who) := by
  simp only [Tb.loose]
  cases h : T.wait a with
  | none => simp
  | some x =>
    by_cases e : T.hold x = some who
    · simp only [e, if_true]
      constructor
      · intro h; cases h
      · rintro ⟨h1, h2⟩
        cases h1
        exact absurd e h2
    · simp only [e, if_false]
      constructor
      · intro h; cases h; exact ⟨rfl, e⟩
      · rintro ⟨h1, _⟩
        exact h1
theorem Tb.Ok.loose {T : Tb} (h : T.Ok) (who : Int) : (T.loose who).Ok := by
  obtain ⟨r, hr⟩ := h.rank
  refine ⟨fun a k e => h.held a k (Tb.loose_wait.1 e).1, ⟨r, fun a b e => ?_⟩, h.i64, fun a k e => h.w64 a k (Tb.loose_wait.1 e).1, h.h64⟩
  obtain ⟨k, h1, h2⟩ := e
  exact hr a b ⟨k, (Tb.loose_wait.1 h1).1, h2⟩
theorem Tb.drop_hold {T : Tb} {who b : Int} {k : ByteArray} : (T.drop who).hold k = some b ↔ (T.hold k = some b ∧ b ≠ who) := by
  simp only [Tb.drop]
  split
  · rename_i e
    constructor
    · intro h; cases h
    · rintro ⟨h1, h2⟩
      rw [e] at h1
      exact absurd (Option.some.inj h1).symm h2
  · rename_i e
    constructor
    · intro h; exact ⟨h, fun e1 => e (by rw [h, e1])⟩
    · rintro ⟨h1, _⟩; exact h1
theorem Tb.Ok.drop {T : Tb} (h : T.Ok) (who : Int) (hl : ∀ a k, T.wait a = some k → T.hold k ≠ some who) : (T.drop who).Ok := by
  obtain ⟨r, hr⟩ := h.rank
  refine ⟨fun a k e => ?_, ⟨r, fun a b e => ?_⟩, fun k b e => h.i64 k b (Tb.drop_hold.1 e).1, h.w64, fun k b e => h.h64 k b (Tb.drop_hold.1 e).1⟩
  · obtain ⟨b, hb⟩ := h.held a k e
    exact ⟨b, Tb.drop_hold.2 ⟨hb, fun e1 => hl a k e (by rw [hb, e1])⟩⟩
  · obtain ⟨k, h1, h2⟩ := e
    exact hr a b ⟨k, h1, (Tb.drop_hold.1 h2).1⟩
theorem Tb.Ok.freed {T : Tb} (h : T.Ok) (who : Int) : (T.freed who).Ok :=
  ((h.quit who).loose who).drop who (fun _ _ e => (Tb.loose_wait.1 e).2)
open Classical in
/-- What Try answers: whether the key was taken, the error's number, and the table behind it. -/
noncomputable def Tb.tryR (T : Tb) (who : Int) (key : ByteArray) : Bool × Int × Tb :=
  match (T.quit who).hold key with
  | none => (true, 0, (T.quit who).grab who key)
  | some ho => if ho = who then (true, 0, (T.quit who).grab who key) else if (T.quit who).Rch ho who then (false, 181, T.quit who) else (false, 0, (T.quit who).queue who key)
theorem Tb.Ok.tryR {T : Tb} (h : T.Ok) {who : Int} {key : ByteArray} (hw : N64 who) (hk : key.size ≤ maxLen) : (T.tryR who key).2.2.Ok := by
  unfold Tb.tryR
  split
  · rename_i hn
    exact (h.quit who).grab hw hk (.inl hn)
  · rename_i ho hn
    split
    · rename_i e
      exact (h.quit who).grab hw hk (.inr (by rw [hn, e]))
    · rename_i e
      split
      · exact h.quit who
      · rename_i hr
        exact (h.quit who).queue hw hk hn (T.quit_none who) e hr
/-- Bytes in their order. -/
def bl (a b : ByteArray) : Prop := a.data.toList < b.data.toList
/-- The keys that somebody holds, rising. -/
structure HeldIs (T : Tb) (who : Int) (L : List ByteArray) : Prop where
  up : L.Pairwise bl
  mem : ∀ k, k ∈ L ↔ T.hold k = some who
/-- Who waits, rising. -/
structure WaitIs (T : Tb) (L : List Int) : Prop where
  up : L.Pairwise (· < ·)
  mem : ∀ a, a ∈ L ↔ ∃ k, T.wait a = some k
/-- Who waits for what somebody holds, rising. -/
structure FreeIs (T : Tb) (who : Int) (L : List Int) : Prop where
  up : L.Pairwise (· < ·)
  mem : ∀ a, a ∈ L ↔ ∃ k, T.wait a = some k ∧ T.hold k = some who
theorem ints_one {L M : List Int} (h : L.Pairwise (· < ·)) (k : M.Pairwise (· < ·)) (hm : ∀ a, a ∈ L ↔ a ∈ M) : L = M := by
  refine List.Perm.eq_of_pairwise (le := fun a b : Int => a < b) (fun a b _ _ h1 h2 => by omega) h k ?_
  exact (List.perm_ext_iff_of_nodup (h.imp (fun hab e => by omega)) (k.imp (fun hab e => by omega))).2 hm
theorem bl_irrefl (a : ByteArray) : ¬ bl a a := by unfold bl; exact List.lt_irrefl _
theorem bl_asymm {a b : ByteArray} (h : bl a b) (k : bl b a) : False := List.lt_asymm h k
theorem bl_trans {a b c : ByteArray} (h : bl a b) (k : bl b c) : bl a c := List.lt_trans h k
theorem bl_ne {a b : ByteArray} (h : bl a b) : a ≠ b := fun e => bl_irrefl a (by rw [← e] at h; exact h)
theorem keys_one {L M : List ByteArray} (h : L.Pairwise bl) (k : M.Pairwise bl) (hm : ∀ a, a ∈ L ↔ a ∈ M) : L = M := by
  refine List.Perm.eq_of_pairwise (le := bl) (fun a b _ _ h1 h2 => (bl_asymm h1 h2).elim) h k ?_
  exact (List.perm_ext_iff_of_nodup (h.imp bl_ne) (k.imp bl_ne)).2 hm
theorem HeldIs.one {T : Tb} {who : Int} {L M : List ByteArray} (h : HeldIs T who L) (k : HeldIs T who M) : L = M := keys_one h.up k.up (fun a => (h.mem a).trans (k.mem a).symm)
theorem WaitIs.one {T : Tb} {L M : List Int} (h : WaitIs T L) (k : WaitIs T M) : L = M := ints_one h.up k.up (fun a => (h.mem a).trans (k.mem a).symm)
theorem FreeIs.one {T : Tb} {who : Int} {L M : List Int} (h : FreeIs T who L) (k : FreeIs T who M) : L = M := ints_one h.up k.up (fun a => (h.mem a).trans (k.mem a).symm)
end Go.Proofs.Ytmmhmgndokaklaa
