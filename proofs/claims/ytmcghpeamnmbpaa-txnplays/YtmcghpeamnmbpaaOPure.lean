/- The open transactions as plain data. -/
import Derived.Test.YtmcghpeamnmbpaaDBase
namespace Go.Proofs.Ytmcghpeamnmbpaa

/-- Numbers of 64 bits. -/
def N64 (x : Int) : Prop := -9223372036854775808 ≤ x ∧ x < 9223372036854775808
/-- A transaction: its snapshot's next, its snapshot's list, its id, its first and last record, how many may be undone. -/
structure Tx where
  nx : Int
  act : List Int
  xid : Int
  fst : Int
  lst : Int
  und : Int
def Tx.new (nx : Int) (act : List Int) : Tx := ⟨nx, act, 0, 0, 0, 0⟩
/-- The transaction with its id, and with one more record. -/
def Tx.take (t : Tx) (x : Int) : Tx := { t with xid := x }
def Tx.log (t : Tx) (l : Int) (u : Bool) : Tx := { t with fst := if t.fst = 0 then l else t.fst, lst := l, und := if u then t.und + 1 else t.und }
/-- The open ones, by sessions. -/
abbrev Tt := Int → Option Tx
def Tt.none : Tt := fun _ => Option.none
def Tt.set (f : Tt) (a : Int) (t : Tx) : Tt := fun j => if j = a then some t else f j
def Tt.drop (f : Tt) (a : Int) : Tt := fun j => if j = a then Option.none else f j
theorem Tt.set_same (f : Tt) (a : Int) (t : Tx) : f.set a t a = some t := by simp [Tt.set]
theorem Tt.set_other (f : Tt) {a b : Int} (t : Tx) (h : b ≠ a) : f.set a t b = f b := by simp [Tt.set, h]
theorem Tt.drop_same (f : Tt) (a : Int) : f.drop a a = Option.none := by simp [Tt.drop]
theorem Tt.drop_other (f : Tt) {a b : Int} (h : b ≠ a) : f.drop a b = f b := by simp [Tt.drop, h]
/-- An open one has that id. -/
def Tt.Has (f : Tt) (x : Int) : Prop := ∃ a t, f a = some t ∧ t.xid = x
/-- What holds of all tables after at most n calls. -/
structure Tt.Ok (f : Tt) (n : Nat) : Prop where
  who : ∀ a t, f a = some t → N64 a
  und : ∀ a t, f a = some t → 0 ≤ t.und ∧ t.und ≤ n
  one : ∀ a b s t, f a = some s → f b = some t → s.xid ≠ 0 → s.xid = t.xid → a = b
  fl : ∀ a t, f a = some t → 0 ≤ t.fst ∧ t.fst ≤ t.lst ∧ (t.lst ≠ 0 → t.fst ≠ 0)
theorem Tt.Ok.none : Tt.none.Ok 0 := ⟨(fun _ _ h => by cases h), (fun _ _ h => by cases h), (fun _ _ _ _ h => by cases h), (fun _ _ h => by cases h)⟩
theorem Tt.Ok.mono {f : Tt} {n m : Nat} (h : f.Ok n) (hm : n ≤ m) : f.Ok m := ⟨h.who, fun a t e => ⟨(h.und a t e).1, by have := (h.und a t e).2; omega⟩, h.one, h.fl⟩
theorem Tt.Ok.drop {f : Tt} {n : Nat} (h : f.Ok n) (a : Int) : (f.drop a).Ok n := by
  have k : ∀ b t, f.drop a b = some t → f b = some t := fun b t e => by
    by_cases hb : b = a
    · subst hb; rw [Tt.drop_same] at e; cases e
    · rwa [Tt.drop_other f hb] at e
  exact ⟨fun b t e => h.who b t (k b t e), fun b t e => h.und b t (k b t e), fun b c s t e1 e2 => h.one b c s t (k _ _ e1) (k _ _ e2), fun b t e => h.fl b t (k b t e)⟩
theorem Tt.Ok.set {f : Tt} {n : Nat} (h : f.Ok n) {a : Int} (ha : N64 a) {t : Tx} (hu : 0 ≤ t.und ∧ t.und ≤ n) (hx : t.xid = 0 ∨ ∀ b s, b ≠ a → f b = some s → s.xid ≠ t.xid) (hl : 0 ≤ t.fst ∧ t.fst ≤ t.lst ∧ (t.lst ≠ 0 → t.fst ≠ 0)) : (f.set a t).Ok n := by
  have k : ∀ b s, f.set a t b = some s → (b = a ∧ s = t) ∨ (b ≠ a ∧ f b = some s) := fun b s e => by
    by_cases hb : b = a
    · subst hb; rw [Tt.set_same] at e; cases e; exact .inl ⟨rfl, rfl⟩
    · rw [Tt.set_other f t hb] at e; exact .inr ⟨hb, e⟩
  refine ⟨fun b s e => ?_, fun b s e => ?_, fun b c s u e1 e2 h0 he => ?_, fun b s e => ?_⟩
  · rcases k b s e with ⟨rfl, rfl⟩ | ⟨_, e⟩
    · exact ha
    · exact h.who b s e
  · rcases k b s e with ⟨rfl, rfl⟩ | ⟨_, e⟩
    · exact hu
    · exact h.und b s e
  · rcases k b s e1 with ⟨b1, s1⟩ | ⟨nb, f1⟩
    · rcases k c u e2 with ⟨c1, u1⟩ | ⟨nc, f2⟩
      · rw [b1, c1]
      · rcases hx with hx | hx
        · rw [s1, hx] at h0; exact absurd rfl h0
        · rw [s1] at he; exact absurd he.symm (hx c u nc f2)
    · rcases k c u e2 with ⟨c1, u1⟩ | ⟨nc, f2⟩
      · rw [u1] at he
        rcases hx with hx | hx
        · rw [hx] at he; exact absurd he h0
        · exact absurd he (hx b s nb f1)
      · exact h.one b c s u f1 f2 h0 he
  · rcases k b s e with ⟨rfl, rfl⟩ | ⟨_, e⟩
    · exact hl
    · exact h.fl b s e
/-- What the calls answer, and what they leave. -/
def beginE (f : Tt) (a : Int) : Int := if (f a).isSome then 183 else 0
def beginF (f : Tt) (a nx : Int) (act : List Int) : Tt := if (f a).isSome then f else f.set a (Tx.new nx act)
open Classical in
noncomputable def takeE (f : Tt) (a x : Int) : Int := match f a with
  | some t => if x < 1 ∨ t.xid ≠ 0 ∨ f.Has x then 1 else 0
  | none => 182
open Classical in
noncomputable def takeF (f : Tt) (a x : Int) : Tt := match f a with
  | some t => if x < 1 ∨ t.xid ≠ 0 ∨ f.Has x then f else f.set a (t.take x)
  | none => f
def logE (f : Tt) (a l : Int) : Int := match f a with
  | some t => if t.xid = 0 ∨ l ≤ t.lst then 1 else 0
  | none => 182
def logF (f : Tt) (a l : Int) (u : Bool) : Tt := match f a with
  | some t => if t.xid = 0 ∨ l ≤ t.lst then f else f.set a (t.log l u)
  | none => f
def endE (f : Tt) (a : Int) : Int := if (f a).isSome then 0 else 182
def Tx.zero : Tx := ⟨0, [], 0, 0, 0, 0⟩
def ofT (f : Tt) (a : Int) : Tx := (f a).getD Tx.zero
theorem Tt.drop_none {f : Tt} {a : Int} (h : f a = Option.none) : f.drop a = f := by
  funext j
  by_cases e : j = a
  · subst e; rw [Tt.drop_same, h]
  · exact Tt.drop_other f e
theorem beginF_ok {f : Tt} {n : Nat} (h : f.Ok n) {a : Int} (ha : N64 a) (nx : Int) (act : List Int) : (beginF f a nx act).Ok n := by
  unfold beginF
  split
  · exact h
  · exact h.set ha ⟨by simp [Tx.new], by simp [Tx.new]⟩ (.inl rfl) ⟨by simp [Tx.new], by simp [Tx.new], by simp [Tx.new]⟩
theorem takeF_ok {f : Tt} {n : Nat} (h : f.Ok n) (a x : Int) : (takeF f a x).Ok n := by
  unfold takeF
  split
  · rename_i t ht
    split
    · exact h
    · rename_i hc
      exact h.set (h.who a t ht) (h.und a t ht) (.inr fun b s _ hs e => hc (.inr (.inr ⟨b, s, hs, e⟩))) (h.fl a t ht)
  · exact h
theorem logF_ok {f : Tt} {n : Nat} (h : f.Ok n) (a l : Int) (u : Bool) : (logF f a l u).Ok (n + 1) := by
  unfold logF
  split
  · rename_i t ht
    split
    · exact h.mono (by omega)
    · rename_i hc
      have hu := h.und a t ht
      have hl := h.fl a t ht
      refine (h.mono (Nat.le_succ n)).set (h.who a t ht) ?_ (.inr fun b s nb hs e => ?_) ?_
      · unfold Tx.log
        cases u
        · exact ⟨hu.1, by have := hu.2; simp only; omega⟩
        · exact ⟨by have := hu.1; simp only [if_true]; omega, by have := hu.2; simp only [if_true]; omega⟩
      · have e' : s.xid = t.xid := e
        exact nb (h.one b a s t hs ht (by rw [e']; exact fun e0 => hc (.inl e0)) e')
      · unfold Tx.log
        simp only
        have h1 : ¬ l ≤ t.lst := fun e => hc (.inr e)
        split <;> refine ⟨by omega, by omega, by omega⟩
  · exact h.mono (by omega)
/-- A call. -/
structure Cl where
  ask : Int
  who : Int
  n : Int
  flag : Bool
  nx : Int
  act : List Int
noncomputable def doF (f : Tt) (c : Cl) : Tt := if c.ask = 0 then beginF f c.who c.nx c.act else if c.ask = 1 then takeF f c.who c.n else if c.ask = 2 then logF f c.who c.n c.flag else if c.ask = 3 then f.drop c.who else f
theorem doF_ok {f : Tt} {n : Nat} (h : f.Ok n) (c : Cl) (hw : N64 c.who) : (doF f c).Ok (n + 1) := by
  unfold doF
  repeat' split
  · exact (beginF_ok h hw _ _).mono (by omega)
  · exact (takeF_ok h _ _).mono (by omega)
  · exact logF_ok h _ _ _
  · exact (h.drop _).mono (by omega)
  · exact h.mono (by omega)
/-- Only this session's may change. -/
def Tt.But (a : Int) (f g : Tt) : Prop := ∀ b, b ≠ a → g b = f b
theorem beginF_but (f : Tt) (a nx : Int) (act : List Int) : Tt.But a f (beginF f a nx act) := by
  intro b hb
  unfold beginF
  split
  · rfl
  · exact Tt.set_other f _ hb
theorem takeF_but (f : Tt) (a x : Int) : Tt.But a f (takeF f a x) := by
  intro b hb
  unfold takeF
  cases hf : f a with
  | none => rfl
  | some t =>
    simp only
    split
    · rfl
    · exact Tt.set_other f _ hb
theorem logF_but (f : Tt) (a l : Int) (u : Bool) : Tt.But a f (logF f a l u) := by
  intro b hb
  unfold logF
  cases hf : f a with
  | none => rfl
  | some t =>
    simp only
    split
    · rfl
    · exact Tt.set_other f _ hb
theorem doF_but (f : Tt) (c : Cl) : Tt.But c.who f (doF f c) := by
  unfold doF
  repeat' split
  · exact beginF_but f _ _ _
  · exact takeF_but f _ _
  · exact logF_but f _ _ _
  · exact fun b hb => Tt.drop_other f hb
  · exact fun b _ => rfl
theorem Tt.But.trans {a : Int} {f g h : Tt} (h1 : Tt.But a f g) (h2 : Tt.But a g h) : Tt.But a f h := fun b hb => (h2 b hb).trans (h1 b hb)
theorem Tt.But.drop {a : Int} {f g : Tt} (h : Tt.But a (f.drop a) g) : g.drop a = f.drop a := by
  funext b
  by_cases e : b = a
  · subst e; rw [Tt.drop_same, Tt.drop_same]
  · rw [Tt.drop_other g e, h b e]
/-- The rows of numbers that rise are told by what they have. -/
theorem ints_one {L M : List Int} (h : L.Pairwise (· < ·)) (k : M.Pairwise (· < ·)) (hm : ∀ a, a ∈ L ↔ a ∈ M) : L = M := by
  refine List.Perm.eq_of_pairwise (le := fun a b : Int => a < b) (fun a b _ _ h1 h2 => by omega) h k ?_
  exact (List.perm_ext_iff_of_nodup (h.imp (fun hab e => by omega)) (k.imp (fun hab e => by omega))).2 hm
theorem prs_one {L M : List (Int × Int)} (h : L.Pairwise (fun p q => p.1 < q.1)) (k : M.Pairwise (fun p q => p.1 < q.1)) (hm : ∀ a, a ∈ L ↔ a ∈ M) : L = M := by
  refine List.Perm.eq_of_pairwise (le := fun a b : Int × Int => a.1 < b.1) (fun a b _ _ h1 h2 => by omega) h k ?_
  exact (List.perm_ext_iff_of_nodup (h.imp (fun hab e => by rw [e] at hab; omega)) (k.imp (fun hab e => by rw [e] at hab; omega))).2 hm
/-- Those that have an id, rising. -/
structure BgIs (f : Tt) (B : List (Int × Int)) : Prop where
  up : B.Pairwise (fun p q => p.1 < q.1)
  mem : ∀ p, p ∈ B ↔ ∃ a t, f a = some t ∧ t.xid ≠ 0 ∧ p = (t.xid, t.lst)
theorem BgIs.one {f : Tt} {B C : List (Int × Int)} (h : BgIs f B) (k : BgIs f C) : C = B := prs_one k.up h.up (fun p => (k.mem p).trans (h.mem p).symm)
/-- The sessions, rising. -/
structure WhIs (f : Tt) (L : List Int) : Prop where
  up : L.Pairwise (· < ·)
  mem : ∀ a, a ∈ L ↔ ∃ t, f a = some t
theorem WhIs.one {f : Tt} {L M : List Int} (h : WhIs f L) (k : WhIs f M) : M = L := ints_one k.up h.up (fun a => (k.mem a).trans (h.mem a).symm)
/-- A session's snapshot. -/
def snapT (f : Tt) (a : Int) : Int × List Int := ((ofT f a).nx, (ofT f a).act)
/-- The snapshots, by sessions. -/
def SnIs (f : Tt) (S : List (Int × List Int)) : Prop := ∃ L, WhIs f L ∧ S = L.map (snapT f)
theorem SnIs.one {f : Tt} {S T : List (Int × List Int)} (h : SnIs f S) (k : SnIs f T) : T = S := by
  obtain ⟨L, h1, rfl⟩ := h
  obtain ⟨M, k1, rfl⟩ := k
  rw [h1.one k1]
/-- The least first record. -/
structure OlIs (f : Tt) (n : Int) : Prop where
  no : n = 0 → ∀ a t, f a = some t → t.fst = 0
  is : n ≠ 0 → (∃ a t, f a = some t ∧ t.fst = n) ∧ ∀ a t, f a = some t → t.fst ≠ 0 → n ≤ t.fst
theorem OlIs.one {f : Tt} {m n : Int} (h : OlIs f m) (k : OlIs f n) : n = m := by
  by_cases e : m = 0
  · by_cases e2 : n = 0
    · omega
    · obtain ⟨⟨a, t, h1, h2⟩, _⟩ := k.is e2
      have := h.no e a t h1
      omega
  · obtain ⟨⟨a, t, h1, h2⟩, h3⟩ := h.is e
    by_cases e2 : n = 0
    · have := k.no e2 a t h1
      omega
    · obtain ⟨⟨b, s, k1, k2⟩, k3⟩ := k.is e2
      have a1 := h3 b s k1 (by omega)
      have a2 := k3 a t h1 (by omega)
      omega
end Go.Proofs.Ytmcghpeamnmbpaa
