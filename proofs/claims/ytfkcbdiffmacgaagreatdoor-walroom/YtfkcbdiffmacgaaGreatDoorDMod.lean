/- A disk as plain data, and what its calls make of it. -/
import Derived.Test.YtfkcbdiffmacgaaGreatDoorDBase
namespace Go.Proofs.YtfkcbdiffmacgaaGreatDoor
open Go.RowKit

/-- A disk: what its sectors have, what the pending ones will have. -/
structure Dk where
  old : List (List UInt8)
  fresh : Nat → Option (List UInt8)
  acts : Int
  armed : Int
  dead : Bool
structure Dk.Ok (D : Dk) : Prop where
  lo : 1 ≤ D.old.length
  hi : D.old.length ≤ 65536
  o64 : ∀ k, k < D.old.length → (D.old.getD k []).length = 64
  f64 : ∀ k b, D.fresh k = some b → k < D.old.length ∧ b.length = 64
  arm0 : 0 ≤ D.armed
  arm1 : D.armed < 9223372036854775808
def Dk.size (D : Dk) : Nat := D.old.length
/-- What a sector is told by. -/
def Dk.cur (D : Dk) (k : Nat) : List UInt8 := (D.fresh k).getD (D.old.getD k [])
/-- One more act. -/
def Dk.act (D : Dk) : Dk := { D with acts := wrap64 (D.acts + 1), armed := if D.armed = 0 then 0 else D.armed - 1, dead := if D.armed = 0 then D.dead else decide (D.armed = 1) }
def Dk.put (D : Dk) (k : Nat) (b : List UInt8) : Dk := { D with fresh := fun j => if j = k then some b else D.fresh j }
/-- Sectors written from a place on, one by one, until it dies. -/
def Dk.writes (D : Dk) (k : Nat) : List (List UInt8) → Dk × Int
  | [] => (D, 0)
  | b :: r => if D.armed = 1 then ((D.put k b).act, 5) else Dk.writes (D.put k b).act (k + 1) r
/-- Bytes cut into sectors. -/
def chunks : Nat → List UInt8 → List (List UInt8)
  | 0, _ => []
  | n + 1, l => l.take 64 :: chunks n (l.drop 64)
def hasB (n : Nat) (a m : Int) : Bool := decide (0 ≤ a) && (decide (0 ≤ m) && decide (m ≤ (n : Int) - a))
def Dk.write (D : Dk) (a : Int) (l : List UInt8) : Dk × Int :=
  if D.dead then (D, 5) else if l.length % 64 = 0 ∧ hasB D.old.length a ((l.length / 64 : Nat) : Int) = true then D.writes a.toNat (chunks (l.length / 64) l) else (D, 20)
def Dk.synced (D : Dk) : Dk := { D with old := (List.range D.old.length).map D.cur, fresh := fun _ => none }
def Dk.sync (D : Dk) : Dk × Int :=
  if D.dead then (D, 5) else if D.armed = 1 then (D.act, 5) else (D.act.synced, 0)
def Dk.arm (D : Dk) (n : Int) : Dk × Int :=
  if D.dead then (D, 5) else if n < 0 then (D, 1) else ({ D with armed := n }, 0)
/-- The sectors from a place on, as bytes. -/
def Dk.bytes (D : Dk) (k n : Nat) : List UInt8 := ((List.range n).map fun i => D.cur (k + i)).flatten
def Dk.read (D : Dk) (a m : Int) : List UInt8 × Int :=
  if D.dead then ([], 5) else if hasB D.old.length a m = true then (D.bytes a.toNat m.toNat, 0) else ([], 20)
/-- The pending sectors, rising. -/
def Dk.pend (D : Dk) : List Nat := (List.range D.old.length).filter fun k => (D.fresh k).isSome
/-- How many bytes a fate keeps. -/
def keptOf (q : Int) : Nat := if q % 3 = 1 then 64 else if q % 3 = 2 then (q / 3 % 65).toNat else 0
def keeps (f : Int) : Nat := keptOf (if f < 0 then -1 - f else f)
def fell (o n : List UInt8) (f : Int) : List UInt8 := n.take (keeps f) ++ o.drop (keeps f)
/-- The fates of pending sectors, one by one. -/
def falls (f : Nat → Option (List UInt8)) (how : List Int) : List Nat → Nat → List (List UInt8) → List (List UInt8)
  | [], _, o => o
  | k :: r, i, o => falls f how r (i + 1) (o.set k (fell (o.getD k []) ((f k).getD []) (how.getD i 0)))
def Dk.crash (D : Dk) (how : List Int) : Dk :=
  { old := falls D.fresh how D.pend 0 D.old, fresh := fun _ => none, acts := D.acts, armed := 0, dead := false }

theorem keeps_le (f : Int) : keeps f ≤ 64 := by
  unfold keeps keptOf
  repeat' split
  all_goals omega
theorem fell_len {o n : List UInt8} {f : Int} (ho : o.length = 64) (hn : n.length = 64) : (fell o n f).length = 64 := by
  have := keeps_le f
  unfold fell
  simp
  omega
theorem getD_set (l : List (List UInt8)) (k j : Nat) (b : List UInt8) : (l.set k b).getD j [] = if j = k ∧ k < l.length then b else l.getD j [] := by
  simp only [List.getD_eq_getElem?_getD, List.getElem?_set]
  by_cases h : k = j
  · subst h
    by_cases h2 : k < l.length
    · simp [h2]
    · simp [h2]
  · have : ¬ j = k := fun e => h e.symm
    simp [h, this]
theorem chunks_len (n : Nat) (l : List UInt8) : (chunks n l).length = n := by
  induction n generalizing l with
  | zero => rfl
  | succ n ih => simp [chunks, ih]
theorem chunks_get (n : Nat) (l : List UInt8) (i : Nat) (hi : i < n) : (chunks n l)[i]? = some ((l.drop (64 * i)).take 64) := by
  induction n generalizing l i with
  | zero => omega
  | succ n ih =>
    cases i with
    | zero => simp [chunks]
    | succ i =>
      simp only [chunks, List.getElem?_cons_succ]
      rw [ih (l.drop 64) i (by omega), List.drop_drop]
      congr 3
      omega
theorem chunks_drop (n : Nat) (l : List UInt8) (i : Nat) (hi : i < n) : (chunks n l).drop i = (l.drop (64 * i)).take 64 :: (chunks n l).drop (i + 1) := by
  have hl := chunks_len n l
  rw [List.drop_eq_getElem_cons (by omega)]
  congr 1
  have := chunks_get n l i hi
  rw [List.getElem?_eq_getElem (by omega)] at this
  exact Option.some.inj this
theorem act_old (D : Dk) : D.act.old = D.old := rfl
theorem act_fresh (D : Dk) : D.act.fresh = D.fresh := rfl
theorem Dk.Ok.act {D : Dk} (h : D.Ok) : D.act.Ok := by
  obtain ⟨a, b, c, d, e, f⟩ := h
  refine ⟨a, b, c, d, ?_, ?_⟩ <;> (simp only [Dk.act]; split <;> omega)
theorem Dk.Ok.put {D : Dk} (h : D.Ok) {k : Nat} {b : List UInt8} (hk : k < D.old.length) (hb : b.length = 64) : (D.put k b).Ok := by
  obtain ⟨a, b', c, d, e, f⟩ := h
  refine ⟨a, b', c, ?_, e, f⟩
  intro j x hx
  simp only [Dk.put] at hx ⊢
  split at hx
  · rename_i hj
    cases hx
    exact ⟨by omega, hb⟩
  · exact d j x hx
theorem Dk.Ok.cur64 {D : Dk} (h : D.Ok) {k : Nat} (hk : k < D.old.length) : (D.cur k).length = 64 := by
  unfold Dk.cur
  cases hf : D.fresh k with
  | none => simpa using h.o64 k hk
  | some b => simpa using (h.f64 k b hf).2
theorem Dk.Ok.synced {D : Dk} (h : D.Ok) : D.synced.Ok := by
  refine ⟨by simpa [Dk.synced] using h.lo, by simpa [Dk.synced] using h.hi, ?_, ?_, h.arm0, h.arm1⟩
  · intro k hk
    have hk' : k < D.old.length := by simpa [Dk.synced] using hk
    simp only [Dk.synced, List.getD_eq_getElem?_getD, List.getElem?_map, List.getElem?_range hk', Option.map_some, Option.getD_some]
    exact h.cur64 hk'
  · intro k b hb
    simp [Dk.synced] at hb
theorem falls_len (f : Nat → Option (List UInt8)) (how : List Int) (p : List Nat) (i : Nat) (o : List (List UInt8)) : (falls f how p i o).length = o.length := by
  induction p generalizing i o with
  | nil => rfl
  | cons k r ih => simp [falls, ih]
theorem falls_64 (f : Nat → Option (List UInt8)) (how : List Int) (p : List Nat) (i : Nat) (o : List (List UInt8)) (hp : ∀ k ∈ p, k < o.length ∧ ((f k).getD []).length = 64) (ho : ∀ k, k < o.length → (o.getD k []).length = 64) :
    ∀ k, k < o.length → ((falls f how p i o).getD k []).length = 64 := by
  induction p generalizing i o with
  | nil => exact ho
  | cons k r ih =>
    intro j hj
    have h1 := hp k (by simp)
    refine ih (i + 1) (o.set k _) (fun x hx => by simpa using hp x (by simp [hx])) (fun x hx => ?_) j (by simpa using hj)
    rw [getD_set]
    split
    · exact fell_len (ho k h1.1) h1.2
    · exact ho x (by simpa using hx)
theorem mem_pend {D : Dk} {k : Nat} : k ∈ D.pend ↔ k < D.old.length ∧ (D.fresh k).isSome = true := by
  simp [Dk.pend]
theorem Dk.Ok.crash {D : Dk} (h : D.Ok) (how : List Int) : (D.crash how).Ok := by
  refine ⟨by simpa [Dk.crash, falls_len] using h.lo, by simpa [Dk.crash, falls_len] using h.hi, ?_, by simp [Dk.crash], by simp [Dk.crash], by simp [Dk.crash]⟩
  intro k hk
  refine falls_64 _ _ _ _ _ ?_ h.o64 k (by simpa [Dk.crash, falls_len] using hk)
  intro j hj
  obtain ⟨h1, h2⟩ := mem_pend.1 hj
  refine ⟨h1, ?_⟩
  cases hf : D.fresh j with
  | none => simp [hf] at h2
  | some b => simpa using (h.f64 j b hf).2
/-- A new disk. -/
def Dk.new (n : Nat) : Dk := { old := List.replicate n (List.replicate 64 0), fresh := fun _ => none, acts := 0, armed := 0, dead := false }
theorem Dk.new_ok {n : Nat} (h1 : 1 ≤ n) (h2 : n ≤ 65536) : (Dk.new n).Ok := by
  refine ⟨by simpa [Dk.new] using h1, by simpa [Dk.new] using h2, ?_, by simp [Dk.new], by simp [Dk.new], by simp [Dk.new]⟩
  intro k hk
  have : k < n := by simpa [Dk.new] using hk
  simp [Dk.new, List.getD_eq_getElem?_getD, this]
end Go.Proofs.YtfkcbdiffmacgaaGreatDoor
