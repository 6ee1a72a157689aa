/- A crash behind a crash, as plain data. -/
import Derived.Test.YtachbonlakbjmaaDDoesX
namespace Go.Proofs.Ytachbonlakbjmaa
open Go.RowKit

theorem chunks_flat (L : List (List UInt8)) (h : ∀ b ∈ L, b.length = 64) : chunks L.length L.flatten = L := by
  induction L with
  | nil => rfl
  | cons b r ih =>
    have hb := h b (by simp)
    simp only [List.length_cons, chunks, List.flatten_cons]
    rw [List.take_left' hb, List.drop_left' hb, ih (fun x hx => h x (by simp [hx]))]
theorem fell_same (o : List UInt8) (f : Int) : fell o o f = o := List.take_append_drop _ _
theorem falls_same (f : Nat → Option (List UInt8)) (how : List Int) (p : List Nat) (i : Nat) (o : List (List UInt8)) (h : ∀ k ∈ p, k < o.length ∧ (f k).getD [] = o.getD k []) : falls f how p i o = o := by
  induction p generalizing i with
  | nil => rfl
  | cons k r ih =>
    obtain ⟨h1, h2⟩ := h k (by simp)
    have e : o.set k (fell (o.getD k []) ((f k).getD []) (how.getD i 0)) = o := by
      rw [h2, fell_same]
      have : o.getD k [] = o[k] := by simp [List.getD_eq_getElem?_getD, h1]
      rw [this]
      exact List.set_getElem_self h1
    unfold falls
    rw [e]
    exact ih (i + 1) (fun x hx => h x (by simp [hx]))
theorem writes_free (D : Dk) (harm : D.armed = 0) (k : Nat) (L : List (List UInt8)) : (D.writes k L).2 = 0 ∧ (D.writes k L).1.old = D.old ∧ (D.writes k L).1.armed = 0 ∧ (D.writes k L).1.dead = D.dead ∧ ∀ j, (D.writes k L).1.fresh j = if k ≤ j ∧ j < k + L.length then some (L.getD (j - k) []) else D.fresh j := by
  induction L generalizing D k with
  | nil => exact ⟨rfl, rfl, harm, rfl, fun j => by rw [if_neg (by simp)]; rfl⟩
  | cons b r ih =>
    have ha : ((D.put k b).act).armed = 0 := by simp [Dk.act, Dk.put, harm]
    obtain ⟨h1, h2, h3, h4, h5⟩ := ih (D.put k b).act ha (k + 1)
    have e : D.writes k (b :: r) = (D.put k b).act.writes (k + 1) r := by
      conv => lhs; unfold Dk.writes
      rw [if_neg (by omega)]
    rw [e]
    refine ⟨h1, h2, h3, h4.trans (by simp [Dk.act, Dk.put, harm]), fun j => ?_⟩
    rw [h5 j]
    by_cases hj : k + 1 ≤ j ∧ j < k + 1 + r.length
    · rw [if_pos hj, if_pos (by simp only [List.length_cons]; omega)]
      obtain ⟨q, rfl⟩ : ∃ q, j = k + 1 + q := ⟨j - (k + 1), by omega⟩
      rw [show k + 1 + q - (k + 1) = q by omega, show k + 1 + q - k = q + 1 by omega]
      rfl
    · rw [if_neg hj]
      show (if j = k then some b else D.fresh j) = _
      by_cases hk : j = k
      · subst hk
        rw [if_pos rfl, if_pos (by simp only [List.length_cons]; omega), Nat.sub_self]
        rfl
      · rw [if_neg hk, if_neg (by simp only [List.length_cons]; omega)]
/-- A disk that has nothing pending, and lives. -/
structure Calm (E : Dk) (n : Nat) : Prop where
  ok : E.Ok
  fresh : E.fresh = fun _ => none
  armed : E.armed = 0
  dead : E.dead = false
  len : E.old.length = n
theorem crash_calm {D : Dk} (h : D.Ok) (how : List Int) : Calm (D.crash how) D.old.length := ⟨h.crash how, rfl, rfl, rfl, by simp [Dk.crash, falls_len]⟩
theorem Calm.pend {E : Dk} {n : Nat} (h : Calm E n) : E.pend = [] := by
  unfold Dk.pend
  rw [h.fresh]
  simp
theorem Calm.crash {E : Dk} {n : Nat} (h : Calm E n) (how : List Int) : E.crash how = E := by
  have e : (E.crash how).old = E.old := by
    show falls E.fresh how E.pend 0 E.old = E.old
    rw [h.pend]
    rfl
  obtain ⟨o, f, a, r, d⟩ := E
  have h1 := h.fresh
  have h2 := h.armed
  have h3 := h.dead
  simp only at h1 h2 h3 e
  subst h1 h2 h3
  unfold Dk.crash at e ⊢
  simp only at e ⊢
  rw [e]
theorem Calm.read {E : Dk} {n : Nat} (h : Calm E n) : E.read 0 (n : Int) = (E.bytes 0 n, 0) := by
  unfold Dk.read
  rw [h.dead, h.len, if_neg (by simp)]
  rw [if_pos (by simp [hasB])]
  rfl
theorem Calm.bytes {E : Dk} {n : Nat} (h : Calm E n) : E.bytes 0 n = E.old.flatten ∧ (∀ b ∈ E.old, b.length = 64) := by
  have hc : ∀ k, E.cur k = E.old.getD k [] := fun k => by unfold Dk.cur; rw [h.fresh]; rfl
  constructor
  · unfold Dk.bytes
    congr 1
    apply List.ext_getElem
    · simp [h.len]
    · intro i h1 h2
      simp only [List.getElem_map, List.getElem_range, Nat.zero_add]
      rw [hc]
      simp [List.getD_eq_getElem?_getD, h2]
  · intro b hb
    obtain ⟨k, hk, rfl⟩ := List.mem_iff_getElem.1 hb
    have := h.ok.o64 k hk
    simpa [List.getD_eq_getElem?_getD, hk] using this
theorem flat64_len (L : List (List UInt8)) (h : ∀ b ∈ L, b.length = 64) : L.flatten.length = 64 * L.length := by
  induction L with
  | nil => rfl
  | cons b r ih =>
    rw [List.flatten_cons, List.length_append, h b (by simp), ih (fun x hx => h x (by simp [hx])), List.length_cons]
    omega
/-- What is there already is written, and the disk crashes: it is there. -/
theorem Calm.again {E : Dk} {n : Nat} (h : Calm E n) (how : List Int) : (E.write 0 (E.bytes 0 n)).2 = 0 ∧ ((E.write 0 (E.bytes 0 n)).1.crash how).read 0 (n : Int) = (E.bytes 0 n, 0) := by
  obtain ⟨hb, h64⟩ := h.bytes
  have hl := flat64_len E.old h64
  rw [h.len] at hl
  have hn : (E.bytes 0 n).length = 64 * n := by rw [hb]; exact hl
  have ew : E.write 0 (E.bytes 0 n) = E.writes 0 E.old := by
    unfold Dk.write
    rw [h.dead, if_neg (by simp), if_pos]
    · rw [hn, show 64 * n / 64 = n by omega, hb, ← h.len, chunks_flat _ h64]
      rfl
    · rw [hn]
      refine ⟨by omega, ?_⟩
      rw [show 64 * n / 64 = n by omega, h.len]
      simp [hasB]
  rw [ew]
  obtain ⟨w1, w2, w3, w4, w5⟩ := writes_free E h.armed 0 E.old
  refine ⟨w1, ?_⟩
  obtain ⟨F, hF⟩ : ∃ F, (E.writes 0 E.old).1 = F := ⟨_, rfl⟩
  rw [hF] at w2 w3 w4 w5 ⊢
  have hold : (F.crash how).old = E.old := by
    show falls F.fresh how F.pend 0 F.old = E.old
    rw [w2]
    refine falls_same _ _ _ _ _ (fun k hk => ?_)
    have hk' := (mem_pend.1 hk).1
    rw [w2] at hk'
    refine ⟨hk', ?_⟩
    rw [w5 k, if_pos ⟨by omega, by omega⟩]
    rfl
  have hlen : (F.crash how).old.length = n := by rw [hold, h.len]
  have e1 : (F.crash how).read 0 (n : Int) = ((F.crash how).bytes 0 n, 0) := by
    unfold Dk.read
    rw [show (F.crash how).dead = false from rfl, if_neg (by simp), hlen, if_pos (by simp [hasB])]
    rfl
  rw [e1]
  have e2 : (F.crash how).bytes 0 n = E.bytes 0 n := by
    unfold Dk.bytes
    congr 1
    apply List.map_congr_left
    intro i _
    unfold Dk.cur
    rw [hold, show (F.crash how).fresh = (fun _ => none) from rfl, h.fresh]
  rw [e2]
end Go.Proofs.Ytachbonlakbjmaa
