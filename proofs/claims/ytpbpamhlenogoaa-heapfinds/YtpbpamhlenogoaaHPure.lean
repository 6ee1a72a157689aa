/- A page of versions as plain data: an item put into a slot, whether the page still fits, how much room there is. -/
import Derived.Test.YtpbpamhlenogoaaUMem
namespace Go.Proofs.Ytpbpamhlenogoaa
open Go.RowKit

/-- A list with another item in a place, or one more. -/
def putL (l : List ByteArray) (i : Nat) (s : ByteArray) : List ByteArray := l.take i ++ s :: l.drop (i + 1)
theorem putL_isz (l : List ByteArray) (i : Nat) (s : ByteArray) : isz (putL l i s) = isz (putL l i ⟨#[]⟩) + s.size := by
  unfold putL
  rw [isz_app, isz_app, isz_cons, isz_cons]
  have : (⟨#[]⟩ : ByteArray).size = 0 := rfl
  omega
theorem putL_len (l : List ByteArray) (i : Nat) (s : ByteArray) (h : i ≤ l.length) : (putL l i s).length = if i < l.length then l.length else l.length + 1 := by
  unfold putL
  simp only [List.length_append, List.length_take, List.length_cons, List.length_drop]
  split <;> omega
theorem putL_len2 (l : List ByteArray) (i : Nat) (s t : ByteArray) : (putL l i s).length = (putL l i t).length := by
  unfold putL
  simp
theorem putL_le (l : List ByteArray) (i : Nat) (s : ByteArray) (h : i ≤ l.length) : l.length ≤ (putL l i s).length ∧ i < (putL l i s).length ∧ (putL l i s).length ≤ l.length + 1 := by
  rw [putL_len l i s h]
  split <;> omega
theorem putL_at (l : List ByteArray) (i : Nat) (s : ByteArray) (h : i ≤ l.length) (hi : i < (putL l i s).length) : (putL l i s)[i] = s := by
  simp only [putL] at *
  rw [List.getElem_append_right (by simp; omega)]
  simp [Nat.min_eq_left h]
theorem putL_other (l : List ByteArray) (i j : Nat) (s : ByteArray) (h : i ≤ l.length) (hj : j < l.length) (hn : j ≠ i) (hj' : j < (putL l i s).length) : (putL l i s)[j] = l[j] := by
  simp only [putL] at *
  by_cases hlt : j < i
  · rw [List.getElem_append_left (by simp; omega), List.getElem_take]
  · rw [List.getElem_append_right (by simp; omega)]
    simp only [List.length_take, Nat.min_eq_left h]
    obtain ⟨d, hd⟩ : ∃ d, j - i = d + 1 := ⟨j - i - 1, by omega⟩
    simp only [hd, List.getElem_cons_succ, List.getElem_drop]
    congr 1
    omega
theorem isz_split (l : List ByteArray) (i : Nat) (h : i < l.length) : isz l = isz (l.take i) + (2 + l[i].size) + isz (l.drop (i + 1)) := by
  conv => lhs; rw [← List.take_append_drop i l]
  rw [isz_app, List.drop_eq_getElem_cons h, isz_cons]
  omega
theorem putL_free (l : List ByteArray) (h : slotL l < l.length) : isz (putL l (slotL l) ⟨#[]⟩) = isz l := by
  have h0 := slotL_eq h
  rw [isz_split l _ h]
  unfold putL
  rw [isz_app, isz_cons, h0]
  have : (⟨#[]⟩ : ByteArray).size = 0 := rfl
  omega
theorem putL_end (l : List ByteArray) (h : slotL l = l.length) : isz (putL l (slotL l) ⟨#[]⟩) = isz l + 2 := by
  rw [h]
  unfold putL
  rw [isz_app, isz_cons, List.take_of_length_le (Nat.le_refl _), List.drop_of_length_le (by omega), isz_nil]
  have : (⟨#[]⟩ : ByteArray).size = 0 := rfl
  omega
theorem putL_least (l : List ByteArray) : isz l ≤ isz (putL l (slotL l) ⟨#[]⟩) := by
  have := slotL_le l
  by_cases h : slotL l < l.length
  · rw [putL_free l h]; exact Nat.le_refl _
  · rw [putL_end l (by omega)]; omega
/-- Whether a page of these items is not too long. -/
def fitL (h : ByteArray) (L : List ByteArray) : Bool := decide (h.size ≤ 255 ∧ L.length ≤ 255 ∧ 20 + h.size + isz L ≤ 512)
theorem fitL_iff {h : ByteArray} {L : List ByteArray} : fitL h L = true ↔ (h.size ≤ 255 ∧ L.length ≤ 255 ∧ 20 + h.size + isz L ≤ 512) := by unfold fitL; simp
theorem fitL_no {h : ByteArray} {L : List ByteArray} : fitL h L = false ↔ ¬ (h.size ≤ 255 ∧ L.length ≤ 255 ∧ 20 + h.size + isz L ≤ 512) := by unfold fitL; simp only [decide_eq_false_iff_not]
/-- What sizeWith answers. -/
def szV (h : ByteArray) (L : List ByteArray) : Int := if fitL h L then ((20 + h.size + isz L : Nat) : Int) else 0
def szE (h : ByteArray) (L : List ByteArray) : Int := if fitL h L then 0 else 121
/-- How much room there is. -/
def roomH (k : Int) (h : ByteArray) (l : List ByteArray) : Nat := if k = 2 ∧ fitL h (putL l (slotL l) ⟨#[]⟩) = true then 512 - (20 + h.size + isz (putL l (slotL l) ⟨#[]⟩)) else 0
theorem roomH_le (k : Int) (h : ByteArray) (l : List ByteArray) : roomH k h l ≤ 512 := by
  unfold roomH
  split <;> omega
theorem room_ins (h : ByteArray) (l : List ByteArray) (s : ByteArray) (hs : 1 ≤ s.size) : fitL h (putL l (slotL l) s) = true ↔ s.size ≤ roomH 2 h l := by
  have e1 := putL_isz l (slotL l) s
  have e2 := putL_len2 l (slotL l) s ⟨#[]⟩
  unfold roomH
  by_cases hf : fitL h (putL l (slotL l) ⟨#[]⟩) = true
  · rw [if_pos ⟨rfl, hf⟩, fitL_iff, e1, e2]
    rw [fitL_iff] at hf
    omega
  · rw [if_neg (fun c => hf c.2), fitL_iff, e1, e2]
    rw [fitL_iff] at hf
    omega
theorem room_down (h : ByteArray) (l : List ByteArray) (s : ByteArray) : roomH 2 h (putL l (slotL l) s) ≤ roomH 2 h l := by
  have e1 := putL_isz l (slotL l) s
  have e2 := putL_least (putL l (slotL l) s)
  have hle := slotL_le l
  have h3 := (putL_le l (slotL l) s hle)
  have h4 := (putL_le (putL l (slotL l) s) (slotL (putL l (slotL l) s)) ⟨#[]⟩ (slotL_le _))
  have e5 := putL_len2 l (slotL l) s ⟨#[]⟩
  unfold roomH
  by_cases hf : fitL h (putL (putL l (slotL l) s) (slotL (putL l (slotL l) s)) ⟨#[]⟩) = true
  · rw [if_pos ⟨rfl, hf⟩]
    rw [fitL_iff] at hf
    rw [if_pos ⟨rfl, fitL_iff.2 (by omega)⟩]
    omega
  · rw [if_neg (fun c => hf c.2)]
    omega
theorem szE_fit {h : ByteArray} {L : List ByteArray} (hf : fitL h L = true) : szE h L = 0 := by unfold szE; rw [hf]; rfl
theorem szE_no {h : ByteArray} {L : List ByteArray} (hf : fitL h L = false) : szE h L = 121 := by unfold szE; rw [hf]; rfl
end Go.Proofs.Ytpbpamhlenogoaa
