/- The walk of DiskDies. -/
import Derived.Test.YtachbonlakbjmaaDAwake
namespace Go.Proofs.Ytachbonlakbjmaa
open Go.RowKit

/-- Truth values that a slice leads to, in block B. -/
structure Bools (w : World) (B : Nat) (ao : Option Addr) (l : List Bool) : Prop where
  at_ : 0 < l.length → ∃ o, ao = some ⟨B, o, none⟩ ∧ ∀ j, j < l.length → w.cell? ⟨B, o + j, none⟩ = some (.bool (l.getD j false))
  lt : 0 < l.length → B < w.heap.size
  len : l.length < 9223372036854775808
theorem Bools.kept {S : Nat → Prop} {w w' : World} {B : Nat} {ao : Option Addr} {l : List Bool} (h : Bools w B ao l) (ho : Only S w w') (hS : 0 < l.length → ¬ S B) : Bools w' B ao l := by
  refine ⟨fun hl => ?_, fun hl => Nat.lt_of_lt_of_le (h.lt hl) ho.size, h.len⟩
  obtain ⟨o, e, hc⟩ := h.at_ hl
  exact ⟨o, e, fun j hj => (ho.cell (p := ⟨B, o + j, none⟩) (h.lt hl) (hS hl)).trans (hc j hj)⟩
/-- How an act leaves a disk's numbers. -/
structure Acted (E F : Dk) : Prop where
  acts : F.acts = wrap64 (E.acts + 1)
  armed : F.armed = if E.armed = 0 then 0 else E.armed - 1
  dead : F.dead = if E.armed = 0 then E.dead else decide (E.armed = 1)
  len : F.old.length = E.old.length
theorem acted_sync {E : Dk} (hd : E.dead = false) : Acted E E.sync.1 ∧ E.sync.2 = if E.armed = 1 then 5 else 0 := by
  unfold Dk.sync
  simp only [hd]
  by_cases h : E.armed = 1
  · simp only [h]
    exact ⟨⟨rfl, by simp [Dk.act, h], by simp [Dk.act, h], rfl⟩, by simp⟩
  · simp only [h]
    exact ⟨⟨rfl, rfl, rfl, by simp [Dk.synced, Dk.act]⟩, by simp⟩
theorem write_one {E : Dk} (hd : E.dead = false) (k : Nat) (l : List UInt8) (hk : k < E.old.length) (hl : l.length = 64) : E.write (k : Int) l = ((E.put k l).act, if E.armed = 1 then 5 else 0) := by
  unfold Dk.write
  have h1 : l.length % 64 = 0 ∧ hasB E.old.length (k : Int) ((l.length / 64 : Nat) : Int) = true := by
    rw [hl]
    refine ⟨rfl, ?_⟩
    unfold hasB
    simp
    omega
  have e : chunks (l.length / 64) l = [l] := by
    rw [hl]
    show [l.take 64] = [l]
    rw [List.take_of_length_le (by omega)]
  simp only [hd, if_pos h1, e, Int.toNat_natCast]
  show Dk.writes E k [l] = _
  unfold Dk.writes
  by_cases h : E.armed = 1
  · simp [h]
  · simp [h, Dk.writes]
theorem acted_write {E : Dk} (hd : E.dead = false) (k : Nat) (l : List UInt8) (hk : k < E.old.length) (hl : l.length = 64) : Acted E (E.write (k : Int) l).1 ∧ (E.write (k : Int) l).2 = if E.armed = 1 then 5 else 0 := by
  rw [write_one hd k l hk hl]
  exact ⟨⟨rfl, rfl, rfl, rfl⟩, rfl⟩
theorem fill_size (n : Int) : (⟨(fillB n).toArray⟩ : ByteArray).size = 64 := by simp [ByteArray.size, fillB_len]
/-- The blocks of a disk are new since w. -/
def Newer (w : World) (d g m : Nat) : Prop := ∀ i, i < w.heap.size → own d g m i → False
end Go.Proofs.Ytachbonlakbjmaa
