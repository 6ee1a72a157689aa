/- The library's sort of numbers and of texts at this program; rows sorted. -/
import Derived.Test.YtmmhmgndokaklaaLTry
import Derived.Test.YtmmhmgndokaklaaLShelf
import Derived.Sort.OwnSorted
import Derived.Sort.OwnSortedInts
import Derived.Maps.AppendAt
namespace Go.Proofs.Ytmmhmgndokaklaa
open Go.RowKit Go.Maps Go.Sort Go.Shelf

def sv (k : ByteArray) : Value := .string k
def iv (x : Int) : Value := .int .i64 x
theorem encStr_sv (k : ByteArray) : encStr k.data.toList = sv k := by
  unfold encStr sv
  obtain ⟨⟨l⟩⟩ := k
  rfl
theorem sortS_raw (blk off cap : Nat) (ss : List (List UInt8)) (w : World) (hH : Holds encStr w blk off ss.toArray) (hblk : blk < w.heap.size) (hsz : ss.length < 4611686018427387904) :
    Calls Try.prog 29 #[.slice (some ⟨blk, off, none⟩) ss.length cap] w fun e w' =>
      e = .returned (.tuple #[]) ∧ ∃ n os, w' = grow (putRow encStr (Sort.ahead w n) blk off (ss.mergeSort fun x y => decide (x ≤ y)).toArray) os :=
  AnyM.slices_Sort_string Try.sortS blk off cap ss w hH hblk hsz
theorem sortS_none (p : Option Addr) (cap : Nat) (w : World) : Calls Try.prog 29 #[.slice p 0 cap] w fun e w' => e = .returned (.tuple #[]) ∧ w' = w := AnyM.slices_Sort_string_none Try.sortS p cap w
theorem sortI_raw (blk off cap : Nat) (zs : List Int) (w : World) (hH : Holds (Value.int .i64) w blk off zs.toArray) (hblk : blk < w.heap.size) (hsz : zs.length < 4611686018427387904) :
    Calls Try.prog 32 #[.slice (some ⟨blk, off, none⟩) zs.length cap] w fun e w' =>
      e = .returned (.tuple #[]) ∧ ∃ n os, w' = grow (putRow (Value.int .i64) (Sort.ahead w n) blk off (zs.mergeSort fun x y => decide (x ≤ y)).toArray) os :=
  AnyM.slices_Sort_int Try.sortI blk off cap zs w hH hblk hsz
theorem sortI_none (p : Option Addr) (cap : Nat) (w : World) : Calls Try.prog 32 #[.slice p 0 cap] w fun e w' => e = .returned (.tuple #[]) ∧ w' = w := AnyM.slices_Sort_int_none Try.sortI p cap w
/-- Numbers in a row of one's own. -/
def IRow (w : World) (base : Nat) (v : Value) (L : List Int) : Prop := w.ownsRow base 3 1 v L.length (L.map iv)
/-- Texts in a row of one's own. -/
def SRow (w : World) (base : Nat) (v : Value) (L : List ByteArray) : Prop := w.ownsRow base 9 1 v L.length (L.map sv)
theorem srow_eq (L : List ByteArray) : L.map sv = (L.map (fun k => k.data.toList)).map encStr := by
  rw [List.map_map]
  refine List.map_congr_left (fun k _ => ?_)
  exact (encStr_sv k).symm
/-- Texts of bytes. -/
def ofL (l : List UInt8) : ByteArray := ⟨l.toArray⟩
theorem encStr_ofL (l : List UInt8) : encStr l = sv (ofL l) := rfl
theorem ofL_data (k : ByteArray) : ofL k.data.toList = k := by
  unfold ofL
  obtain ⟨⟨l⟩⟩ := k
  rfl
theorem le_tr : ∀ a b c : List UInt8, decide (a ≤ b) = true → decide (b ≤ c) = true → decide (a ≤ c) = true := fun a b c h1 h2 => by
  simp only [decide_eq_true_eq] at *
  exact List.le_trans h1 h2
theorem le_to : ∀ a b : List UInt8, (decide (a ≤ b) || decide (b ≤ a)) = true := fun a b => by
  simp only [Bool.or_eq_true, decide_eq_true_eq]
  exact List.le_total a b
theorem keys_sorted {L : List ByteArray} (hn : L.Nodup) : ∃ M : List ByteArray, M.length = L.length ∧ (∀ k, k ∈ M ↔ k ∈ L) ∧ M.Pairwise bl ∧ ((L.map (fun k => k.data.toList)).mergeSort fun x y => decide (x ≤ y)).map encStr = M.map sv := by
  have hp := List.mergeSort_perm (L.map (fun k => k.data.toList)) (fun x y => decide (x ≤ y))
  have hs := List.pairwise_mergeSort le_tr le_to (L.map (fun k => k.data.toList))
  have hnd : (L.map (fun k => k.data.toList)).Nodup := List.pairwise_map.2 (hn.imp (fun {a b} h e => h (ba_inj e)))
  obtain ⟨S, hS⟩ : ∃ S, (L.map (fun k => k.data.toList)).mergeSort (fun x y => decide (x ≤ y)) = S := ⟨_, rfl⟩
  rw [hS] at hp hs ⊢
  refine ⟨S.map ofL, ?_, fun k => ?_, ?_, ?_⟩
  · rw [List.length_map, hp.length_eq, List.length_map]
  · rw [List.mem_map]
    constructor
    · rintro ⟨l, hl, rfl⟩
      obtain ⟨k, hk, rfl⟩ := List.mem_map.1 (hp.mem_iff.1 hl)
      rw [ofL_data]
      exact hk
    · intro hk
      exact ⟨k.data.toList, hp.mem_iff.2 (List.mem_map.2 ⟨k, hk, rfl⟩), ofL_data k⟩
  · refine List.pairwise_map.2 ?_
    have hnS : S.Nodup := hp.nodup_iff.2 hnd
    refine (hs.and hnS).imp ?_
    rintro a b ⟨h1, h2⟩
    simp only [decide_eq_true_eq] at h1
    show (ofL a).data.toList < (ofL b).data.toList
    have ea : (ofL a).data.toList = a := by simp [ofL]
    have eb : (ofL b).data.toList = b := by simp [ofL]
    rw [ea, eb]
    rcases List.le_iff_lt_or_eq.1 h1 with h | h
    · exact h
    · exact absurd h h2
  · rw [List.map_map]
    rfl
theorem ints_sorted {L : List Int} (hn : L.Nodup) : (L.mergeSort fun x y => decide (x ≤ y)).length = L.length ∧ (∀ k, k ∈ (L.mergeSort fun x y => decide (x ≤ y)) ↔ k ∈ L) ∧ (L.mergeSort fun x y => decide (x ≤ y)).Pairwise (· < ·) := by
  have hp := List.mergeSort_perm L (fun x y => decide (x ≤ y))
  have tr : ∀ a b c : Int, decide (a ≤ b) = true → decide (b ≤ c) = true → decide (a ≤ c) = true := fun a b c h1 h2 => by simp at *; omega
  have tot : ∀ a b : Int, (decide (a ≤ b) || decide (b ≤ a)) = true := fun a b => by simp; omega
  refine ⟨hp.length_eq, fun k => hp.mem_iff, ?_⟩
  refine ((List.pairwise_mergeSort tr tot L).and (hp.nodup_iff.2 hn)).imp ?_
  rintro a b ⟨h1, h2⟩
  simp at h1
  omega
theorem sortS_any (w : World) (base : Nat) (v : Value) (L : List ByteArray) (h : SRow w base v L) (hn : L.Nodup) (hl : L.length < 4611686018427387904) :
    Calls Try.prog 29 #[v] w fun e w' => e = .returned (.tuple #[]) ∧ ∃ M : List ByteArray, M.length = L.length ∧ (∀ k, k ∈ M ↔ k ∈ L) ∧ M.Pairwise bl ∧ SRow w' base v M ∧ Only (fun i => base ≤ i) w w' := by
  rcases h.2 with ⟨rfl, h0⟩ | ⟨g, cap, cur, rfl, hbase, hb, h1, h2, h3, h4⟩
  · refine (sortS_none none 0 w).mono ?_
    rintro e w' ⟨rfl, hw⟩
    obtain rfl := hw.symm
    have : L = [] := List.eq_nil_of_length_eq_zero h0
    subst this
    exact ⟨rfl, [], rfl, fun _ => Iff.rfl, List.Pairwise.nil, h, Only.refl _ _⟩
  · obtain ⟨M, hM1, hM2, hM3, hM4⟩ := keys_sorted hn
    have hlen : (L.map (fun k => k.data.toList)).length = L.length := by simp
    have hH : Holds encStr w g 0 (L.map (fun k => k.data.toList)).toArray := holds_of_block hb (by rw [hlen, ← srow_eq]; simpa using h4)
    have hc := sortS_raw g 0 cap (L.map (fun k => k.data.toList)) w hH (Array.getElem?_eq_some_iff.1 hb).1 (by rw [hlen]; exact hl)
    rw [hlen] at hc
    refine hc.mono ?_
    rintro e w' ⟨rfl, nn, os, rfl⟩
    refine ⟨rfl, M, hM1, hM2, hM3, ?_, (Only.grown (S := fun i => i = g) (grownBy_sorted _) (fun k hk => by cases hk; rfl)).mono (fun i _ e => by subst e; exact hbase)⟩
    have hts : ((L.map (fun k => k.data.toList)).mergeSort fun x y => decide (x ≤ y)).length = (L.map (fun k => k.data.toList)).length := (List.mergeSort_perm _ _).length_eq
    have := ownsRow_sorted (n := nn) (os := os) (ss := L.map (fun k => k.data.toList)) (ts := (L.map (fun k => k.data.toList)).mergeSort fun x y => decide (x ≤ y)) hts hbase hb (by rw [hlen]; exact h1) h2 h3
    rw [hM4, hlen] at this
    unfold SRow
    rw [hM1]
    exact this
theorem sortI_any (w : World) (base : Nat) (v : Value) (L : List Int) (h : IRow w base v L) (hn : L.Nodup) (hl : L.length < 4611686018427387904) :
    Calls Try.prog 32 #[v] w fun e w' => e = .returned (.tuple #[]) ∧ ∃ M : List Int, M.length = L.length ∧ (∀ k, k ∈ M ↔ k ∈ L) ∧ M.Pairwise (· < ·) ∧ IRow w' base v M ∧ Only (fun i => base ≤ i) w w' := by
  rcases h.2 with ⟨rfl, h0⟩ | ⟨g, cap, cur, rfl, hbase, hb, h1, h2, h3, h4⟩
  · refine (sortI_none none 0 w).mono ?_
    rintro e w' ⟨rfl, hw⟩
    obtain rfl := hw.symm
    have : L = [] := List.eq_nil_of_length_eq_zero h0
    subst this
    exact ⟨rfl, [], rfl, fun _ => Iff.rfl, List.Pairwise.nil, h, Only.refl _ _⟩
  · obtain ⟨hM1, hM2, hM3⟩ := ints_sorted hn
    have hH : Holds (Value.int .i64) w g 0 L.toArray := holds_of_blockI hb (by have := h4; rw [Nat.mul_one] at this; exact this)
    refine (sortI_raw g 0 cap L w hH (Array.getElem?_eq_some_iff.1 hb).1 hl).mono ?_
    rintro e w' ⟨rfl, nn, os, rfl⟩
    refine ⟨rfl, _, hM1, hM2, hM3, ?_, (Only.grown (S := fun i => i = g) (grownBy_sortedI _) (fun k hk => by cases hk; rfl)).mono (fun i _ e => by subst e; exact hbase)⟩
    have := ownsRow_sortedI (n := nn) (os := os) (ss := L) (ts := L.mergeSort fun x y => decide (x ≤ y)) hM1 hbase hb h1 h2 h3
    unfold IRow
    rw [hM1]
    exact this
theorem IRow.kept {S : Nat → Prop} {w w' : World} {base : Nat} {v : Value} {L : List Int} (h : IRow w base v L) (ho : Only S w w') (hS : ∀ k, v.ownBlock = some k → ¬ S k) : IRow w' base v L := by
  obtain ⟨h1, h2⟩ := h
  refine ⟨h1, ?_⟩
  rcases h2 with h2 | ⟨g, cap, cur, hv, hg, hh, r⟩
  · exact .inl h2
  · subst hv
    exact .inr ⟨g, cap, cur, rfl, hg, by rw [ho.block g (Array.getElem?_eq_some_iff.1 hh).1 (hS g rfl)]; exact hh, r⟩
theorem SRow.kept {S : Nat → Prop} {w w' : World} {base : Nat} {v : Value} {L : List ByteArray} (h : SRow w base v L) (ho : Only S w w') (hS : ∀ k, v.ownBlock = some k → ¬ S k) : SRow w' base v L := by
  obtain ⟨h1, h2⟩ := h
  refine ⟨h1, ?_⟩
  rcases h2 with h2 | ⟨g, cap, cur, hv, hg, hh, r⟩
  · exact .inl h2
  · subst hv
    exact .inr ⟨g, cap, cur, rfl, hg, by rw [ho.block g (Array.getElem?_eq_some_iff.1 hh).1 (hS g rfl)]; exact hh, r⟩
theorem Try.infoInt : (Try.prog.info? 3).map (fun i => (i.zero, i.size, i.bytes)) = some (some (.int .i64 0), 1, 8) := by kernel_rfl
theorem Try.infoStr : (Try.prog.info? 9).map (fun i => (i.zero, i.size, i.bytes)) = some (some (.string ⟨#[]⟩), 1, 16) := by kernel_rfl
end Go.Proofs.Ytmmhmgndokaklaa
