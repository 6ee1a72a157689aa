/- What Pages does. -/
import Derived.Test.YtahmmhmahglonaaERow
import Derived.Test.YtahmmhmahglonaaEShelf
import Derived.Sort.OwnSorted
import Derived.Sort.OwnSortedInts
import Derived.Maps.AppendAt
namespace Go.Proofs.Ytahmmhmahglonaa
open Go.RowKit Go.Maps Go.Sort Go.Shelf

theorem sorts_in (m : Nat) : AnyZI.SortsIn Try.prog Try.sortedI_ren Fence.wide m :=
  ⟨fun blk off cap ss W hH hblk hsz => callsIn_wide.2 (AnyM.slices_Sort_int Try.sortI blk off cap ss W hH hblk hsz),
   fun p cap W => callsIn_wide.2 (AnyM.slices_Sort_int_none Try.sortI p cap W)⟩
theorem ekeys {w : World} {m n : Nat} {D : DataW Unit} {f : Kn} (hown : w.ownsMap Try.prog 3 intElem m n D) (hD : SpD D f) :
    (intKeys D).Nodup ∧ (∀ x, x ∈ intKeys D ↔ ∃ k, f x = some k) ∧ (intKeys D).length = Maps.size D := by
  obtain ⟨es, rfl, hp, _⟩ := hown.entries keyedI
  have hk : ∀ p ∈ es, ∃ x : Int, p.1 = .int .i64 x := fun p hp' => by
    obtain ⟨_, _, hk⟩ := hown.entries keyedI
    refine hD.key p.1 ?_
    rw [has_eq, List.any_eq_true]
    refine ⟨p, hp', WideAt.sameKey_self ?_⟩
    obtain ⟨es', e1, _, hk'⟩ := hown.entries keyedI
    cases e1
    exact hk' p hp'
  refine ⟨?_, fun x => ?_, ?_⟩
  · show (es.map fun p => Go.intOf p.1).Nodup
    refine List.pairwise_map.2 (hp.imp_of_mem fun {p q} hp' hq' hne e => hne ?_)
    obtain ⟨a, ha⟩ := hk p hp'
    obtain ⟨b, hb⟩ := hk q hq'
    rw [ha, hb] at e ⊢
    exact congrArg _ e
  · have hx : (∃ k, f x = some k) ↔ has (.map es) (.int .i64 x) = true := by
      rw [hD.has x, Option.isSome_iff_exists]
    rw [hx, has_eq, List.any_eq_true]
    show x ∈ es.map (fun p => Go.intOf p.1) ↔ _
    rw [List.mem_map]
    constructor
    · rintro ⟨p, hp', rfl⟩
      obtain ⟨a, ha⟩ := hk p hp'
      exact ⟨p, hp', by rw [ha]; simp [Lit.sameKey, Go.intOf]⟩
    · rintro ⟨p, hp', hs⟩
      obtain ⟨a, ha⟩ := hk p hp'
      rw [ha] at hs
      exact ⟨p, hp', by rw [ha]; simpa [Lit.sameKey, Go.intOf] using hs⟩
  · show (es.map fun p => Go.intOf p.1).length = es.length
    simp
set_option maxHeartbeats 1000000 in
theorem epages_raw (w : World) (t m n : Nat) (D : DataW Unit) (c1 : w.cell? ⟨t, 0, none⟩ = some (.map (some m))) (hown : w.ownsMap Try.prog 3 intElem m n D) (hn : n ≤ 5864062014700) : Calls Try.prog 17 #[.pointer (some ⟨t, 0, none⟩)] w fun e w' =>
    ∃ (v : Value) (ss : List Int), e = .returned v ∧ ss.Perm (intKeys D) ∧ w'.ownsRow w.heap.size 3 1 v ss.length ((ss.mergeSort (fun x y => decide (x ≤ y))).map encZ) ∧ Below w.heap.size w w' := by
  refine (callsIn_wide (n := 6)).1 ?_
  have hbl := hown.lt
  have hsz := hown.size_le
  have hseq : SeqGives Fence.wide 2 Try.prog 25 #[.pointer (some ⟨w.heap.size, 0, none⟩)] encZ (fun ss => ss.Perm (intKeys D)) (Maps.size D) (w.alloc (.cells #[.map (some m)] 41)) :=
    AnyZI.keys_gives (ρ := Try.keysI_ren) { Try.keysI with } Fence.wide _ trivial rfl (by omega) w.heap.size m n D _ (by simp) (by simp) (by
      obtain ⟨es, clock, hb, Ft, hs, hD⟩ := hown
      exact ⟨es, clock, (Below.heap_alloc _ _ m hbl).trans hb, Ft, hs, hD⟩)
  have cK : ∀ mb W, CallsIn Fence.wide 5 Try.prog 22 #[.map mb] W fun e w' => e = .returned (.func (.func 25) #[] #[.pointer (some ⟨W.heap.size, 0, none⟩)]) ∧ w' = W.alloc (.cells #[.map mb] 41) := fun mb W => AnyZI.keys_in Try.keysI Fence.wide 5 trivial rfl mb W
  have cS := AnyZI.sorted_in Try.sortedI Fence.wide 5 trivial trivial trivial trivial rfl (by omega) (sorts_in _) (enters_of Try.func24 (by kernel_rfl) rfl) 25 #[.pointer (some ⟨w.heap.size, 0, none⟩)] trivial (enters_of Try.func25 (by kernel_rfl) rfl) _ _ (by unfold maxLen; omega) (by omega) _ hseq
  change CallsIn _ _ Try.prog 21 _ _ _ at cS
  have hfK : Fence.wide.fn 22 := trivial
  have hfS : Fence.wide.fn 21 := trivial
  refine callsIn_of_wp Try.func17 rfl trivial ?_ rfl
  simp only [Try.ntmps17, List.size_toArray, List.length_cons, List.length_nil, Nat.reduceAdd, Nat.reduceSub, Array.replicate_succ, Array.replicate_zero, List.push_toArray, List.append_toArray, List.nil_append, List.cons_append]
  gi_wp2_with (first
    | (gi_at_call 22; refine (cK _ _).mono ?_; rintro e w' ⟨rfl, rfl⟩)
    | (gi_at_call 21; refine cS.mono ?_; rintro e w' ⟨v, ss, rfl, hS, hrow, hnil, hb⟩))
  go_ret
  exact ⟨v, ss, rfl, hS, ownsRow_base_a hrow (by simp), ((Below.refl _ w).alloc (Nat.le_refl _) _).trans (hb.mono (by simp))⟩
theorem epages_any (w : World) (t m n : Nat) (f : Kn) (H : Spm w t m n f) (hn : n ≤ 5864062014700) : Calls Try.prog 17 #[.pointer (some ⟨t, 0, none⟩)] w fun e w' =>
    ∃ ao cp L, e = .returned (.slice ao L.length cp) ∧ PgIs f L ∧ IRow w' w.heap.size (.slice ao L.length cp) L ∧ L.length ≤ n ∧ Only (fun _ => False) w w' := by
  obtain ⟨D, hown, hD⟩ := H.own
  obtain ⟨k1, k2, k3⟩ := ekeys hown hD
  have hsz := hown.size_le
  refine (epages_raw w t m n D H.c0 hown hn).mono ?_
  rintro e w' ⟨v, ss, rfl, hS, hrow, ⟨b1, b2, b3, b4, b5⟩⟩
  obtain ⟨hM1, hM2, hM3⟩ := ints_sorted (hS.nodup_iff.2 k1)
  have hI : IRow w' w.heap.size v (ss.mergeSort fun x y => decide (x ≤ y)) := by
    unfold IRow
    rw [hM1]
    exact hrow
  obtain ⟨ao, cp, rfl⟩ := hI.form
  refine ⟨ao, cp, _, rfl, ⟨hM3, fun a => ?_⟩, hI, ?_, ⟨b1, b2, b3, b4, fun k hk _ => b5 k hk⟩⟩
  · rw [hM2, hS.mem_iff, k2]
  · rw [hM1, hS.length_eq, k3]
    exact hsz
end Go.Proofs.Ytahmmhmahglonaa
