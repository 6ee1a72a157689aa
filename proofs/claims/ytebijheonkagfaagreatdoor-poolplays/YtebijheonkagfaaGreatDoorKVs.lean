/- Two tables alike. -/
import Derived.Shelf.SlIterI.Nil
import Derived.Shelf.SortM.Plain
import Derived.Shelf.SortM.SortNone
import Derived.Ground.GgzProg
import Derived.Ground.SlgmProg
import Derived.Test.YtebijheonkagfaaGreatDoorProg
import Derived.Test.YtebijheonkagfaaGreatDoorKVq
import Derived.Test.YtebijheonkagfaaGreatDoorKDc
import Derived.Sort.OwnSorted
import Derived.Sort.OwnSortedInts
import Derived.Maps.AppendAt
namespace Go.Proofs
open Go.Shelf
def Tryz.keysI_ren : Go.Shelf.Ren := ⟨fun | 7 => 75 | 10 => 100 | n => n, fun | 23 => 94 | 26 => 3 | 3 => 3 | 28 => 122 | 0 => 0 | 27 => 121 | 33 => 73 | 4 => 4 | n => n, fun | n => n⟩
theorem Tryz.keysI : Go.Proofs.SlLaysZI.n7 Tryz.prog Tryz.keysI_ren := {
  mixed := by kernel_rfl
  f7 := ⟨Tryz.f75.name, by decide, Tryz.func75.trans (congrArg some (by kernel_rfl))⟩
  f10 := ⟨Tryz.f100.name, by decide, Tryz.func100.trans (congrArg some (by kernel_rfl))⟩
  t0 := Tryz.underlying0
  a0 := Tryz.isAgg0
  z0 := Tryz.sizeOf0
  v0 := Tryz.zeroValue0
  t4 := Tryz.underlying4
  a4 := Tryz.isAgg4
  z4 := Tryz.sizeOf4
  v4 := Tryz.zeroValue4
  t23 := Tryz.underlying94
  a23 := Tryz.isAgg94
  z23 := Tryz.sizeOf94
  v23 := Tryz.zeroValue94
  t26 := Tryz.underlying3
  a26 := Tryz.isAgg3
  z26 := Tryz.sizeOf3
  v26 := Tryz.zeroValue3
  t27 := Tryz.underlying121
  a27 := Tryz.isAgg121
  z27 := Tryz.sizeOf121
  v27 := Tryz.zeroValue121
  t28 := Tryz.underlying122
  a28 := Tryz.isAgg122
  z28 := Tryz.sizeOf122
  v28 := Tryz.zeroValue122
  t33 := Tryz.underlying73
  a33 := Tryz.isAgg73
  z33 := Tryz.sizeOf73
  v33 := Tryz.zeroValue73 }
def Tryz.sortedI_ren : Go.Shelf.Ren := ⟨fun | 6 => 74 | 8 => 98 | 9 => 99 | 11 => 126 | 13 => 128 | 12 => 127 | 23 => 165 | 24 => 166 | 14 => 156 | 15 => 157 | 16 => 158 | 17 => 159 | 18 => 160 | 19 => 161 | 20 => 162 | 21 => 163 | 22 => 164 | 25 => 176 | 26 => 177 | 27 => 178 | 28 => 179 | 29 => 180 | 30 => 181 | 31 => 185 | n => n, fun | 26 => 3 | 28 => 122 | 24 => 54 | 0 => 0 | 3 => 3 | 37 => 125 | 48 => 140 | 50 => 151 | 4 => 4 | 40 => 203 | 39 => 202 | 45 => 124 | 5 => 5 | 9 => 9 | 51 => 220 | 55 => 224 | 57 => 227 | 58 => 228 | 33 => 73 | n => n, fun | n => n⟩
theorem Tryz.sortedI : Go.Proofs.SlLaysZI.n6 Tryz.prog Tryz.sortedI_ren := {
  mixed := by kernel_rfl
  f6 := ⟨Tryz.f74.name, by decide, Tryz.func74.trans (congrArg some (by kernel_rfl))⟩
  f8 := ⟨Tryz.f98.name, by decide, Tryz.func98.trans (congrArg some (by kernel_rfl))⟩
  f11 := ⟨Tryz.f126.name, by decide, Tryz.func126.trans (congrArg some (by kernel_rfl))⟩
  t0 := Tryz.underlying0
  a0 := Tryz.isAgg0
  z0 := Tryz.sizeOf0
  v0 := Tryz.zeroValue0
  t24 := Tryz.underlying54
  a24 := Tryz.isAgg54
  z24 := Tryz.sizeOf54
  v24 := Tryz.zeroValue54
  t26 := Tryz.underlying3
  a26 := Tryz.isAgg3
  z26 := Tryz.sizeOf3
  v26 := Tryz.zeroValue3
  t28 := Tryz.underlying122
  a28 := Tryz.isAgg122
  z28 := Tryz.sizeOf122
  v28 := Tryz.zeroValue122
  i26 := by kernel_rfl }
def Tryz.sortI_ren : Go.Shelf.Ren := ⟨fun | 5 => 99 | 8 => 128 | 7 => 127 | 19 => 165 | 20 => 166 | 10 => 156 | 11 => 157 | 12 => 158 | 13 => 159 | 14 => 160 | 15 => 161 | 16 => 162 | 17 => 163 | 18 => 164 | 30 => 176 | 31 => 177 | 32 => 178 | 33 => 179 | 34 => 180 | 35 => 181 | 40 => 185 | n => n, fun | 23 => 54 | 25 => 3 | 3 => 3 | 32 => 125 | 22 => 54 | 0 => 0 | 44 => 140 | 46 => 151 | 4 => 4 | 36 => 203 | 35 => 202 | 41 => 124 | 5 => 5 | 9 => 9 | 53 => 220 | 57 => 224 | 63 => 227 | 64 => 228 | n => n, fun | n => n⟩
theorem Tryz.sortI : Go.Proofs.SlLaysM.n5 Tryz.prog Tryz.sortI_ren := {
  mixed := by kernel_rfl
  f5 := ⟨Tryz.f99.name, by decide, Tryz.func99.trans (congrArg some (by kernel_rfl))⟩
  f7 := ⟨Tryz.f127.name, by decide, Tryz.func127.trans (congrArg some (by kernel_rfl))⟩
  f8 := Tryz.func128.trans (congrArg some (by kernel_rfl))
  f10 := ⟨Tryz.f156.name, by decide, Tryz.func156.trans (congrArg some (by kernel_rfl))⟩
  f11 := ⟨Tryz.f157.name, by decide, Tryz.func157.trans (congrArg some (by kernel_rfl))⟩
  f12 := ⟨Tryz.f158.name, by decide, Tryz.func158.trans (congrArg some (by kernel_rfl))⟩
  f13 := ⟨Tryz.f159.name, by decide, Tryz.func159.trans (congrArg some (by kernel_rfl))⟩
  f14 := ⟨Tryz.f160.name, by decide, Tryz.func160.trans (congrArg some (by kernel_rfl))⟩
  f15 := ⟨Tryz.f161.name, by decide, Tryz.func161.trans (congrArg some (by kernel_rfl))⟩
  f16 := ⟨Tryz.f162.name, by decide, Tryz.func162.trans (congrArg some (by kernel_rfl))⟩
  f17 := ⟨Tryz.f163.name, by decide, Tryz.func163.trans (congrArg some (by kernel_rfl))⟩
  f18 := ⟨Tryz.f164.name, by decide, Tryz.func164.trans (congrArg some (by kernel_rfl))⟩
  f19 := Tryz.func165.trans (congrArg some (by kernel_rfl))
  f20 := Tryz.func166.trans (congrArg some (by kernel_rfl))
  f30 := ⟨Tryz.f176.name, by decide, Tryz.func176.trans (congrArg some (by kernel_rfl))⟩
  f31 := Tryz.func177.trans (congrArg some (by kernel_rfl))
  f32 := Tryz.func178.trans (congrArg some (by kernel_rfl))
  f33 := ⟨Tryz.f179.name, by decide, Tryz.func179.trans (congrArg some (by kernel_rfl))⟩
  f34 := ⟨Tryz.f180.name, by decide, Tryz.func180.trans (congrArg some (by kernel_rfl))⟩
  f35 := ⟨Tryz.f181.name, by decide, Tryz.func181.trans (congrArg some (by kernel_rfl))⟩
  f40 := ⟨Tryz.f185.name, by decide, Tryz.func185.trans (congrArg some (by kernel_rfl))⟩
  t0 := Tryz.underlying0
  a0 := Tryz.isAgg0
  z0 := Tryz.sizeOf0
  v0 := Tryz.zeroValue0
  t3 := Tryz.underlying3
  a3 := Tryz.isAgg3
  z3 := Tryz.sizeOf3
  v3 := Tryz.zeroValue3
  t4 := Tryz.underlying4
  a4 := Tryz.isAgg4
  z4 := Tryz.sizeOf4
  v4 := Tryz.zeroValue4
  t5 := Tryz.underlying5
  a5 := Tryz.isAgg5
  z5 := Tryz.sizeOf5
  v5 := Tryz.zeroValue5
  t9 := Tryz.underlying9
  a9 := Tryz.isAgg9
  z9 := Tryz.sizeOf9
  v9 := Tryz.zeroValue9
  t22 := Tryz.underlying54
  a22 := Tryz.isAgg54
  z22 := Tryz.sizeOf54
  v22 := Tryz.zeroValue54
  t23 := Tryz.underlying54
  a23 := Tryz.isAgg54
  z23 := Tryz.sizeOf54
  v23 := Tryz.zeroValue54
  t25 := Tryz.underlying3
  a25 := Tryz.isAgg3
  z25 := Tryz.sizeOf3
  v25 := Tryz.zeroValue3
  t32 := Tryz.underlying125
  a32 := Tryz.isAgg125
  z32 := Tryz.sizeOf125
  v32 := Tryz.zeroValue125
  t35 := Tryz.underlying202
  a35 := Tryz.isAgg202
  z35 := Tryz.sizeOf202
  v35 := Tryz.zeroValue202
  t36 := Tryz.underlying203
  a36 := Tryz.isAgg203
  z36 := Tryz.sizeOf203
  v36 := Tryz.zeroValue203
  t41 := Tryz.underlying124
  a41 := Tryz.isAgg124
  z41 := Tryz.sizeOf124
  v41 := Tryz.zeroValue124
  t44 := Tryz.underlying140
  a44 := Tryz.isAgg140
  z44 := Tryz.sizeOf140
  v44 := Tryz.zeroValue140
  t46 := Tryz.underlying151
  a46 := Tryz.isAgg151
  z46 := Tryz.sizeOf151
  v46 := Tryz.zeroValue151
  t53 := Tryz.underlying220
  a53 := Tryz.isAgg220
  z53 := Tryz.sizeOf220
  v53 := Tryz.zeroValue220
  t57 := Tryz.underlying224
  a57 := Tryz.isAgg224
  z57 := Tryz.sizeOf224
  v57 := Tryz.zeroValue224
  t63 := Tryz.underlying227
  a63 := Tryz.isAgg227
  z63 := Tryz.sizeOf227
  v63 := Tryz.zeroValue227
  t64 := Tryz.underlying228
  a64 := Tryz.isAgg228
  z64 := Tryz.sizeOf228
  v64 := Tryz.zeroValue228 }
end Go.Proofs
namespace Go.Proofs.YtebijheonkagfaaGreatDoor
open Go.RowKit Go.Maps Go.Sort Go.Shelf
theorem ints_sorted {L : List Int} (hn : L.Nodup) : (L.mergeSort fun x y => decide (x ≤ y)).length = L.length ∧ (∀ k, k ∈ (L.mergeSort fun x y => decide (x ≤ y)) ↔ k ∈ L) ∧ (L.mergeSort fun x y => decide (x ≤ y)).Pairwise (· < ·) := by
  have hp := List.mergeSort_perm L (fun x y => decide (x ≤ y))
  have tr : ∀ a b c : Int, decide (a ≤ b) = true → decide (b ≤ c) = true → decide (a ≤ c) = true := fun a b c h1 h2 => by simp at *; omega
  have tot : ∀ a b : Int, (decide (a ≤ b) || decide (b ≤ a)) = true := fun a b => by simp; omega
  refine ⟨hp.length_eq, fun k => hp.mem_iff, ?_⟩; refine ((List.pairwise_mergeSort tr tot L).and (hp.nodup_iff.2 hn)).imp ?_; rintro a b ⟨h1, h2⟩
  simp at h1
  omega
theorem sorts_in (m : Nat) : AnyZI.SortsIn Tryz.prog Tryz.sortedI_ren Fence.wide m :=
  ⟨fun blk off cap ss W hH hblk hsz => callsIn_wide.2 (AnyM.slices_Sort_int Tryz.sortI blk off cap ss W hH hblk hsz),
   fun p cap W => callsIn_wide.2 (AnyM.slices_Sort_int_none Tryz.sortI p cap W)⟩
theorem okeys {w : World} {m n N : Nat} {D : DataW Unit} {f : Nat → Option Int} (hown : w.ownsMap Tryz.prog 3 intElem m N D) (hD : OwD D n f) :
    (intKeys D).Nodup ∧ (∀ x, x ∈ intKeys D ↔ ∃ k : Nat, x = (k : Int) ∧ (f k).isSome = true) ∧ (intKeys D).length = Maps.size D := by
  obtain ⟨es, rfl, hp, hkk⟩ := hown.entries keyed
  have hk : ∀ p ∈ es, ∃ x : Nat, p.1 = .int .i64 (x : Int) := fun p hp' => by
    obtain ⟨k, _, e⟩ := hD.key p.1 (by rw [has_eq, List.any_eq_true]; exact ⟨p, hp', WideAt.sameKey_self (hkk p hp')⟩)
    exact ⟨k, e⟩
  refine ⟨?_, fun x => ?_, ?_⟩
  · show (es.map fun p => Go.intOf p.1).Nodup
    refine List.pairwise_map.2 (hp.imp_of_mem fun {p q} hp' hq' hne e => hne ?_); obtain ⟨a, ha⟩ := hk p hp'; obtain ⟨b, hb⟩ := hk q hq'; rw [ha, hb] at e ⊢
    exact congrArg _ e
  · show x ∈ es.map (fun p => Go.intOf p.1) ↔ _
    rw [List.mem_map]
    constructor
    · rintro ⟨p, hp', rfl⟩
      obtain ⟨a, ha⟩ := hk p hp'; refine ⟨a, by rw [ha]; rfl, ?_⟩; rw [← hD.has a, has_eq, List.any_eq_true]
      exact ⟨p, hp', by rw [ha]; simp [Lit.sameKey]⟩
    · rintro ⟨k, rfl, hs⟩
      rw [← hD.has k, has_eq, List.any_eq_true] at hs; obtain ⟨p, hp', hs⟩ := hs; obtain ⟨a, ha⟩ := hk p hp'; rw [ha] at hs
      exact ⟨p, hp', by rw [ha]; simpa [Lit.sameKey, Go.intOf] using hs⟩
  · show (es.map fun p => Go.intOf p.1).length = es.length
    simp
theorem ints_own {w : World} {base : Nat} {v : Value} {l : List Int} (h : w.ownsRow base 3 1 v l.length (l.map (Value.int .i64))) (hl : ∀ k ∈ l, 0 ≤ k ∧ k < 65536) (hn : l.length ≤ 65536) : ∃ B ao cp, v = .slice ao l.length cp ∧ Ints w B ao l ∧ (0 < l.length → base ≤ B ∧ v.ownBlock = some B) := by
  rcases h.2 with ⟨rfl, h0⟩ | ⟨g, cap, cur, rfl, hb, hg, _⟩
  · have e : l = [] := List.eq_nil_of_length_eq_zero h0
    subst e
    exact ⟨0, none, 0, rfl, ⟨fun h => absurd h (by simp), fun j h => absurd h (by simp), fun h => absurd h (by simp), by simp⟩, fun h => absurd h (by simp)⟩
  · refine ⟨g, some ⟨g, 0, none⟩, cap, by simp, ⟨fun _ => ⟨0, rfl, fun j hj => ?_⟩, fun j hj => ?_, fun _ => (Array.getElem?_eq_some_iff.1 hg).1, by omega⟩, fun _ => ⟨hb, rfl⟩⟩
    · have hc := h.cellAt j (by omega)
      simp only [Nat.zero_add]; rw [hc]
      simp [List.getD_eq_getElem?_getD, hj]
    · have hm := hl l[j] (List.getElem_mem hj)
      simp only [List.getD_eq_getElem?_getD, List.getElem?_eq_getElem hj, Option.getD_some]
      omega
structure KeysIs (f : Nat → Option Int) (L : List Int) : Prop where
  up : L.Pairwise (· < ·)
  mem : ∀ x, x ∈ L ↔ ∃ k : Nat, x = (k : Int) ∧ (f k).isSome = true
theorem osorted (w : World) (m n N : Nat) (D : DataW Unit) (f : Nat → Option Int) (hown : w.ownsMap Tryz.prog 3 intElem m N D) (hD : OwD D n f) (hn : n ≤ 65536) :
    (Calls Tryz.prog 75 #[.map (some m)] w fun e w' => e = .returned (.func (.func 100) #[] #[.pointer (some ⟨w.heap.size, 0, none⟩)]) ∧ w' = w.alloc (.cells #[.map (some m)] 94)) ∧
    Calls Tryz.prog 74 #[.func (.func 100) #[] #[.pointer (some ⟨w.heap.size, 0, none⟩)]] (w.alloc (.cells #[.map (some m)] 94)) fun e w' =>
      ∃ B ao cp L, e = .returned (.slice ao L.length cp) ∧ KeysIs f L ∧ L.length = Maps.size D ∧ Ints w' B ao L ∧ (0 < L.length → w.heap.size ≤ B) ∧ Only (fun _ => False) w w' := by
  have hown := tightI hown; have hbl := hown.lt; have hsz := OwD.size_le hown hD; obtain ⟨k1, k2, k3⟩ := okeys hown hD
  have hseq : SeqGives Fence.wide 2 Tryz.prog 100 #[.pointer (some ⟨w.heap.size, 0, none⟩)] encZ (fun ss => ss.Perm (intKeys D)) (Maps.size D) (w.alloc (.cells #[.map (some m)] 94)) :=
    AnyZI.keys_gives (ρ := Tryz.keysI_ren) { Tryz.keysI with } Fence.wide _ trivial rfl (by omega) w.heap.size m (Maps.size D) D _ (by simp) (by simp) (by
      obtain ⟨es, clock, hb, Ft, hs, hD⟩ := hown
      exact ⟨es, clock, (Below.heap_alloc _ _ m hbl).trans hb, Ft, hs, hD⟩)
  have cK : CallsIn Fence.wide 5 Tryz.prog 75 #[.map (some m)] w fun e w' => e = .returned (.func (.func 100) #[] #[.pointer (some ⟨w.heap.size, 0, none⟩)]) ∧ w' = w.alloc (.cells #[.map (some m)] 94) := AnyZI.keys_in Tryz.keysI Fence.wide 5 trivial rfl (some m) w
  have cS := AnyZI.sorted_in Tryz.sortedI Fence.wide 5 trivial trivial trivial trivial rfl (by omega) (sorts_in _) (enters_of Tryz.func99 (by kernel_rfl) rfl) 100 #[.pointer (some ⟨w.heap.size, 0, none⟩)] trivial (enters_of Tryz.func100 (by kernel_rfl) rfl) _ _ (by unfold maxLen; omega) (by omega) _ hseq
  change CallsIn _ _ Tryz.prog 74 _ _ _ at cS
  refine ⟨callsIn_wide.1 cK, (callsIn_wide.1 cS).mono ?_⟩; rintro e w' ⟨v, ss, rfl, hS, hrow, hnil, hb⟩; obtain ⟨hM1, hM2, hM3⟩ := ints_sorted (hS.nodup_iff.2 k1)
  have hmem : ∀ x, x ∈ (ss.mergeSort fun x y => decide (x ≤ y)) ↔ ∃ k : Nat, x = (k : Int) ∧ (f k).isSome = true := fun x => by rw [hM2, hS.mem_iff, k2]
  have hrow2 : w'.ownsRow w.heap.size 3 1 v ss.length ((ss.mergeSort fun x y => decide (x ≤ y)).map (Value.int .i64)) := ownsRow_base_a hrow (by simp)
  have hlen : (ss.mergeSort fun x y => decide (x ≤ y)).length = Maps.size D := by rw [hM1, hS.length_eq, k3]
  have hrow3 : w'.ownsRow w.heap.size 3 1 v (ss.mergeSort fun x y => decide (x ≤ y)).length ((ss.mergeSort fun x y => decide (x ≤ y)).map (Value.int .i64)) := by rw [hM1]; exact hrow2
  have hlt : ∀ k : Nat, (f k).isSome = true → k < n := fun k hs => by
    rw [← hD.has k] at hs; obtain ⟨j, hj, e⟩ := hD.key _ hs
    injection e with _ e
    omega
  obtain ⟨B, ao, cp, rfl, hI, hB⟩ := ints_own hrow3 (fun x hx => by
    obtain ⟨k, rfl, hs⟩ := (hmem x).1 hx; have := hlt k hs
    omega) (by rw [hlen]; omega)
  obtain ⟨b1, b2, b3, b4, b5⟩ := ((Below.refl _ w).alloc (Nat.le_refl _) (.cells #[.map (some m)] 94)).trans (hb.mono (by simp))
  exact ⟨B, ao, cp, _, rfl, ⟨hM3, hmem⟩, hlen, hI, fun h0 => (hB h0).1, ⟨b1, b2, b3, b4, fun k hk _ => b5 k hk⟩⟩
end Go.Proofs.YtebijheonkagfaaGreatDoor
namespace Go.Proofs.YtebijheonkagfaaGreatDoor
open Go.RowKit
def tabOf (f : Nat → Option Int) (L : List Int) : List (Int × Int) := L.map (fun x => (x, (f x.toNat).getD 0))
theorem tabOf_is {P : Pl} {L : List Int} (h : KeysIs P.ow L) (hlt : ∀ k, (P.ow k).isSome = true → k < P.pages) : TabIs P (tabOf P.ow L) := by
  refine ⟨List.pairwise_map.2 (h.up.imp (fun e => e)), fun n x => ?_, hlt⟩; unfold tabOf; rw [List.mem_map]
  constructor
  · rintro ⟨y, hy, e⟩
    injection e with e1 e2
    obtain ⟨k, rfl, hs⟩ := (h.mem y).1 hy; obtain ⟨b, hb⟩ := Option.isSome_iff_exists.1 hs; simp only [Int.toNat_natCast, hb, Option.getD_some] at e2
    exact ⟨k, e1.symm, by rw [hb, e2]⟩
  · rintro ⟨k, rfl, hb⟩
    exact ⟨(k : Int), (h.mem _).2 ⟨k, rfl, by rw [hb]; rfl⟩, by simp [hb]⟩
theorem prs_one (w : World) (z : Int × Int) : Prs (w.alloc (.cells #[.int .i64 z.1, .int .i64 z.2] 115)) w.heap.size (some ⟨w.heap.size, 0, none⟩) [z] := by
  refine ⟨fun _ => ⟨0, rfl, fun j hj => ?_⟩, fun _ => by simp, by simp⟩
  have : j = 0 := by simpa using hj
  subst this
  exact ⟨by simp [go_sem], by simp [go_sem]⟩
set_option maxRecDepth 100000 in
set_option maxHeartbeats 1600000 in
theorem odirty_any (w : World) (p d l fb mb : Nat) (P : Pl) (T : Nat → Prop) (h : PoolAt w p d l fb mb P T) :
    Calls Tryz.prog 31 #[.pointer (some ⟨p, 0, none⟩)] w fun e w' => (∃ B ao cp tl, e = .returned (.slice ao tl.length cp) ∧ TabIs P tl ∧ Prs w' B ao tl ∧ (0 < tl.length → w.heap.size ≤ B)) ∧ Only (fun _ => False) w w' := by
  obtain ⟨N, D, hown0, hD⟩ := h.map; have hown := tightI hown0; have hsz := OwD.size_le hown hD; have hnp := h.np.2
  have hlt : ∀ k : Nat, (P.ow k).isSome = true → k < P.pages := fun k hs => by
    rw [← hD.has k] at hs; obtain ⟨j, hj, e⟩ := hD.key _ hs
    injection e with _ e
    omega
  have hlen := hown.len Tryz.underlying94 3; obtain ⟨c, hc⟩ : ∃ c, Maps.size D = c := ⟨_, rfl⟩; rw [hc] at hlen hsz; obtain ⟨i0, hi, hz0, hz1, hz2⟩ := info_parts Tryz.infoOwed; obtain ⟨w1, hmk, hro, hgr⟩ := run_make_own (P := Tryz.prog) w w.heap.size 56 115 i0 _ 2 Tryz.underlying56 hi hz0 hz1 .i64 .i64 c (by rw [hz2]; omega) (by unfold maxLen; omega) (Nat.le_refl _); have hon : Only (fun _ => False) w w1 := Only.grown hgr (fun k hk => by cases hk); have hr1 : ORow w1 w.heap.size (.slice (some ⟨w.heap.size, 0, none⟩) 0 c) [] := hro
  have hown1 : w1.ownsMap Tryz.prog 3 intElem mb (Maps.size D) D := by
    obtain ⟨es, clock, hb, F, hs, hD⟩ := hown
    exact ⟨es, clock, (hon.block mb (Array.getElem?_eq_some_iff.1 hb).1 (fun e => e)).trans hb, F, hs, hD⟩
  have h1 := h.more hon; obtain ⟨cK, cS⟩ := osorted w1 mb P.pages (Maps.size D) D P.ow hown1 hD (by omega); have HX := hide h; have HK := hide cK; have HS := hide cS; have HR1 := hide hr1; have HON := hide hon; have HLT := hide hlt; have hw1 : w.heap.size < w1.heap.size := (World.ownsRow.lt hro w.heap.size rfl).2; have c5 := h.c5; have d5 := h1.c5; clear h h1 hown hown0 hown1 hro hgr hr1 cK cS hlt
  go_enter Tryz.func31, Tryz.ntmps31
  go_wp2_with (first
    | (go_at_call 75; refine HK.out.mono ?_; rintro e w' ⟨rfl, hw⟩; obtain rfl := hw.symm; clear hw)
    | (go_at_call 74; refine HS.out.mono ?_; rintro e w' ⟨B, ao, cp, L, rfl, hKI, hLl, hI, hB, hO⟩))
  have hLp : L.length ≤ P.pages := by omega
  have HI := hide hI; have HKI := hide hKI; have HB := hide hB; have HO1 : Hid (Only (fun _ => False) w w') := HON.out.trans hO (fun _ _ h => h); have HRw : Hid (ORow w' w.heap.size (.slice (some ⟨w.heap.size, 0, none⟩) 0 c) []) := HR1.out.kept hO (fun _ _ h => h); clear hI hKI hB hO hlen hmk c5 d5 hon HK HS
  go_loopw [3, 21] (fun v i wr => ∃ (k : Nat), k ≤ L.length ∧ i = .int .i64 (k : Int) ∧ Hid (ORow wr w.heap.size v (tabOf P.ow (L.take k))) ∧ Hid (∀ q, v.ownBlock = some q → 0 < L.length → q ≠ B) ∧ Hid (Ints wr B ao L) ∧ Hid (Only (fun _ => False) w wr)) (fun _ i _ => L.length - (intOf i).toNat)
  case atStart =>
    refine ⟨0, Nat.zero_le _, rfl, hide HRw.out, hide (fun q hq h0 e => ?_), HI, HO1⟩
    have h1 : q = w.heap.size := by injection hq with hq; exact hq.symm
    have := HB.out h0
    omega
  case round =>
    obtain ⟨k, hk, rfl, HR, HQ, HIr, HO⟩ := hrel; have HXr := hide (HX.out.more HO.out); have c5 := HXr.out.c5
    by_cases hlt : k < L.length
    · obtain ⟨o1, e1, q1⟩ := HIr.out.at_ (by omega)
      have k1 := q1 k hlt
      have hge : L.getD k 0 = L[k] := by simp [hlt]
      obtain ⟨n, hn, hs⟩ := (HKI.out.mem L[k]).1 (List.getElem_mem hlt); have hnp : n < P.pages := HLT.out n hs; rw [hge, hn] at k1; have look := (HXr.out.map.look (by omega) hnp).2; obtain ⟨z, hz⟩ : ∃ z, (P.ow n).getD 0 = z := ⟨_, rfl⟩; rw [hz] at look
      have hk0 : (0 : Int) ≤ (k : Int) := by omega
      have hkl : (k : Int) < (L.length : Int) := by omega
      have HT : Hid (tabOf P.ow (L.take (k + 1)) = tabOf P.ow (L.take k) ++ [((n : Int), z)]) := by
        unfold Hid tabOf; rw [List.take_succ_eq_append_getElem hlt, List.map_append, hn, ← hz]
        simp
      have hTl : (tabOf P.ow (L.take k)).length ≤ 8192 := by unfold tabOf; simp; omega
      obtain ⟨M, hM⟩ : ∃ M, tabOf P.ow (L.take k) = M := ⟨_, rfl⟩; rw [hM] at HR HT hTl; have hra : ORow (wr.alloc (.cells #[.int .i64 (n : Int), .int .i64 z] 115)) w.heap.size u3 M := HR.out.kept (onlyA wr _) (fun _ _ h => h); obtain ⟨v', w2, hap, ow2, on2, bl2⟩ := orow_append hra (prs_one wr ((n : Int), z)) (c := 1) ⟨(fun e => by cases e), by simp, by simp [maxLen]⟩ (by simp; omega) (by have := HO.out.size; simp; omega)
      have hown : ∀ q, u3.ownBlock = some q → w.heap.size ≤ q := fun q hq => (World.ownsRow.lt HR.out q hq).1
      have on3 : Only (fun q => some q = u3.ownBlock) wr w2 := ((onlyA wr _).mono (fun _ _ e => e.elim)).trans on2 (fun _ _ e => e); have HO2 : Hid (Only (fun _ => False) w w2) := HO.out.trans on3 (fun i hi e => by have := hown i e.symm; omega); have HI2 : Hid (Ints w2 B ao L) := HIr.out.kept on3 (fun h0 e => HQ.out B e.symm h0 rfl)
      have HQ2 : Hid (∀ q, v'.ownBlock = some q → 0 < L.length → q ≠ B) := fun q hq h0 e => by
        rcases bl2 with b | b
        · exact HQ.out q (b ▸ hq) h0 e
        · rw [b] at hq
          injection hq with hq
          have := HIr.out.lt h0
          simp at hq
          omega
      have HR2 : Hid (ORow w2 w.heap.size v' (tabOf P.ow (L.take (k + 1)))) := by unfold Hid; rw [HT.out]; exact ow2
      obtain ⟨a9, n9, k9, rfl⟩ := own_slice2 HR.out; have R := hide hap; clear hap ow2 on2 on3 bl2 hz hM hown hra hge q1 hn; subst e1
      go_wp2_with (at_builtin; refine Lib.wpList_append_run _ rfl (.tmp 25) (.tmp 34) _ _ rfl _ _ rfl rfl _ _ R.out ?_)
      go_roundw
      case rel => exact ⟨k + 1, by omega, by go_num, HR2, HQ2, HI2, HO2⟩
      case measure => simp [intOf]; omega
    · have hkl : ¬ (k : Int) < (L.length : Int) := by omega
      have ek : L.take k = L := List.take_of_length_le (by omega); rw [ek] at HR; have HTI := hide (tabOf_is HKI.out HLT.out)
      have htl : (tabOf P.ow L).length ≤ 8192 := by unfold tabOf; simp; omega
      obtain ⟨B2, ao2, cp2, rfl, p1, p2, p3⟩ := ORow.prs HR.out (by omega); have HP := hide (And.intro p1 p3); clear p1 p2 p3
      go_wp2_with fail
      go_ret
      exact ⟨⟨B2, ao2, cp2, tabOf P.ow L, rfl, HTI.out, HP.out.1, fun h0 => (HP.out.2 h0).1⟩, HO.out⟩
theorem pairs_ext : ∀ {L M : List (Int × Int)}, L.Pairwise (fun p q => p.1 < q.1) → M.Pairwise (fun p q => p.1 < q.1) → (∀ q, q ∈ L ↔ q ∈ M) → L = M
  | [], [], _, _, _ => rfl
  | [], b :: M, _, _, h => by have := (h b).2 (by simp); simp at this
  | a :: L, [], _, _, h => by have := (h a).1 (by simp); simp at this
  | a :: L, b :: M, h1, h2, h => by
    obtain ⟨a1, a2⟩ := List.pairwise_cons.1 h1; obtain ⟨b1, b2⟩ := List.pairwise_cons.1 h2
    have e : a = b := by
      rcases List.mem_cons.1 ((h a).1 (by simp)) with e | e
      · exact e
      · rcases List.mem_cons.1 ((h b).2 (by simp)) with e2 | e2
        · exact e2.symm
        · have := b1 a e
          have := a1 b e2
          omega
    subst e
    have hr : ∀ q, q ∈ L ↔ q ∈ M := fun q => by
      constructor
      · intro hq
        rcases List.mem_cons.1 ((h q).1 (by simp [hq])) with e | e
        · have := a1 q hq
          rw [e] at this
          omega
        · exact e
      · intro hq
        rcases List.mem_cons.1 ((h q).2 (by simp [hq])) with e | e
        · have := b1 q hq
          rw [e] at this
          omega
        · exact e
    rw [pairs_ext a2 b2 hr]
theorem TabIs.uniq {P : Pl} {L M : List (Int × Int)} (h1 : TabIs P L) (h2 : TabIs P M) : L = M :=
  pairs_ext h1.up h2.up (fun q => by rw [h1.mem q.1 q.2, h2.mem q.1 q.2])
set_option maxRecDepth 100000 in
set_option maxHeartbeats 1600000 in
theorem owed_true (w : World) (B1 B2 c1 c2 : Nat) (a1 a2 : Option Addr) (l : List (Int × Int)) (h1 : Prs w B1 a1 l) (h2 : Prs w B2 a2 l) :
    Calls Tryz.prog 30 #[.slice a1 l.length c1, .slice a2 l.length c2] w fun e w' => e = .returned (.bool true) ∧ Only (fun _ => False) w w' := by
  have hlen := h1.len; have H1 := hide h1; have H2 := hide h2; clear h1 h2
  go_enter Tryz.func30, Tryz.ntmps30
  go_wp2_with fail
  go_loopw [5] (fun y wr => ∃ (j : Nat), j ≤ l.length ∧ y = .int .i64 (j : Int) ∧ Hid (Only (fun _ => False) w wr)) (fun y _ => l.length - (intOf y).toNat)
  case atStart => exact ⟨0, by omega, rfl, hide (Only.refl _ _)⟩
  case round =>
    obtain ⟨j, hj, rfl, HO⟩ := hrel
    by_cases hlt : j < l.length
    · obtain ⟨o1, e1, q1⟩ := (H1.out.kept HO.out (fun _ h => h)).at_ (by omega)
      obtain ⟨o2, e2, q2⟩ := (H2.out.kept HO.out (fun _ h => h)).at_ (by omega); obtain ⟨k1, k2⟩ := q1 j hlt; obtain ⟨k3, k4⟩ := q2 j hlt; obtain ⟨y, hy⟩ : ∃ y, l[j].1 = y := ⟨_, rfl⟩; obtain ⟨z, hz⟩ : ∃ z, l[j].2 = z := ⟨_, rfl⟩; rw [hy] at k1 k3; rw [hz] at k2 k4
      have hj0 : (0 : Int) ≤ (j : Int) := by omega
      have hj1 : (j : Int) < (l.length : Int) := by omega
      clear q1 q2 hy hz; subst e1; subst e2
      go_wp2_with fail
      go_region
      go_wp2_with fail
      go_roundw
      case rel => exact ⟨j + 1, by omega, by go_num, hide (HO.out.trans (Only.drew _ _) (fun _ _ h => h))⟩
      case measure => simp [intOf]; omega
    · go_wp2_with fail
      go_ret
      exact ⟨rfl, HO.out⟩
end Go.Proofs.YtebijheonkagfaaGreatDoor
