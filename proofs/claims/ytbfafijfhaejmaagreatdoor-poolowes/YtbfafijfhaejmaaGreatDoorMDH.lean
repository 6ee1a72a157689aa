/- What Crash does. -/
import Derived.Shelf.Sort.Plain
import Derived.Test.YtbfafijfhaejmaaGreatDoorProg
import Derived.Test.YtbfafijfhaejmaaGreatDoorDBase
import Derived.Sort.OwnSortedInts
import Derived.Test.YtbfafijfhaejmaaGreatDoorMD
import Derived.Maps.AppendAt
import Derived.Sort.OwnSorted
namespace Go.Proofs
open Go.Shelf
def Tryz.lays189_ren : Go.Shelf.Ren := ⟨fun | 189 => 110 | 125 => 144 | 257 => 143 | 128 => 177 | 129 => 178 | 294 => 168 | 295 => 169 | 296 => 170 | 297 => 171 | 298 => 172 | 299 => 173 | 216 => 174 | 300 => 175 | 301 => 176 | 328 => 187 | 329 => 188 | 330 => 189 | 331 => 190 | 332 => 191 | 215 => 192 | 343 => 197 | n => n, fun | 28 => 54 | 3 => 3 | 46 => 140 | 0 => 0 | 51 => 134 | 53 => 161 | 4 => 4 | 183 => 215 | 182 => 214 | 131 => 132 | 5 => 5 | 9 => 9 | 218 => 229 | 222 => 233 | 228 => 242 | 229 => 243 | n => n, fun | n => n⟩
theorem Tryz.lays189 : Go.Proofs.Lays.n189 Tryz.prog Tryz.lays189_ren := {
  mixed := by kernel_rfl
  f125 := Tryz.func144.trans (congrArg some (by kernel_rfl))
  f128 := Tryz.func177.trans (congrArg some (by kernel_rfl))
  f129 := Tryz.func178.trans (congrArg some (by kernel_rfl))
  f189 := Tryz.func110.trans (congrArg some (by kernel_rfl))
  f215 := Tryz.func192.trans (congrArg some (by kernel_rfl))
  f216 := Tryz.func174.trans (congrArg some (by kernel_rfl))
  f257 := Tryz.func143.trans (congrArg some (by kernel_rfl))
  f294 := Tryz.func168.trans (congrArg some (by kernel_rfl))
  f295 := Tryz.func169.trans (congrArg some (by kernel_rfl))
  f296 := Tryz.func170.trans (congrArg some (by kernel_rfl))
  f297 := Tryz.func171.trans (congrArg some (by kernel_rfl))
  f298 := Tryz.func172.trans (congrArg some (by kernel_rfl))
  f299 := Tryz.func173.trans (congrArg some (by kernel_rfl))
  f300 := Tryz.func175.trans (congrArg some (by kernel_rfl))
  f301 := Tryz.func176.trans (congrArg some (by kernel_rfl))
  f328 := Tryz.func187.trans (congrArg some (by kernel_rfl))
  f329 := Tryz.func188.trans (congrArg some (by kernel_rfl))
  f330 := Tryz.func189.trans (congrArg some (by kernel_rfl))
  f331 := Tryz.func190.trans (congrArg some (by kernel_rfl))
  f332 := Tryz.func191.trans (congrArg some (by kernel_rfl))
  f343 := Tryz.func197.trans (congrArg some (by kernel_rfl))
  t0 := Tryz.underlying0
  a0 := Tryz.isAgg0
  z0 := Tryz.sizeOf0
  v0 := Tryz.zeroValue0
  t3 := Tryz.underlying3
  a3 := Tryz.isAgg3
  z3 := Tryz.sizeOf3
  v3 := Tryz.zeroValue3
  t4 := Tryz.underlying4
  a4 := Tryz.isAgg4
  z4 := Tryz.sizeOf4
  v4 := Tryz.zeroValue4
  t5 := Tryz.underlying5
  a5 := Tryz.isAgg5
  z5 := Tryz.sizeOf5
  v5 := Tryz.zeroValue5
  t9 := Tryz.underlying9
  a9 := Tryz.isAgg9
  z9 := Tryz.sizeOf9
  v9 := Tryz.zeroValue9
  t28 := Tryz.underlying54
  a28 := Tryz.isAgg54
  z28 := Tryz.sizeOf54
  v28 := Tryz.zeroValue54
  t46 := Tryz.underlying140
  a46 := Tryz.isAgg140
  z46 := Tryz.sizeOf140
  v46 := Tryz.zeroValue140
  t51 := Tryz.underlying134
  a51 := Tryz.isAgg134
  z51 := Tryz.sizeOf134
  v51 := Tryz.zeroValue134
  t53 := Tryz.underlying161
  a53 := Tryz.isAgg161
  z53 := Tryz.sizeOf161
  v53 := Tryz.zeroValue161
  t131 := Tryz.underlying132
  a131 := Tryz.isAgg132
  z131 := Tryz.sizeOf132
  v131 := Tryz.zeroValue132
  t182 := Tryz.underlying214
  a182 := Tryz.isAgg214
  z182 := Tryz.sizeOf214
  v182 := Tryz.zeroValue214
  t183 := Tryz.underlying215
  a183 := Tryz.isAgg215
  z183 := Tryz.sizeOf215
  v183 := Tryz.zeroValue215
  t218 := Tryz.underlying229
  a218 := Tryz.isAgg229
  z218 := Tryz.sizeOf229
  v218 := Tryz.zeroValue229
  t222 := Tryz.underlying233
  a222 := Tryz.isAgg233
  z222 := Tryz.sizeOf233
  v222 := Tryz.zeroValue233
  t228 := Tryz.underlying242
  a228 := Tryz.isAgg242
  z228 := Tryz.sizeOf242
  v228 := Tryz.zeroValue242
  t229 := Tryz.underlying243
  a229 := Tryz.isAgg243
  z229 := Tryz.sizeOf243
  v229 := Tryz.zeroValue243 }
open Go.Sort Go.RowKit in
theorem Tryz.slices_Sort_int (blk off cap : Nat) (zs : List Int) (w : World) (hH : Holds (Value.int .i64) w blk off zs.toArray) (hblk : blk < w.heap.size) (hsz : zs.length < 4611686018427387904) :
    Calls Tryz.prog 110 #[.slice (some ⟨blk, off, none⟩) zs.length cap] w fun e w' =>
      e = .returned (.tuple #[]) ∧ ∃ n os, w' = grow (putRow (Value.int .i64) (Sort.ahead w n) blk off (zs.mergeSort fun x y => decide (x ≤ y)).toArray) os := Any.slices_Sort_int Tryz.lays189 blk off cap zs w hH hblk hsz
end Go.Proofs

namespace Go.Proofs.YtbfafijfhaejmaaGreatDoor
open Go.Shelf Go.Sort Go.RowKit
theorem sort_any (blk off cap : Nat) (zs : List Int) (w : World) (hH : Holds (Value.int .i64) w blk off zs.toArray) (hblk : blk < w.heap.size) (hsz : zs.length < 4611686018427387904) :
    Calls Tryz.prog 110 #[.slice (some ⟨blk, off, none⟩) zs.length cap] w fun e w' =>
      e = .returned (.tuple #[]) ∧ ∃ n os, w' = grow (putRow (Value.int .i64) (Sort.ahead w n) blk off (zs.mergeSort fun x y => decide (x ≤ y)).toArray) os :=
  Any.slices_Sort_int Tryz.lays189 blk off cap zs w hH hblk hsz
end Go.Proofs.YtbfafijfhaejmaaGreatDoor

namespace Go.Proofs.YtbfafijfhaejmaaGreatDoor
open Go.RowKit Go.Maps Go.Sort

/-- The keys met so far: none twice; those that the map has and that are no longer to come. -/
def Col (D : DataW Unit) (left : Lit → Bool) (zs : List Int) : Prop := zs.Nodup ∧ ∀ x : Int, x ∈ zs ↔ (has D (.int .i64 x) = true ∧ left (.int .i64 x) = false)
theorem Col.start (D : DataW Unit) : Col D (has D) [] := ⟨List.nodup_nil, fun x => by cases has D (.int .i64 x) <;> simp⟩
theorem Col.step {D : DataW Unit} {left : Lit → Bool} {zs : List Int} (h : Col D left zs) {x : Int} (hl : left (.int .i64 x) = true) (hh : has D (.int .i64 x) = true) : Col D (fun z => left z && !z.sameKey (.int .i64 x)) (zs ++ [x]) := by
  obtain ⟨h1, h2⟩ := h
  have hx : ¬ x ∈ zs := fun e => by have := ((h2 x).1 e).2; rw [hl] at this; cases this
  refine ⟨List.nodup_append.2 ⟨h1, by simp, ?_⟩, fun y => ?_⟩
  · intro a ha b hb e
    simp at hb
    exact hx (by rw [← hb, ← e]; exact ha)
  · rw [List.mem_append, h2 y]
    by_cases e : y = x
    · subst e
      have : (Lit.int .i64 y).sameKey (.int .i64 y) = true := WideAt.sameKey_self (a := .int .i64 y) trivial
      simp [this, hh]
    · have : (Lit.int .i64 y).sameKey (.int .i64 x) = false := sameKey_ne (by simpa using e)
      simp [this, e]
theorem pend_sorted (D : Dk) : D.pend.Pairwise (· < ·) := List.Pairwise.filter _ List.pairwise_lt_range
theorem Col.sorted {DD : DataW Unit} {left : Lit → Bool} {zs : List Int} {D : Dk} (h : Col DD left zs) (hD : FrsD DD D.old.length D.fresh) (hl : ∀ kl, left kl = false) :
    zs.mergeSort (fun x y => decide (x ≤ y)) = D.pend.map (fun k : Nat => (k : Int)) := by
  have hp : zs.Perm (D.pend.map (fun k : Nat => (k : Int))) := by
    refine (List.perm_ext_iff_of_nodup h.1 ?_).2 fun x => ?_
    · refine List.pairwise_map.2 ((pend_sorted D).imp ?_)
      intro a b hab e
      omega
    · rw [h.2 x, List.mem_map]
      constructor
      · rintro ⟨hh, _⟩
        obtain ⟨k, hk, e⟩ := hD.key _ hh
        cases e
        exact ⟨k, mem_pend.2 ⟨hk, by rw [← hD.has k]; exact hh⟩, rfl⟩
      · rintro ⟨k, hk, rfl⟩
        exact ⟨by rw [hD.has k]; exact (mem_pend.1 hk).2, hl _⟩
  have tr : ∀ a b c : Int, decide (a ≤ b) = true → decide (b ≤ c) = true → decide (a ≤ c) = true := fun a b c h1 h2 => by simp at *; omega
  have to : ∀ a b : Int, (decide (a ≤ b) || decide (b ≤ a)) = true := fun a b => by simp; omega
  refine List.Perm.eq_of_pairwise (le := fun a b => decide (a ≤ b) = true) (fun a b _ _ h1 h2 => ?_) (List.pairwise_mergeSort tr to zs) ?_ ((List.mergeSort_perm zs _).trans hp)
  · simp at h1 h2; omega
  · refine List.pairwise_map.2 ((pend_sorted D).imp ?_)
    intro a b hab
    simp
    omega
theorem Tryz.infoInt : (Tryz.prog.info? 3).map (fun i => (i.zero, i.size, i.bytes)) = some (some (.int .i64 0), 1, 8) := by kernel_rfl
theorem pending_nil (w : World) : Calls Tryz.prog 87 #[.pointer none] w fun e w' => e = .returned (.slice none 0 0) ∧ w' = w := by
  go_enter Tryz.func87, Tryz.ntmps87
  go_wp2
  go_ret
  exact ⟨rfl, rfl⟩
/-- Numbers as cells. -/
def icells (l : List Nat) : List Value := l.map fun k : Nat => Value.int .i64 (k : Int)
set_option maxRecDepth 100000 in
set_option maxHeartbeats 1600000 in
theorem pending_any (w : World) (d g m : Nat) (D : Dk) (h : Dsk w d g m D) : Calls Tryz.prog 87 #[.pointer (some ⟨d, 0, none⟩)] w fun e w' =>
    ∃ gg cap, e = .returned (.slice (some ⟨gg, 0, none⟩) D.pend.length cap) ∧ w'.ownsRow w.heap.size 3 1 (.slice (some ⟨gg, 0, none⟩) D.pend.length cap) D.pend.length (icells D.pend) ∧ Only (fun _ => False) w w' := by
  obtain ⟨i0, hi, hz0, hz1, hz2⟩ := info_parts Tryz.infoInt
  have hc1 := h.c1
  have hml := h.map.lt
  obtain ⟨N0, DD, hown0, hD⟩ := h.map
  have hsz := FrsD.size_le hown0 hD
  have hown := tight hown0
  have h64 := h.ok.hi
  have H := hide h
  have HD := hide hD
  clear h hD hown0
  go_enter Tryz.func87, Tryz.ntmps87
  go_wp2_with (first
    | (at_len; refine wpList_len_own _ rfl _ 86 rfl 3 126 Tryz.underlying86 _ m _ _ rfl hown ?_)
    | (at_make; refine wpList_make_own _ rfl _ _ 54 rfl w.heap.size 3 i0 (.int .i64 0) 1 Tryz.underlying54 hi hz0 hz1 _ _ _ (Maps.size DD) rfl rfl rfl (by rw [hz2]; omega) (by unfold maxLen; omega) (Nat.le_refl _) ?_; intro w1 hrow1 hg1; have hc1b := (H.out.same (Only.grown hg1 (fun k hk => by cases hk))).c1)
    | (at_range; refine wpList_range_own _ rfl _ 86 rfl 3 126 keyed Tryz.underlying86 _ m _ _ rfl (hown.kept hg1 (by simp)) ?_; intro w0 hrg0 hg0 hs0))
  go_frame
  have hsa := hg1.size
  obtain ⟨r, hr⟩ : ∃ r, w1.heap.size = r := ⟨_, rfl⟩
  have HR0 : Hid (w0.ranges Tryz.prog 3 secElem m r (Maps.size DD) DD (has DD) (Maps.size DD)) := by rw [← hr]; exact hrg0
  have HW0 : Hid (w0.ownsRow w.heap.size 3 1 (.slice (some ⟨w.heap.size, 0, none⟩) 0 (Maps.size DD)) 0 []) := hrow1.kept hg0 (Or.inr (by simp [Value.ownBlock]))
  have HO0 : Hid (Only (fun _ => False) w w0) := (Only.grown (S := fun _ => False) hg1 (fun k hk => by cases hk)).trans (Only.grown (S := fun _ => False) hg0 (fun k hk => by cases hk)) (fun _ _ h => h)
  have hs02 := hg0.size
  rw [hr] at hsa hs02 ⊢
  have HOWN := hide hown
  clear hr hrg0 hrow1 hg0 hg1 hc1 hc1b hs0 hown
  go_loopw [3] (fun v wr => ∃ (left : Lit → Bool) (cnt : Nat) (zs : List Int), Hid (wr.ranges Tryz.prog 3 secElem m r (Maps.size DD) DD left cnt) ∧ zs.length + cnt ≤ Maps.size DD ∧
      Hid (wr.ownsRow w.heap.size 3 1 v zs.length (zs.map (Value.int .i64))) ∧ Hid (v ≠ .slice none 0 0) ∧ Hid (Col DD left zs) ∧ Hid (Only (fun _ => False) w wr) ∧ r ≤ wr.heap.size)
    (fun _ wr => wr.rangeLeft m r)
  case atStart => exact ⟨_, _, [], HR0, by simp, HW0, hide (by simp), hide (Col.start DD), HO0, hs02⟩
  case round =>
    obtain ⟨left, cnt, zs, HR, hcs, HW, HN, HC, HO, hrs⟩ := hrel
    go_wp2_with (first
      | (at_next; refine wpList_next_ranges _ rfl _ rfl 3 keyed secElem (Value.int .i64) sec inv_key inv_sec m r _ _ _ _ rfl HR.out ?_ ?_))
    · intro hc0 hl0
      rcases HW.out.2 with ⟨hnil, _⟩ | ⟨g', cap, cur, rfl, hbase, hb, h1, h2, h3, h4⟩
      · exact absurd hnil HN.out
      have hH : Holds (Value.int .i64) wr g' 0 zs.toArray := holds_of_blockI hb (by simpa using h4)
      have hgl : g' < wr.heap.size := (Array.getElem?_eq_some_iff.1 hb).1
      have hc := sort_any g' 0 cap zs wr hH hgl (by omega)
      have hst := HC.out.sorted HD.out hl0
      rw [hst] at hc
      have hlen : zs.length = D.pend.length := by
        have := congrArg List.length hst
        simpa using this
      have HF : Hid (∀ nn os, (grow (putRow (Value.int .i64) (Sort.ahead wr nn) g' 0 (D.pend.map (fun k : Nat => (k : Int))).toArray) os).ownsRow w.heap.size 3 1 (.slice (some ⟨g', 0, none⟩) D.pend.length cap) D.pend.length (icells D.pend)
          ∧ Only (fun _ => False) w (grow (putRow (Value.int .i64) (Sort.ahead wr nn) g' 0 (D.pend.map (fun k : Nat => (k : Int))).toArray) os)) := by
        intro nn os
        constructor
        · have := ownsRow_sortedI (n := nn) (os := os) (ss := zs) (ts := D.pend.map (fun k : Nat => (k : Int))) (by simp [hlen]) hbase hb h1 h2 h3
          rw [hlen] at this
          simpa [icells, List.map_map, Function.comp_def] using this
        · refine HO.out.trans (Only.grown (S := fun i => i = g') (grownBy_sortedI _) (fun k hk => by cases hk; rfl)) (fun i hi e => ?_)
          omega
      have HLen := hide hlen
      clear hst hlen hH hb h1 h2 h3 h4
      go_wp2_with (go_at_call 110; refine hc.mono ?_; rintro e w' ⟨rfl, nn, os, rfl⟩)
      go_ret
      exact ⟨g', cap, by rw [← HLen.out]; rfl, (HF.out nn os).1, (HF.out nn os).2⟩
    · intro x c kl yd yp w2 cnt2 hkey hlk hv hat hrg2 hcl hg2 hs2 hen
      have hhas := Maps.has_true_of_atKey hat
      obtain ⟨k, hk, rfl, rfl, hf, hc64⟩ := entry_is HD.out hkey hv hat
      have hrow2 := HW.out.kept hg2 (Or.inr (row_ne_iter HW.out HR.out).symm)
      have hC2 := hide (HC.out.step hlk hhas)
      have hgs := hg2.size
      have HR2 := hide hrg2
      have HG2 := hide hg2
      have HW2 := hide hrow2
      have HM : Hid (cnt2 < cnt) := hcl
      have hos := HO.out.size
      clear hkey hlk hv hat hrg2 hg2 hs2 hrow2 hhas
      go_wp2_with (first
        | (at_builtin; go_must (refine wpList_append_own_at _ rfl _ _ 54 rfl w.heap.size 3 i0 (.int .i64 0) 1 8 Tryz.underlying54 hi hz0 hz1 hz2 rfl (by decide) _ _ _ rfl (HW2.out.alloc _) ⟨w2.heap.size, 0, none⟩ 1 1 [.int .i64 (k : Int)] rfl rfl (cell_one_new _ _ _) (by simp [Value.oneCell']) (by unfold maxLen at *; omega) (by omega) (by simp; omega) ?_); intro v' w3 hown' hg3 hnil3 hloc; go_frame))
      have hrg3 := (HR2.out.alloc _).kept hg3 (row_ne_low HW2.out hml) (row_ne_iter HW2.out HR2.out)
      go_roundw
      case rel =>
        refine ⟨_, cnt2, zs ++ [(k : Int)], hide hrg3, by simp; omega, hide (by simpa using hown'), hide (fun hv' => by have := (hnil3.1 hv').2; omega), hC2, hide ?_, by have := hg3.size; simp at this; omega⟩
        refine ((HO.out.trans (Only.grown (S := fun i => i = r) HG2.out (fun i hi => by cases hi; rfl)) (fun i hi e => by omega)).trans (Only.alloc (fun _ => False) _ _) (fun _ _ h => h)).trans (Only.grown (S := fun i => w.heap.size ≤ i) hg3 (fun i hi => (HW2.out.lt i hi).1)) (fun i hi e => by omega)
      case measure => rw [hrg3.left_eq, HR.out.left_eq]; exact HM.out
end Go.Proofs.YtbfafijfhaejmaaGreatDoor

namespace Go.Proofs.YtbfafijfhaejmaaGreatDoor
open Go.RowKit Go.Maps

set_option maxRecDepth 100000 in
set_option maxHeartbeats 3200000 in
theorem crash_region (w : World) (d g m N k : Nat) (f : Int) (q c ff : List UInt8) {t1 t2 t3 t4 t7 t8 t9 t10 t11 t12 t13 t14 t15 t16 t17 t18 t19 t20 t21 t22 t23 t24 t25 t26 t27 t28 t29 t30 t31 t32 t33 t34 t35 t36 t37 t38 t39 t40 t41 t42 t43 t44 t45 t46 t47 t48 t49 t50 t51 t52 t53 t54 t55 t56 : Value} {Q : Exit → Act → World → Prop}
    (hfl : ff.length = 64) (hk0 : (0 : Int) ≤ (k : Int)) (hk1 : (k : Int) < (N : Int)) (hld : w.drew.rangeAt g (k * 64) (cells q)) (hus : Tryz.prog.underlying 126 = some (.array 64 5)) (hlq : (Tryz.prog.info? 126).map (·.size) = some (cells q).length)
    (hcall : ∀ W, Calls Tryz.prog 88 #[.agg (cells q).toArray, sec c, .int .i64 f] W fun e w' => e = .returned (.agg (cells ff).toArray) ∧ Only (fun _ => False) W w')
    (HK : Hid (∀ w2, Only (fun _ => False) w.drew w2 → (fun w' => w'.cell? ⟨d, 0, none⟩ = some (.slice (some ⟨g, 0, none⟩) N N) ∧ w'.cell? ⟨d, 1, none⟩ = some (.map (some m)) ∧ w'.there g (k * 64) 64 ∧ (Instr.lookup 86 (.map (some m)) (.int .i64 (k : Int)) false).run Tryz.prog w' = .ok (sec c) w') w2))
    (HK2 : Hid (∀ w2, Only (fun _ => False) w.drew w2 → (fun w' => w'.cell? ⟨d, 0, none⟩ = some (.slice (some ⟨g, 0, none⟩) N N) ∧ w'.cell? ⟨d, 1, none⟩ = some (.map (some m)) ∧ w'.there g (k * 64) 64 ∧ (Instr.lookup 86 (.map (some m)) (.int .i64 (k : Int)) false).run Tryz.prog w' = .ok (sec c) w') (w2.setCells g (k * 64) (cells ff))))
    (hQ : ∀ w2, Only (fun _ => False) w.drew w2 → Q .normal { tmps := #[.pointer (some ⟨d, 0, none⟩), t1, t2, t3, t4, .int .i64 (k : Int), .int .i64 f, t7, t8, t9, t10, t11, t12, t13, t14, t15, t16, t17, t18, t19, t20, t21, t22, t23, t24, .pointer (some ⟨d, 0, none⟩), .pointer (some ⟨d, 0, none⟩), .pointer (some ⟨d, 0, none⟩), .slice (some ⟨g, 0, none⟩) N N, .int .i64 (k : Int), .pointer (some ⟨d, 0, none⟩), .pointer (some ⟨d, 0, none⟩), .pointer (some ⟨d, 0, none⟩), .slice (some ⟨g, 0, none⟩) N N, .int .i64 (k : Int), .pointer (some ⟨g, k * 64, none⟩), .agg (cells q).toArray, .pointer (some ⟨d, 0, none⟩), .pointer (some ⟨d, 0, none⟩), .pointer (some ⟨d, 1, none⟩), .map (some m), .int .i64 (k : Int), sec c, .int .i64 f, .agg (cells ff).toArray, .pointer (some ⟨g, k * 64, none⟩), t46, t47, t48, t49, t50, t51, t52, t53, t54, t55, t56], defers := [] } (w2.setCells g (k * 64) (cells ff))) :
    (Code.region 7 #[{ dst := some 25, op := Op.move (Operand.tmp 0), type := 23, pos := "disk.go:116", after := #[], guard := none }, { dst := some 26, op := Op.nilCheck (Operand.tmp 25), type := 0, pos := "disk.go:116", after := #[{ on := 0, ground := Ground.data }], guard := none }, { dst := some 27, op := Op.fieldAddr 88 (Operand.tmp 26) 0, type := 0, pos := "disk.go:116", after := #[{ on := 1, ground := Ground.data }], guard := none }, { dst := some 28, op := Op.load 85 (Operand.tmp 27), type := 85, pos := "disk.go:116", after := #[{ on := 2, ground := Ground.data }], guard := none }, { dst := some 29, op := Op.move (Operand.tmp 5), type := 3, pos := "disk.go:116", after := #[], guard := none }, { dst := some 30, op := Op.move (Operand.tmp 0), type := 23, pos := "disk.go:116", after := #[], guard := none }, { dst := some 31, op := Op.nilCheck (Operand.tmp 30), type := 0, pos := "disk.go:116", after := #[{ on := 5, ground := Ground.data }], guard := none }, { dst := some 32, op := Op.fieldAddr 88 (Operand.tmp 31) 0, type := 0, pos := "disk.go:116", after := #[{ on := 6, ground := Ground.data }], guard := none }, { dst := some 33, op := Op.load 85 (Operand.tmp 32), type := 85, pos := "disk.go:116", after := #[{ on := 7, ground := Ground.data }], guard := none }, { dst := some 34, op := Op.move (Operand.tmp 5), type := 3, pos := "disk.go:116", after := #[], guard := none }, { dst := some 35, op := Op.indexAddr 85 (Operand.tmp 33) (Operand.tmp 34), type := 0, pos := "disk.go:116", after := #[{ on := 8, ground := Ground.data }, { on := 9, ground := Ground.data }], guard := none }, { dst := some 36, op := Op.load 126 (Operand.tmp 35), type := 126, pos := "disk.go:116", after := #[{ on := 10, ground := Ground.data }], guard := none }, { dst := some 37, op := Op.move (Operand.tmp 0), type := 23, pos := "disk.go:116", after := #[], guard := none }, { dst := some 38, op := Op.nilCheck (Operand.tmp 37), type := 0, pos := "disk.go:116", after := #[{ on := 12, ground := Ground.data }], guard := none }, { dst := some 39, op := Op.fieldAddr 88 (Operand.tmp 38) 1, type := 0, pos := "disk.go:116", after := #[{ on := 13, ground := Ground.data }], guard := none }, { dst := some 40, op := Op.load 86 (Operand.tmp 39), type := 86, pos := "disk.go:116", after := #[{ on := 14, ground := Ground.data }], guard := none }, { dst := some 41, op := Op.move (Operand.tmp 5), type := 3, pos := "disk.go:116", after := #[], guard := none }, { dst := some 42, op := Op.lookup 86 (Operand.tmp 40) (Operand.tmp 41) false, type := 126, pos := "disk.go:116", after := #[{ on := 15, ground := Ground.data }, { on := 16, ground := Ground.data }], guard := none }, { dst := some 43, op := Op.move (Operand.tmp 6), type := 3, pos := "disk.go:116", after := #[], guard := none }, { dst := some 44, op := Op.call { callee := Callee.value (Operand.func 88), args := #[Operand.tmp 36, Operand.tmp 42, Operand.tmp 43], argTypes := #[126, 126, 3] }, type := 126, pos := "disk.go:116", after := #[{ on := 11, ground := Ground.data }, { on := 17, ground := Ground.data }, { on := 18, ground := Ground.data }], guard := none }, { dst := some 45, op := Op.indexAddr 85 (Operand.tmp 28) (Operand.tmp 29), type := 0, pos := "disk.go:116", after := #[{ on := 3, ground := Ground.data }, { on := 4, ground := Ground.data }, { on := 0, ground := Ground.phase }, { on := 1, ground := Ground.phase }, { on := 2, ground := Ground.phase }, { on := 3, ground := Ground.phase }, { on := 4, ground := Ground.phase }, { on := 5, ground := Ground.phase }, { on := 6, ground := Ground.phase }, { on := 7, ground := Ground.phase }, { on := 8, ground := Ground.phase }, { on := 9, ground := Ground.phase }, { on := 10, ground := Ground.phase }, { on := 11, ground := Ground.phase }, { on := 12, ground := Ground.phase }, { on := 13, ground := Ground.phase }, { on := 14, ground := Ground.phase }, { on := 15, ground := Ground.phase }, { on := 16, ground := Ground.phase }, { on := 17, ground := Ground.phase }, { on := 18, ground := Ground.phase }, { on := 19, ground := Ground.phase }], guard := none }, { dst := none, op := Op.store 126 (Operand.tmp 45) (Operand.tmp 44), type := 0, pos := "disk.go:116", after := #[{ on := 20, ground := Ground.data }, { on := 19, ground := Ground.data }, { on := 19, ground := Ground.chain }, { on := 0, ground := Ground.phase }, { on := 1, ground := Ground.phase }, { on := 2, ground := Ground.phase }, { on := 3, ground := Ground.phase }, { on := 4, ground := Ground.phase }, { on := 5, ground := Ground.phase }, { on := 6, ground := Ground.phase }, { on := 7, ground := Ground.phase }, { on := 8, ground := Ground.phase }, { on := 9, ground := Ground.phase }, { on := 10, ground := Ground.phase }, { on := 11, ground := Ground.phase }, { on := 12, ground := Ground.phase }, { on := 13, ground := Ground.phase }, { on := 14, ground := Ground.phase }, { on := 15, ground := Ground.phase }, { on := 16, ground := Ground.phase }, { on := 17, ground := Ground.phase }, { on := 18, ground := Ground.phase }, { on := 19, ground := Ground.phase }], guard := none }] true).wp Tryz.prog Q { tmps := #[.pointer (some ⟨d, 0, none⟩), t1, t2, t3, t4, .int .i64 (k : Int), .int .i64 f, t7, t8, t9, t10, t11, t12, t13, t14, t15, t16, t17, t18, t19, t20, t21, t22, t23, t24, t25, t26, t27, t28, t29, t30, t31, t32, t33, t34, t35, t36, t37, t38, t39, t40, t41, t42, t43, t44, t45, t46, t47, t48, t49, t50, t51, t52, t53, t54, t55, t56], defers := [] } w := by
  refine wp_region_noPanic ?_
  refine wp_region_held_drew (S := fun w' => w'.cell? ⟨d, 0, none⟩ = some (.slice (some ⟨g, 0, none⟩) N N) ∧ w'.cell? ⟨d, 1, none⟩ = some (.map (some m)) ∧ w'.there g (k * 64) 64 ∧ (Instr.lookup 86 (.map (some m)) (.int .i64 (k : Int)) false).run Tryz.prog w' = .ok (sec c) w') (by kernel_rfl) (HK.out _ (Only.refl _ _)) (fun hHeld => ?_)
  refine wpAnyH_take (i := 0) (oi := { dst := some 25, op := Op.move (Operand.tmp 0), type := 23, pos := "disk.go:116", after := #[], guard := none }) (v := .pointer (some ⟨d, 0, none⟩)) rfl (by kernel_rfl) (by kernel_rfl) (by kernel_rfl) (fun _ _ _ h => h) (Or.inl ⟨by rfl, fun w' hSw => by obtain ⟨s0, s1, s2, s3⟩ := hSw; go_simp⟩) (by assumption) ?_
  simp only [Act.put, List.setIfInBounds_toArray, List.set_cons_zero, List.set_cons_succ]
  refine wpAnyH_take (i := 1) (oi := { dst := some 26, op := Op.nilCheck (Operand.tmp 25), type := 0, pos := "disk.go:116", after := #[{ on := 0, ground := Ground.data }], guard := none }) (v := .pointer (some ⟨d, 0, none⟩)) rfl (by kernel_rfl) (by kernel_rfl) (by kernel_rfl) (fun _ _ _ h => h) (Or.inl ⟨by rfl, fun w' hSw => by obtain ⟨s0, s1, s2, s3⟩ := hSw; go_simp⟩) (by assumption) ?_
  simp only [Act.put, List.setIfInBounds_toArray, List.set_cons_zero, List.set_cons_succ]
  refine wpAnyH_take (i := 2) (oi := { dst := some 27, op := Op.fieldAddr 88 (Operand.tmp 26) 0, type := 0, pos := "disk.go:116", after := #[{ on := 1, ground := Ground.data }], guard := none }) (v := .pointer (some ⟨d, 0, none⟩)) rfl (by kernel_rfl) (by kernel_rfl) (by kernel_rfl) (fun _ _ _ h => h) (Or.inl ⟨by rfl, fun w' hSw => by obtain ⟨s0, s1, s2, s3⟩ := hSw; go_simp⟩) (by assumption) ?_
  simp only [Act.put, List.setIfInBounds_toArray, List.set_cons_zero, List.set_cons_succ]
  refine wpAnyH_take (i := 3) (oi := { dst := some 28, op := Op.load 85 (Operand.tmp 27), type := 85, pos := "disk.go:116", after := #[{ on := 2, ground := Ground.data }], guard := none }) (v := .slice (some ⟨g, 0, none⟩) N N) rfl (by kernel_rfl) (by kernel_rfl) (by kernel_rfl) (fun _ _ _ h => h) (Or.inl ⟨by rfl, fun w' hSw => by obtain ⟨s0, s1, s2, s3⟩ := hSw; go_simp⟩) (by assumption) ?_
  simp only [Act.put, List.setIfInBounds_toArray, List.set_cons_zero, List.set_cons_succ]
  refine wpAnyH_take (i := 4) (oi := { dst := some 29, op := Op.move (Operand.tmp 5), type := 3, pos := "disk.go:116", after := #[], guard := none }) (v := .int .i64 (k : Int)) rfl (by kernel_rfl) (by kernel_rfl) (by kernel_rfl) (fun _ _ _ h => h) (Or.inl ⟨by rfl, fun w' hSw => by obtain ⟨s0, s1, s2, s3⟩ := hSw; go_simp⟩) (by assumption) ?_
  simp only [Act.put, List.setIfInBounds_toArray, List.set_cons_zero, List.set_cons_succ]
  refine wpAnyH_take (i := 5) (oi := { dst := some 30, op := Op.move (Operand.tmp 0), type := 23, pos := "disk.go:116", after := #[], guard := none }) (v := .pointer (some ⟨d, 0, none⟩)) rfl (by kernel_rfl) (by kernel_rfl) (by kernel_rfl) (fun _ _ _ h => h) (Or.inl ⟨by rfl, fun w' hSw => by obtain ⟨s0, s1, s2, s3⟩ := hSw; go_simp⟩) (by assumption) ?_
  simp only [Act.put, List.setIfInBounds_toArray, List.set_cons_zero, List.set_cons_succ]
  refine wpAnyH_take (i := 6) (oi := { dst := some 31, op := Op.nilCheck (Operand.tmp 30), type := 0, pos := "disk.go:116", after := #[{ on := 5, ground := Ground.data }], guard := none }) (v := .pointer (some ⟨d, 0, none⟩)) rfl (by kernel_rfl) (by kernel_rfl) (by kernel_rfl) (fun _ _ _ h => h) (Or.inl ⟨by rfl, fun w' hSw => by obtain ⟨s0, s1, s2, s3⟩ := hSw; go_simp⟩) (by assumption) ?_
  simp only [Act.put, List.setIfInBounds_toArray, List.set_cons_zero, List.set_cons_succ]
  refine wpAnyH_take (i := 7) (oi := { dst := some 32, op := Op.fieldAddr 88 (Operand.tmp 31) 0, type := 0, pos := "disk.go:116", after := #[{ on := 6, ground := Ground.data }], guard := none }) (v := .pointer (some ⟨d, 0, none⟩)) rfl (by kernel_rfl) (by kernel_rfl) (by kernel_rfl) (fun _ _ _ h => h) (Or.inl ⟨by rfl, fun w' hSw => by obtain ⟨s0, s1, s2, s3⟩ := hSw; go_simp⟩) (by assumption) ?_
  simp only [Act.put, List.setIfInBounds_toArray, List.set_cons_zero, List.set_cons_succ]
  refine wpAnyH_take (i := 8) (oi := { dst := some 33, op := Op.load 85 (Operand.tmp 32), type := 85, pos := "disk.go:116", after := #[{ on := 7, ground := Ground.data }], guard := none }) (v := .slice (some ⟨g, 0, none⟩) N N) rfl (by kernel_rfl) (by kernel_rfl) (by kernel_rfl) (fun _ _ _ h => h) (Or.inl ⟨by rfl, fun w' hSw => by obtain ⟨s0, s1, s2, s3⟩ := hSw; go_simp⟩) (by assumption) ?_
  simp only [Act.put, List.setIfInBounds_toArray, List.set_cons_zero, List.set_cons_succ]
  refine wpAnyH_take (i := 9) (oi := { dst := some 34, op := Op.move (Operand.tmp 5), type := 3, pos := "disk.go:116", after := #[], guard := none }) (v := .int .i64 (k : Int)) rfl (by kernel_rfl) (by kernel_rfl) (by kernel_rfl) (fun _ _ _ h => h) (Or.inl ⟨by rfl, fun w' hSw => by obtain ⟨s0, s1, s2, s3⟩ := hSw; go_simp⟩) (by assumption) ?_
  simp only [Act.put, List.setIfInBounds_toArray, List.set_cons_zero, List.set_cons_succ]
  refine wpAnyH_take (i := 10) (oi := { dst := some 35, op := Op.indexAddr 85 (Operand.tmp 33) (Operand.tmp 34), type := 0, pos := "disk.go:116", after := #[{ on := 8, ground := Ground.data }, { on := 9, ground := Ground.data }], guard := none }) (v := .pointer (some ⟨g, k * 64, none⟩)) rfl (by kernel_rfl) (by kernel_rfl) (by kernel_rfl) (fun _ _ _ h => h) (Or.inl ⟨by rfl, fun w' hSw => by obtain ⟨s0, s1, s2, s3⟩ := hSw; go_simp⟩) (by assumption) ?_
  simp only [Act.put, List.setIfInBounds_toArray, List.set_cons_zero, List.set_cons_succ]
  refine wpAnyH_take (i := 12) (oi := { dst := some 37, op := Op.move (Operand.tmp 0), type := 23, pos := "disk.go:116", after := #[], guard := none }) (v := .pointer (some ⟨d, 0, none⟩)) rfl (by kernel_rfl) (by kernel_rfl) (by kernel_rfl) (fun _ _ _ h => h) (Or.inl ⟨by rfl, fun w' hSw => by obtain ⟨s0, s1, s2, s3⟩ := hSw; go_simp⟩) (by assumption) ?_
  simp only [Act.put, List.setIfInBounds_toArray, List.set_cons_zero, List.set_cons_succ]
  refine wpAnyH_take (i := 13) (oi := { dst := some 38, op := Op.nilCheck (Operand.tmp 37), type := 0, pos := "disk.go:116", after := #[{ on := 12, ground := Ground.data }], guard := none }) (v := .pointer (some ⟨d, 0, none⟩)) rfl (by kernel_rfl) (by kernel_rfl) (by kernel_rfl) (fun _ _ _ h => h) (Or.inl ⟨by rfl, fun w' hSw => by obtain ⟨s0, s1, s2, s3⟩ := hSw; go_simp⟩) (by assumption) ?_
  simp only [Act.put, List.setIfInBounds_toArray, List.set_cons_zero, List.set_cons_succ]
  refine wpAnyH_take (i := 14) (oi := { dst := some 39, op := Op.fieldAddr 88 (Operand.tmp 38) 1, type := 0, pos := "disk.go:116", after := #[{ on := 13, ground := Ground.data }], guard := none }) (v := .pointer (some ⟨d, 1, none⟩)) rfl (by kernel_rfl) (by kernel_rfl) (by kernel_rfl) (fun _ _ _ h => h) (Or.inl ⟨by rfl, fun w' hSw => by obtain ⟨s0, s1, s2, s3⟩ := hSw; go_simp⟩) (by assumption) ?_
  simp only [Act.put, List.setIfInBounds_toArray, List.set_cons_zero, List.set_cons_succ]
  refine wpAnyH_take (i := 15) (oi := { dst := some 40, op := Op.load 86 (Operand.tmp 39), type := 86, pos := "disk.go:116", after := #[{ on := 14, ground := Ground.data }], guard := none }) (v := .map (some m)) rfl (by kernel_rfl) (by kernel_rfl) (by kernel_rfl) (fun _ _ _ h => h) (Or.inl ⟨by rfl, fun w' hSw => by obtain ⟨s0, s1, s2, s3⟩ := hSw; go_simp⟩) (by assumption) ?_
  simp only [Act.put, List.setIfInBounds_toArray, List.set_cons_zero, List.set_cons_succ]
  refine wpAnyH_take (i := 16) (oi := { dst := some 41, op := Op.move (Operand.tmp 5), type := 3, pos := "disk.go:116", after := #[], guard := none }) (v := .int .i64 (k : Int)) rfl (by kernel_rfl) (by kernel_rfl) (by kernel_rfl) (fun _ _ _ h => h) (Or.inl ⟨by rfl, fun w' hSw => by obtain ⟨s0, s1, s2, s3⟩ := hSw; go_simp⟩) (by assumption) ?_
  simp only [Act.put, List.setIfInBounds_toArray, List.set_cons_zero, List.set_cons_succ]
  refine wpAnyH_take (i := 18) (oi := { dst := some 43, op := Op.move (Operand.tmp 6), type := 3, pos := "disk.go:116", after := #[], guard := none }) (v := .int .i64 f) rfl (by kernel_rfl) (by kernel_rfl) (by kernel_rfl) (fun _ _ _ h => h) (Or.inl ⟨by rfl, fun w' hSw => by obtain ⟨s0, s1, s2, s3⟩ := hSw; go_simp⟩) (by assumption) ?_
  simp only [Act.put, List.setIfInBounds_toArray, List.set_cons_zero, List.set_cons_succ]
  refine wpAnyH_ready (rs := [11, 17]) (by kernel_rfl) (by simp) ?_
  refine AllReadyH.cons (o := { dst := some 36, op := Op.load 126 (Operand.tmp 35), type := 126, pos := "disk.go:116", after := #[{ on := 10, ground := Ground.data }], guard := none }) rfl (fun K hK => ?_) (AllReadyH.cons (o := { dst := some 42, op := Op.lookup 86 (Operand.tmp 40) (Operand.tmp 41) false, type := 126, pos := "disk.go:116", after := #[{ on := 15, ground := Ground.data }, { on := 16, ground := Ground.data }], guard := none }) rfl (fun K hK => ?_) AllReadyH.nil)
  · rw [if_pos (by rfl)]
    refine wp_load_mid _ _ rfl _ _ rfl _ _ hld hus rfl hlq ?_
    simp only [Act.put, List.setIfInBounds_toArray, List.set_cons_zero, List.set_cons_succ]
    refine hK.out _ _ hHeld (fun _ => ?_)
    clear hK K
    refine wpAnyH_ready (rs := [17]) (by kernel_rfl) (by simp) ?_
    refine AllReadyH.cons (o := { dst := some 42, op := Op.lookup 86 (Operand.tmp 40) (Operand.tmp 41) false, type := 126, pos := "disk.go:116", after := #[{ on := 15, ground := Ground.data }, { on := 16, ground := Ground.data }], guard := none }) rfl (fun K hK => ?_) AllReadyH.nil
    obtain ⟨c0, c1, -, hlk⟩ := HK.out w.drew (Only.refl _ _)
    go_simp
    refine hK.out _ _ hHeld (fun _ => ?_)
    clear hK K hlk c0 c1
    refine wpAnyH_ready (rs := [19]) (by kernel_rfl) (by simp) ?_
    refine AllReadyH.cons (o := { dst := some 44, op := Op.call { callee := Callee.value (Operand.func 88), args := #[Operand.tmp 36, Operand.tmp 42, Operand.tmp 43], argTypes := #[126, 126, 3] }, type := 126, pos := "disk.go:116", after := #[{ on := 11, ground := Ground.data }, { on := 17, ground := Ground.data }, { on := 18, ground := Ground.data }], guard := none }) rfl (fun K hK => ?_) AllReadyH.nil
    go_simp
    refine (hcall _).mono ?_
    rintro e w2 ⟨rfl, hO2⟩
    refine hK.out _ _ (HK.out w2 hO2) (fun hHeld2 => ?_)
    clear hK K
    refine wpAnyH_take (i := 20) (oi := { dst := some 45, op := Op.indexAddr 85 (Operand.tmp 28) (Operand.tmp 29), type := 0, pos := "disk.go:116", after := #[{ on := 3, ground := Ground.data }, { on := 4, ground := Ground.data }, { on := 0, ground := Ground.phase }, { on := 1, ground := Ground.phase }, { on := 2, ground := Ground.phase }, { on := 3, ground := Ground.phase }, { on := 4, ground := Ground.phase }, { on := 5, ground := Ground.phase }, { on := 6, ground := Ground.phase }, { on := 7, ground := Ground.phase }, { on := 8, ground := Ground.phase }, { on := 9, ground := Ground.phase }, { on := 10, ground := Ground.phase }, { on := 11, ground := Ground.phase }, { on := 12, ground := Ground.phase }, { on := 13, ground := Ground.phase }, { on := 14, ground := Ground.phase }, { on := 15, ground := Ground.phase }, { on := 16, ground := Ground.phase }, { on := 17, ground := Ground.phase }, { on := 18, ground := Ground.phase }, { on := 19, ground := Ground.phase }], guard := none }) (v := .pointer (some ⟨g, k * 64, none⟩)) rfl (by kernel_rfl) (by kernel_rfl) (by kernel_rfl) (fun _ _ _ h => h) (Or.inl ⟨by rfl, fun w' hSw => by obtain ⟨s0, s1, s2, s3⟩ := hSw; go_simp⟩) (by assumption) ?_
    simp only [Act.put, List.setIfInBounds_toArray, List.set_cons_zero, List.set_cons_succ]
    refine wpAnyH_ready (rs := [21]) (by kernel_rfl) (by simp) ?_
    refine AllReadyH.cons (o := { dst := none, op := Op.store 126 (Operand.tmp 45) (Operand.tmp 44), type := 0, pos := "disk.go:116", after := #[{ on := 20, ground := Ground.data }, { on := 19, ground := Ground.data }, { on := 19, ground := Ground.chain }, { on := 0, ground := Ground.phase }, { on := 1, ground := Ground.phase }, { on := 2, ground := Ground.phase }, { on := 3, ground := Ground.phase }, { on := 4, ground := Ground.phase }, { on := 5, ground := Ground.phase }, { on := 6, ground := Ground.phase }, { on := 7, ground := Ground.phase }, { on := 8, ground := Ground.phase }, { on := 9, ground := Ground.phase }, { on := 10, ground := Ground.phase }, { on := 11, ground := Ground.phase }, { on := 12, ground := Ground.phase }, { on := 13, ground := Ground.phase }, { on := 14, ground := Ground.phase }, { on := 15, ground := Ground.phase }, { on := 16, ground := Ground.phase }, { on := 17, ground := Ground.phase }, { on := 18, ground := Ground.phase }, { on := 19, ground := Ground.phase }], guard := none }) rfl (fun K hK => ?_) AllReadyH.nil
    rw [if_pos (by rfl)]
    refine wp_store_mid _ _ _ rfl _ _ (cells ff).toArray rfl rfl (by simpa [cells_length, hfl] using (HK.out w2 hO2).2.2.1) (by simpa [cells_length, hfl] using Tryz.infoSec) (all_oneCell_toArray (cells_one ff)) ?_
    simp only [Act.put]
    refine hK.out _ _ (HK2.out w2 hO2) (fun _ => ?_)
    clear hK K
    refine wpAnyH_done (by kernel_rfl) ?_ _
    refine NoPanic.normal ?_
    exact hQ w2 hO2
  · obtain ⟨c0, c1, -, hlk⟩ := HK.out w.drew (Only.refl _ _)
    go_simp
    refine hK.out _ _ hHeld (fun _ => ?_)
    clear hK K hlk c0 c1
    refine wpAnyH_ready (rs := [11]) (by kernel_rfl) (by simp) ?_
    refine AllReadyH.cons (o := { dst := some 36, op := Op.load 126 (Operand.tmp 35), type := 126, pos := "disk.go:116", after := #[{ on := 10, ground := Ground.data }], guard := none }) rfl (fun K hK => ?_) AllReadyH.nil
    rw [if_pos (by rfl)]
    refine wp_load_mid _ _ rfl _ _ rfl _ _ hld hus rfl hlq ?_
    simp only [Act.put, List.setIfInBounds_toArray, List.set_cons_zero, List.set_cons_succ]
    refine hK.out _ _ hHeld (fun _ => ?_)
    clear hK K
    refine wpAnyH_ready (rs := [19]) (by kernel_rfl) (by simp) ?_
    refine AllReadyH.cons (o := { dst := some 44, op := Op.call { callee := Callee.value (Operand.func 88), args := #[Operand.tmp 36, Operand.tmp 42, Operand.tmp 43], argTypes := #[126, 126, 3] }, type := 126, pos := "disk.go:116", after := #[{ on := 11, ground := Ground.data }, { on := 17, ground := Ground.data }, { on := 18, ground := Ground.data }], guard := none }) rfl (fun K hK => ?_) AllReadyH.nil
    go_simp
    refine (hcall _).mono ?_
    rintro e w2 ⟨rfl, hO2⟩
    refine hK.out _ _ (HK.out w2 hO2) (fun hHeld2 => ?_)
    clear hK K
    refine wpAnyH_take (i := 20) (oi := { dst := some 45, op := Op.indexAddr 85 (Operand.tmp 28) (Operand.tmp 29), type := 0, pos := "disk.go:116", after := #[{ on := 3, ground := Ground.data }, { on := 4, ground := Ground.data }, { on := 0, ground := Ground.phase }, { on := 1, ground := Ground.phase }, { on := 2, ground := Ground.phase }, { on := 3, ground := Ground.phase }, { on := 4, ground := Ground.phase }, { on := 5, ground := Ground.phase }, { on := 6, ground := Ground.phase }, { on := 7, ground := Ground.phase }, { on := 8, ground := Ground.phase }, { on := 9, ground := Ground.phase }, { on := 10, ground := Ground.phase }, { on := 11, ground := Ground.phase }, { on := 12, ground := Ground.phase }, { on := 13, ground := Ground.phase }, { on := 14, ground := Ground.phase }, { on := 15, ground := Ground.phase }, { on := 16, ground := Ground.phase }, { on := 17, ground := Ground.phase }, { on := 18, ground := Ground.phase }, { on := 19, ground := Ground.phase }], guard := none }) (v := .pointer (some ⟨g, k * 64, none⟩)) rfl (by kernel_rfl) (by kernel_rfl) (by kernel_rfl) (fun _ _ _ h => h) (Or.inl ⟨by rfl, fun w' hSw => by obtain ⟨s0, s1, s2, s3⟩ := hSw; go_simp⟩) (by assumption) ?_
    simp only [Act.put, List.setIfInBounds_toArray, List.set_cons_zero, List.set_cons_succ]
    refine wpAnyH_ready (rs := [21]) (by kernel_rfl) (by simp) ?_
    refine AllReadyH.cons (o := { dst := none, op := Op.store 126 (Operand.tmp 45) (Operand.tmp 44), type := 0, pos := "disk.go:116", after := #[{ on := 20, ground := Ground.data }, { on := 19, ground := Ground.data }, { on := 19, ground := Ground.chain }, { on := 0, ground := Ground.phase }, { on := 1, ground := Ground.phase }, { on := 2, ground := Ground.phase }, { on := 3, ground := Ground.phase }, { on := 4, ground := Ground.phase }, { on := 5, ground := Ground.phase }, { on := 6, ground := Ground.phase }, { on := 7, ground := Ground.phase }, { on := 8, ground := Ground.phase }, { on := 9, ground := Ground.phase }, { on := 10, ground := Ground.phase }, { on := 11, ground := Ground.phase }, { on := 12, ground := Ground.phase }, { on := 13, ground := Ground.phase }, { on := 14, ground := Ground.phase }, { on := 15, ground := Ground.phase }, { on := 16, ground := Ground.phase }, { on := 17, ground := Ground.phase }, { on := 18, ground := Ground.phase }, { on := 19, ground := Ground.phase }], guard := none }) rfl (fun K hK => ?_) AllReadyH.nil
    rw [if_pos (by rfl)]
    refine wp_store_mid _ _ _ rfl _ _ (cells ff).toArray rfl rfl (by simpa [cells_length, hfl] using (HK.out w2 hO2).2.2.1) (by simpa [cells_length, hfl] using Tryz.infoSec) (all_oneCell_toArray (cells_one ff)) ?_
    simp only [Act.put]
    refine hK.out _ _ (HK2.out w2 hO2) (fun _ => ?_)
    clear hK K
    refine wpAnyH_done (by kernel_rfl) ?_ _
    refine NoPanic.normal ?_
    exact hQ w2 hO2
end Go.Proofs.YtbfafijfhaejmaaGreatDoor

namespace Go.Proofs.YtbfafijfhaejmaaGreatDoor
open Go.RowKit Go.Maps

/-- Numbers that a slice leads to, in block B. -/
structure Ints (w : World) (B : Nat) (ao : Option Addr) (l : List Int) : Prop where
  at_ : 0 < l.length → ∃ o, ao = some ⟨B, o, none⟩ ∧ ∀ j, j < l.length → w.cell? ⟨B, o + j, none⟩ = some (.int .i64 (l.getD j 0))
  wf : ∀ j, j < l.length → -9223372036854775808 ≤ l.getD j 0 ∧ l.getD j 0 < 9223372036854775808
  lt : 0 < l.length → B < w.heap.size
  len : l.length < 9223372036854775808
theorem Ints.kept {S : Nat → Prop} {w w' : World} {B : Nat} {ao : Option Addr} {l : List Int} (h : Ints w B ao l) (ho : Only S w w') (hS : 0 < l.length → ¬ S B) : Ints w' B ao l := by
  refine ⟨fun hl => ?_, h.wf, fun hl => Nat.lt_of_lt_of_le (h.lt hl) ho.size, h.len⟩
  obtain ⟨o, e, hc⟩ := h.at_ hl
  exact ⟨o, e, fun j hj => (ho.cell (p := ⟨B, o + j, none⟩) (h.lt hl) (hS hl)).trans (hc j hj)⟩
theorem crash_nil (w : World) (v : Value) : Calls Tryz.prog 45 #[.pointer none, v] w fun e w' => e = .returned (.tuple #[]) ∧ w' = w := by
  go_enter Tryz.func45, Tryz.ntmps45
  go_wp2
  refine bodyPost_ret (results_none rfl _ _ _) rfl ?_
  exact ⟨rfl, rfl⟩
theorem pend_get {D : Dk} (j : Nat) (hj : j < D.pend.length) : ∃ k, D.pend.getD j 0 = k ∧ k < D.old.length ∧ (∃ c, D.fresh k = some c) ∧ (icells D.pend)[j]? = some (.int .i64 (k : Int)) ∧ D.pend.drop j = k :: D.pend.drop (j + 1) := by
  have hm : D.pend[j] ∈ D.pend := List.getElem_mem hj
  obtain ⟨h1, h2⟩ := mem_pend.1 hm
  refine ⟨D.pend[j], by simp [List.getD_eq_getElem?_getD, hj], h1, Option.isSome_iff_exists.1 h2, ?_, List.drop_eq_getElem_cons hj⟩
  unfold icells
  simp [hj]
theorem sound_S {w : World} {d g m : Nat} {D : Dk} {o : List (List UInt8)} (h : Dsk w d g m (D.withOld o)) (hol : o.length = D.old.length) {k : Nat} (hk : k < D.old.length) {c : List UInt8} (hc : D.fresh k = some c) :
    w.cell? ⟨d, 0, none⟩ = some (.slice (some ⟨g, 0, none⟩) D.old.length D.old.length) ∧ w.cell? ⟨d, 1, none⟩ = some (.map (some m)) ∧ w.there g (k * 64) 64 ∧ (Instr.lookup 86 (.map (some m)) (.int .i64 (k : Int)) false).run Tryz.prog w = .ok (sec c) w := by
  have h0 := h.c0
  have hk' : k < (D.withOld o).old.length := by show k < o.length; omega
  have hl : (D.withOld o).old.length = D.old.length := hol
  have h4 := (h.map.look h.ok.hi hk').2
  have hfe : (D.withOld o).fresh k = some c := hc
  rw [hl] at h0
  rw [hfe] at h4
  exact ⟨h0, h.c1, h.old.there hk', h4⟩
set_option maxRecDepth 100000 in
set_option maxHeartbeats 3200000 in
theorem crash_any (w : World) (d g m : Nat) (D : Dk) (h : Dsk w d g m D) (B : Nat) (ao : Option Addr) (cp : Nat) (how : List Int) (hI : Ints w B ao how) (hB : 0 < how.length → ¬ own d g m B) :
    Calls Tryz.prog 45 #[.pointer (some ⟨d, 0, none⟩), .slice ao how.length cp] w fun e w' => e = .returned (.tuple #[]) ∧ Dsk w' d g m (D.crash how) ∧ Only (own d g m) w w' := by
  have hpe := pending_any w d g m D h
  have hlt := And.intro h.lt (And.intro h.old.lt h.map.lt)
  have h64 := h.ok.hi
  have H := hide h
  have HI := hide hI
  have HB := hide hB
  have hpl : D.pend.length ≤ 65536 := by
    have : D.pend.length ≤ D.old.length := by
      have := List.length_filter_le (fun k => (D.fresh k).isSome) (List.range D.old.length)
      simpa [Dk.pend] using this
    omega
  have hhl := hI.len
  clear h hI hB
  go_enter Tryz.func45, Tryz.ntmps45
  go_wp2_with fail
  refine hpe.mono ?_
  rintro e w1 ⟨gg, cap, rfl, hrow1, hO1⟩
  have hgg := hrow1.lt gg rfl
  have HW1 := hide hrow1
  have HO1 : Hid (Only (own d g m) w w1) := hO1.mono (fun _ _ h => h.elim)
  have HS1 := hide (H.out.same hO1)
  have HI1 := hide (HI.out.kept hO1 (fun _ h => h))
  obtain ⟨R, hR⟩ : ∃ R, falls D.fresh how D.pend 0 D.old = R := ⟨_, rfl⟩
  have HR := hide hR
  clear hrow1 hO1 hpe hR
  go_wp2_with fail
  go_loopw [12] (fun y wr => ∃ (j : Nat) (o : List (List UInt8)), j ≤ D.pend.length ∧ y = .int .i64 (j : Int) ∧ o.length = D.old.length ∧ Hid (Dsk wr d g m (D.withOld o)) ∧ Hid (falls D.fresh how (D.pend.drop j) j o = R) ∧ Hid (Only (own d g m) w wr) ∧ Hid (wr.ownsRow w.heap.size 3 1 (.slice (some ⟨gg, 0, none⟩) D.pend.length cap) D.pend.length (icells D.pend)) ∧ Hid (Ints wr B ao how)) (fun y _ => D.pend.length - (intOf y).toNat)
  case atStart => exact ⟨0, D.old, by omega, rfl, rfl, HS1, HR, HO1, HW1, HI1⟩
  case round =>
    obtain ⟨j, o, hj, rfl, hol, HS, HF, HO, HW, HJ⟩ := hrel
    by_cases hjl : j < D.pend.length
    · obtain ⟨k, -, hk, ⟨c, hc⟩, hic, hdr⟩ := pend_get j hjl
      have hcell : wr.cell? ⟨gg, j, none⟩ = some (.int .i64 (k : Int)) := (HW.out.cellAt j (by simpa using hjl)).trans hic
      have hj0 : (0 : Int) ≤ (j : Int) := by omega
      have hj1 : (j : Int) < (D.pend.length : Int) := by omega
      by_cases hjh : j < how.length
      · obtain ⟨of, hao, hcs⟩ := HJ.out.at_ (by omega)
        have hfc := hcs j hjh
        have hfw := HJ.out.wf j hjh
        obtain ⟨f, hf⟩ : ∃ f, how.getD j 0 = f := ⟨_, rfl⟩
        rw [hf] at hfc hfw
        have HFe := hide hf
        clear hf hcs
        subst hao
        go_wp2_with fail
        have hSr := HS.out
        have hc64 := (HS.out.ok.f64 k c hc).2
        have ho64 : (o.getD k []).length = 64 := HS.out.ok.o64 k (by show k < o.length; omega)
        obtain ⟨ff, hff⟩ : ∃ ff, fell (o.getD k []) c f = ff := ⟨_, rfl⟩
        have hfl : ff.length = 64 := by rw [← hff]; exact fell_len ho64 hc64
        have hSd := HS.out.same (Only.drew _ wr)
        have hcall : ∀ W, Calls Tryz.prog 88 #[.agg (cells (o.getD k [])).toArray, sec c, .int .i64 f] W fun e w' => e = .returned (.agg (cells ff).toArray) ∧ Only (fun _ => False) W w' := fun W => by
          have := fall_any W (o.getD k []) c f ho64 hc64 (by omega)
          rw [hff] at this
          exact this
        have hld : wr.drew.rangeAt g (k * 64) (cells (o.getD k [])) := hSd.old.range (by show k < o.length; omega)
        have hlq : (Tryz.prog.info? 126).map (·.size) = some (cells (o.getD k [])).length := by rw [cells_length, ho64]; exact Tryz.infoSec
        have HK : Hid (∀ w2, Only (fun _ => False) wr.drew w2 → w2.cell? ⟨d, 0, none⟩ = some (.slice (some ⟨g, 0, none⟩) D.old.length D.old.length) ∧ w2.cell? ⟨d, 1, none⟩ = some (.map (some m)) ∧ w2.there g (k * 64) 64 ∧ (Instr.lookup 86 (.map (some m)) (.int .i64 (k : Int)) false).run Tryz.prog w2 = .ok (sec c) w2) := fun w2 ho => sound_S (hSd.same ho) hol hk hc
        have HK2 : Hid (∀ w2, Only (fun _ => False) wr.drew w2 → (w2.setCells g (k * 64) (cells ff)).cell? ⟨d, 0, none⟩ = some (.slice (some ⟨g, 0, none⟩) D.old.length D.old.length) ∧ (w2.setCells g (k * 64) (cells ff)).cell? ⟨d, 1, none⟩ = some (.map (some m)) ∧ (w2.setCells g (k * 64) (cells ff)).there g (k * 64) 64 ∧ (Instr.lookup 86 (.map (some m)) (.int .i64 (k : Int)) false).run Tryz.prog (w2.setCells g (k * 64) (cells ff)) = .ok (sec c) (w2.setCells g (k * 64) (cells ff))) := fun w2 ho =>
          sound_S (D := D) (o := o.set k ff) ((hSd.same ho).setOld (k := k) (by show k < o.length; omega) hfl) (by simpa using hol) hk hc
        have hus := Tryz.underlying126
        have hk0 : (0 : Int) ≤ (k : Int) := by omega
        have hk1 : (k : Int) < (D.old.length : Int) := by omega
        have HSD := hide hSd
        have HFF := hide hff
        have HC := hide hc
        have HDR := hide hdr
        obtain ⟨q, hq⟩ : ∃ q, o.getD k [] = q := ⟨_, rfl⟩
        rw [hq] at hcall hld HFF hlq
        have HQ := hide hq
        clear hSr hSd hff hc hdr hq ho64 hic
        refine crash_region wr d g m D.old.length k f q c ff hfl hk0 hk1 hld hus hlq hcall HK HK2 (fun w2 hO2 => ?_)
        ·
          have hS3 := (HSD.out.same hO2).setOld (k := k) (b := ff) (by show k < o.length; omega) hfl
          have hOs : Only (fun i => i = g) w2 (w2.setCells g (k * 64) (cells ff)) := Only.setCells (S := fun i => i = g) g rfl _ _ _
          have hOd : Only (fun _ => False) wr w2 := (Only.drew _ wr).trans hO2 (fun _ _ h => h)
          have HX : Hid (Dsk (w2.setCells g (k * 64) (cells ff)) d g m (D.withOld (o.set k ff)) ∧ falls D.fresh how (D.pend.drop (j + 1)) (j + 1) (o.set k ff) = R ∧ Only (own d g m) w (w2.setCells g (k * 64) (cells ff))
              ∧ (w2.setCells g (k * 64) (cells ff)).ownsRow w.heap.size 3 1 (.slice (some ⟨gg, 0, none⟩) D.pend.length cap) D.pend.length (icells D.pend) ∧ Ints (w2.setCells g (k * 64) (cells ff)) B (some ⟨B, of, none⟩) how) := by
            refine ⟨hS3, ?_, (HO.out.trans hOd (fun _ _ h => h.elim)).trans hOs (fun i _ e => .inr (.inl e)), ?_, (HJ.out.kept hOd (fun _ h => h)).kept hOs (fun hl e => HB.out hl (.inr (.inl e)))⟩
            · rw [← HF.out, HDR.out]
              show _ = falls D.fresh how (D.pend.drop (j + 1)) (j + 1) (o.set k (fell (o.getD k []) ((D.fresh k).getD []) (how.getD j 0)))
              rw [HC.out, HQ.out, HFe.out, ← HFF.out]
              rfl
            · exact (HW.out.kept hOd.toGrown0 (.inr (by simp [Value.ownBlock]))).kept hOs.toGrown (.inr (by simp [Value.ownBlock]; omega))
          clear hS3 hOs hOd
          go_wp2_with fail
          go_roundw
          case rel => exact ⟨j + 1, o.set k ff, by omega, by go_num, by simpa using hol, hide HX.out.1, hide HX.out.2.1, hide HX.out.2.2.1, hide HX.out.2.2.2.1, hide HX.out.2.2.2.2⟩
          case measure => simp [intOf]; omega
      · have HFe : Hid (how.getD j 0 = 0) := by unfold Hid; simp [List.getD_eq_getElem?_getD, hjh]
        go_wp2_with fail
        have hSr := HS.out
        have hc64 := (HS.out.ok.f64 k c hc).2
        have ho64 : (o.getD k []).length = 64 := HS.out.ok.o64 k (by show k < o.length; omega)
        obtain ⟨ff, hff⟩ : ∃ ff, fell (o.getD k []) c 0 = ff := ⟨_, rfl⟩
        have hfl : ff.length = 64 := by rw [← hff]; exact fell_len ho64 hc64
        have hSd := HS.out.same (Only.drew _ wr)
        have hcall : ∀ W, Calls Tryz.prog 88 #[.agg (cells (o.getD k [])).toArray, sec c, .int .i64 0] W fun e w' => e = .returned (.agg (cells ff).toArray) ∧ Only (fun _ => False) W w' := fun W => by
          have := fall_any W (o.getD k []) c 0 ho64 hc64 (by omega)
          rw [hff] at this
          exact this
        have hld : wr.drew.rangeAt g (k * 64) (cells (o.getD k [])) := hSd.old.range (by show k < o.length; omega)
        have hlq : (Tryz.prog.info? 126).map (·.size) = some (cells (o.getD k [])).length := by rw [cells_length, ho64]; exact Tryz.infoSec
        have HK : Hid (∀ w2, Only (fun _ => False) wr.drew w2 → w2.cell? ⟨d, 0, none⟩ = some (.slice (some ⟨g, 0, none⟩) D.old.length D.old.length) ∧ w2.cell? ⟨d, 1, none⟩ = some (.map (some m)) ∧ w2.there g (k * 64) 64 ∧ (Instr.lookup 86 (.map (some m)) (.int .i64 (k : Int)) false).run Tryz.prog w2 = .ok (sec c) w2) := fun w2 ho => sound_S (hSd.same ho) hol hk hc
        have HK2 : Hid (∀ w2, Only (fun _ => False) wr.drew w2 → (w2.setCells g (k * 64) (cells ff)).cell? ⟨d, 0, none⟩ = some (.slice (some ⟨g, 0, none⟩) D.old.length D.old.length) ∧ (w2.setCells g (k * 64) (cells ff)).cell? ⟨d, 1, none⟩ = some (.map (some m)) ∧ (w2.setCells g (k * 64) (cells ff)).there g (k * 64) 64 ∧ (Instr.lookup 86 (.map (some m)) (.int .i64 (k : Int)) false).run Tryz.prog (w2.setCells g (k * 64) (cells ff)) = .ok (sec c) (w2.setCells g (k * 64) (cells ff))) := fun w2 ho =>
          sound_S (D := D) (o := o.set k ff) ((hSd.same ho).setOld (k := k) (by show k < o.length; omega) hfl) (by simpa using hol) hk hc
        have hus := Tryz.underlying126
        have hk0 : (0 : Int) ≤ (k : Int) := by omega
        have hk1 : (k : Int) < (D.old.length : Int) := by omega
        have HSD := hide hSd
        have HFF := hide hff
        have HC := hide hc
        have HDR := hide hdr
        obtain ⟨q, hq⟩ : ∃ q, o.getD k [] = q := ⟨_, rfl⟩
        rw [hq] at hcall hld HFF hlq
        have HQ := hide hq
        clear hSr hSd hff hc hdr hq ho64 hic
        refine crash_region wr d g m D.old.length k 0 q c ff hfl hk0 hk1 hld hus hlq hcall HK HK2 (fun w2 hO2 => ?_)
        ·
          have hS3 := (HSD.out.same hO2).setOld (k := k) (b := ff) (by show k < o.length; omega) hfl
          have hOs : Only (fun i => i = g) w2 (w2.setCells g (k * 64) (cells ff)) := Only.setCells (S := fun i => i = g) g rfl _ _ _
          have hOd : Only (fun _ => False) wr w2 := (Only.drew _ wr).trans hO2 (fun _ _ h => h)
          have HX : Hid (Dsk (w2.setCells g (k * 64) (cells ff)) d g m (D.withOld (o.set k ff)) ∧ falls D.fresh how (D.pend.drop (j + 1)) (j + 1) (o.set k ff) = R ∧ Only (own d g m) w (w2.setCells g (k * 64) (cells ff))
              ∧ (w2.setCells g (k * 64) (cells ff)).ownsRow w.heap.size 3 1 (.slice (some ⟨gg, 0, none⟩) D.pend.length cap) D.pend.length (icells D.pend) ∧ Ints (w2.setCells g (k * 64) (cells ff)) B ao how) := by
            refine ⟨hS3, ?_, (HO.out.trans hOd (fun _ _ h => h.elim)).trans hOs (fun i _ e => .inr (.inl e)), ?_, (HJ.out.kept hOd (fun _ h => h)).kept hOs (fun hl e => HB.out hl (.inr (.inl e)))⟩
            · rw [← HF.out, HDR.out]
              show _ = falls D.fresh how (D.pend.drop (j + 1)) (j + 1) (o.set k (fell (o.getD k []) ((D.fresh k).getD []) (how.getD j 0)))
              rw [HC.out, HQ.out, HFe.out, ← HFF.out]
              rfl
            · exact (HW.out.kept hOd.toGrown0 (.inr (by simp [Value.ownBlock]))).kept hOs.toGrown (.inr (by simp [Value.ownBlock]; omega))
          clear hS3 hOs hOd
          go_wp2_with fail
          go_roundw
          case rel => exact ⟨j + 1, o.set k ff, by omega, by go_num, by simpa using hol, hide HX.out.1, hide HX.out.2.1, hide HX.out.2.2.1, hide HX.out.2.2.2.1, hide HX.out.2.2.2.2⟩
          case measure => simp [intOf]; omega
    · have ej : j = D.pend.length := by omega
      obtain ⟨w2, hcl, hfr, hO2⟩ := HS.out.map.clear
      have hc1 := HS.out.c1
      have hS2 := HS.out.cleared hfr hO2
      obtain ⟨hS3, hO3⟩ := hS2.setDead false
      obtain ⟨hS4, hO4⟩ := hS3.setArmed 0 (by omega) (by omega)
      have eo : o = R := by rw [← HF.out, ej, List.drop_length]; rfl
      have HX := hide (And.intro hS4 (((HO.out.trans hO2 (fun i _ e => .inr (.inr e))).trans hO3 (fun _ _ h => h)).trans hO4 (fun _ _ h => h)))
      have c4 := hS2.c4
      have c3 := hS2.c3
      have f3 := hS2.fz 3
      have f4 := hS2.fz 4
      have HEO := hide eo
      clear hfr hO2 hS2 hS3 hO3 hS4 hO4 eo
      go_wp2
      go_end0
      refine ⟨rfl, ?_, HX.out.2⟩
      have e : D.crash how = { D with old := o, fresh := fun _ => none, dead := false, armed := 0 } := by unfold Dk.crash; rw [HR.out, HEO.out]
      rw [e]
      exact HX.out.1
end Go.Proofs.YtbfafijfhaejmaaGreatDoor
