/- The library's sort of those that have begun. -/
import Derived.Test.YtmcghpeamnmbpaaOFind
import Derived.Test.YtmcghpeamnmbpaaOShelfB
import Derived.Sort.OwnSorted
import Derived.Sort.OwnSortedInts
namespace Go.Proofs.Ytmcghpeamnmbpaa
open Go.RowKit Go.Maps Go.Sort Go.Shelf Go.Lib

theorem heap_sortedV {w : World} {g n : Nat} {os : Array Obj} {cur : Array Value} {e : TypeId} {fr : Nat × Nat} (d : Array Value) (hb : w.heap[g]? = some (.cells cur e fr)) :
    (grow (putRow id (Sort.ahead w n) g 0 d) os).heap[g]? = some (.cells (putCells id 0 d cur) e fr) := by
  have hg : g < w.heap.size := (Array.getElem?_eq_some_iff.1 hb).1
  rw [heap_grow_old _ _ (by simpa using hg)]
  simp [putRow, mapBlock, Sort.ahead, Array.getElem?_modify, hb, onCells]
theorem grownBy_sortedV {w : World} {g n : Nat} {os : Array Obj} (d : Array Value) : w.grownBy (grow (putRow id (Sort.ahead w n) g 0 d) os) (some g) := by
  refine ⟨rfl, rfl, rfl, by simp, fun k hk hne => ?_⟩
  rw [heap_grow_old _ _ (by simpa using hk)]
  have : g ≠ k := fun e => hne (by rw [e])
  simp [putRow, mapBlock, Sort.ahead, Array.getElem?_modify, this]
theorem take_putCellsV (cur : Array Value) (ts : List Value) (h : ts.length ≤ cur.size) : (putCells id 0 ts.toArray cur).toList.take ts.length = ts := by
  apply List.ext_getElem?
  intro j
  by_cases hj : j < ts.length
  · rw [List.getElem?_take_of_lt hj, Array.getElem?_toList]
    simp [putCells, hj, show j < cur.size by omega]
  · rw [List.getElem?_take_eq_none (by omega), List.getElem?_eq_none (by omega)]
theorem flat_eq (L : List (Int × Int)) : flatK EB.e 2 L.toArray = (L.flatMap EB.e).toArray := by
  have hl : (L.flatMap EB.e).length = L.length * 2 := EB.length L
  apply Array.ext
  · rw [size_flatK]; simp [hl]
  · intro t h1 h2
    have ht : t < L.length * 2 := by rw [size_flatK] at h1; simpa using h1
    have e := get_flatK EB.e 2 L.toArray t (by simpa using ht)
    rw [getElem!_pos _ t h1] at e
    rw [e]
    have hj : t / 2 < L.length := by omega
    have hg := Lay.get EB (L := L) hj (show t % 2 < EB.c from Nat.mod_lt _ (by decide))
    have e2 : t / 2 * EB.c + t % 2 = t := by show t / 2 * 2 + t % 2 = t; omega
    rw [e2] at hg
    have e3 : L.toArray[t / 2]! = L[t / 2] := by rw [getElem!_pos L.toArray (t / 2) (by simpa using hj)]; simp
    rw [e3]
    have hlen : t % 2 < (EB.e L[t / 2]).length := by rw [EB.len]; exact Nat.mod_lt _ (by decide)
    rw [List.getElem?_eq_getElem hlen] at hg
    rw [getElem!_pos (EB.e L[t / 2]) (t % 2) hlen]
    have h3 : (L.flatMap EB.e)[t]? = some ((L.flatMap EB.e)[t]'(by simpa using h2)) := List.getElem?_eq_getElem _
    rw [h3] at hg
    injection hg with hg
    simp [hg]
theorem holds_rowB {w : World} {g : Nat} {cur : Array Value} {e : TypeId} {L : List (Int × Int)} (hb : w.heap[g]? = some (.cells cur e (0, 0))) (ht : cur.toList.take (L.length * 2) = L.flatMap EB.e) : HoldsK EB.e 2 w g 0 L.toArray := by
  unfold HoldsK
  rw [flat_eq]
  intro j hj
  have hj' : j < (L.flatMap EB.e).length := by simpa using hj
  have hj2 : j < L.length * 2 := by rw [EB.length] at hj'; exact hj'
  refine ⟨?_, by simp [World.frozen?, hb]⟩
  have h1 : (cur.toList.take (L.length * 2))[j]? = (L.flatMap EB.e)[j]? := by rw [ht]
  rw [List.getElem?_take_of_lt hj2] at h1
  simp only [World.cell?, hb, Nat.zero_add]
  simp only [Option.isSome_none, Bool.false_eq_true, if_false]
  have e9 : (L.flatMap EB.e).toArray[j]! = (L.flatMap EB.e)[j] := by rw [getElem!_pos (L.flatMap EB.e).toArray j hj]; simp
  rw [← Array.getElem?_toList, h1, e9, List.getElem?_eq_getElem hj']
  rfl
def cmpB (x y : Int × Int) : Int := Lib.compareInt x.1 y.1
theorem ltB (x y : Int × Int) : ltOf cmpB x y = decide (x.1 < y.1) := by
  unfold ltOf cmpB Lib.compareInt
  by_cases h1 : x.1 < y.1
  · simp [h1]
  · by_cases h2 : y.1 < x.1 <;> simp [h1, h2]
theorem swoB : SWO (ltOf cmpB) where
  irrefl x := by rw [ltB]; simp
  trans x y z h1 h2 := by rw [ltB] at *; simp at *; omega
  ntrans x y z h1 h2 := by rw [ltB] at *; simp at *; omega
set_option maxRecDepth 100000 in
set_option maxHeartbeats 1000000 in
theorem cmp_clo (x y : Int × Int) (W : World) : Calls Try.prog 50 #[.agg #[.int .i64 x.1, .int .i64 x.2], .agg #[.int .i64 y.1, .int .i64 y.2]] W fun e w' => e = .returned (.int .i64 (Lib.compareInt x.1 y.1)) ∧ ∃ q os', w' = grow (W.drewN q) os' := by
  have hcon := fun W' => AnyG.cmp_Compare_int Try.cmpI x.1 y.1 W'
  change ∀ W', Calls Try.prog 51 _ _ _ at hcon
  generalize Lib.compareInt x.1 y.1 = r at hcon ⊢
  go_enter Try.func50, Try.ntmps50
  go_wp2_with (go_at_call 51; refine (hcon _).mono ?_; rintro e w' ⟨rfl, rfl⟩)
  go_ret
  exact ⟨rfl, 0, _, by rw [alloc_eq_grow, alloc_eq_grow, grow_grow]; rfl⟩
theorem perm_of {L : List (Int × Int)} {d : Array (Int × Int)} (hp : PermIn 0 L.toArray.size L.toArray d) : d.toList.Perm L := by
  obtain ⟨h1, _, h3⟩ := hp
  have e1 : d.extract 0 L.toArray.size = d := by rw [← h1]; simp
  rw [e1] at h3
  simpa using h3
theorem sorted_of {L : List (Int × Int)} {d : Array (Int × Int)} (hp : PermIn 0 L.toArray.size L.toArray d) (hs : SortedIn (ltOf cmpB) 0 L.toArray.size d) (hn : (L.map (·.1)).Nodup) : d.toList.Pairwise (fun p q => p.1 < q.1) := by
  have hpm := perm_of hp
  have hnd : (d.toList.map (·.1)).Nodup := (hpm.map _).nodup_iff.2 hn
  have hsz := hp.1
  rw [List.pairwise_iff_getElem]
  intro i j hi hj hij
  have h1 := hs i j (Nat.zero_le _) hij (by rw [← hsz]; simpa using hj)
  rw [ltB] at h1
  have hi' : i < d.size := by simpa using hi
  have hj' : j < d.size := by simpa using hj
  rw [getElem!_pos d i hi', getElem!_pos d j hj'] at h1
  have h2 : ¬ d[j].1 < d[i].1 := by simpa using h1
  have h3 : d[i].1 ≠ d[j].1 := fun e => by
    have hne := List.pairwise_iff_getElem.1 hnd i j (by simpa using hi) (by simpa using hj) hij
    simp only [List.getElem_map] at hne
    exact hne (by simpa using e)
  have e1 : d.toList[i] = d[i] := by simp
  have e2 : d.toList[j] = d[j] := by simp
  rw [e1, e2]
  omega
set_option maxRecDepth 100000 in
theorem sortB_any (w : World) (base : Nat) (v : Value) (L : List (Int × Int)) (h : BRow w base v L) (hn : (L.map (·.1)).Nodup) (hl : L.length < 4611686018427387904) :
    Calls Try.prog 49 #[v, .func (.func 50) #[] #[]] w fun e w' => e = .returned (.tuple #[]) ∧ ∃ M : List (Int × Int), M.Perm L ∧ M.Pairwise (fun p q => p.1 < q.1) ∧ BRow w' base v M ∧ Only (fun i => base ≤ i) w w' := by
  rcases h.2 with ⟨rfl, h0⟩ | ⟨g, cap, cur, rfl, hbase, hb, h1, h2, h3, h4⟩
  · have hcon := AnyF.slices_SortFunc_none Try.sortFB none 0 (.func (.func 50) #[] #[]) w
    change Calls Try.prog 49 _ _ _ at hcon
    refine hcon.mono ?_
    rintro e w' ⟨rfl, hw⟩
    obtain rfl := hw.symm
    have : L = [] := List.eq_nil_of_length_eq_zero h0
    subst this
    exact ⟨rfl, [], List.Perm.refl _, List.Pairwise.nil, h, Only.refl _ _⟩
  · have hH := holds_rowB hb h4
    have hcl : CmpLays Try.prog 50 #[] EB.e 2 cmpB g 0 L.toArray.size w := fun _ _ _ _ x y => cmp_clo x y _
    have eg : ∀ args w, (callFunc 50 args).run Try.prog w = .ok (.enter 50 args) w := enters_of Try.func50 (by kernel_rfl) rfl
    have hcon := AnyQ.slices_SortFunc Try.sortFB 2 (fun _ => rfl) (fun _ => rfl) EB.e EB.len EB.one cmpB swoB 50 #[] g 0 cap L.toArray w eg hcl hH (Array.getElem?_eq_some_iff.1 hb).1 (by simpa using hl)
    change Calls Try.prog 49 _ _ _ at hcon
    have es : L.toArray.size = L.length := by simp
    rw [es] at hcon
    refine hcon.mono ?_
    rintro e w' ⟨rfl, d', n, os, hp, hs, rfl⟩
    rw [← es] at hp hs
    have hpm := perm_of hp
    have hlen : d'.toList.length = L.length := hpm.length_eq
    refine ⟨rfl, d'.toList, hpm, sorted_of hp hs hn, ?_, ?_⟩
    · have ef : flatK EB.e 2 d' = (d'.toList.flatMap EB.e).toArray := by
        have := flat_eq d'.toList
        simpa using this
      have hfl : (d'.toList.flatMap EB.e).length = L.length * 2 := by rw [EB.length, hlen]; rfl
      unfold BRow GRow sortWorldK putRowK
      rw [ef, hlen]
      refine ⟨by rw [EB.length, hlen], .inr ⟨g, cap, _, rfl, hbase, heap_sortedV _ hb, h1, h2, by simp [putCells, h3], ?_⟩⟩
      have := take_putCellsV cur (d'.toList.flatMap EB.e) (by rw [hfl, h3]; exact Nat.mul_le_mul_right _ h1)
      rw [hfl] at this
      exact this
    · unfold sortWorldK putRowK
      exact (Only.grown (S := fun i => i = g) (grownBy_sortedV _) (fun k hk => by cases hk; rfl)).mono (fun i _ e => by subst e; exact hbase)
end Go.Proofs.Ytmcghpeamnmbpaa
