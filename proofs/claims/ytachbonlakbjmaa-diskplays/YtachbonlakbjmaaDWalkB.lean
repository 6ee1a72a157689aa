/- Sectors as values: made, stored, loaded; what fall makes of two of them. -/
import Derived.Test.YtachbonlakbjmaaDWalkA
import Derived.Deep.RegionHeld3
namespace Go.Proofs.Ytachbonlakbjmaa
open Go.RowKit

theorem zeros_ex : ∃ l : List UInt8, l = List.replicate 64 0 := ⟨_, rfl⟩
/-- A sector of zeros: a word that no unfolding opens. -/
noncomputable def zeros : List UInt8 := Classical.choose zeros_ex
theorem zeros_eq : zeros = List.replicate 64 0 := Classical.choose_spec zeros_ex
theorem zeros_len : zeros.length = 64 := by simp [zeros_eq]
theorem zero_sec (w : World) : (zeroValue 65).run Try.prog w = .ok (sec zeros) w := by
  rw [zeros_eq]
  kernel_rfl
theorem Try.infoSec : (Try.prog.info? 65).map (·.size) = some 64 := by kernel_rfl
/-- A block that holds a sector. -/
def secObj (l : List UInt8) : Obj := .cells (cells l).toArray 65

section
variable (w : World) {ops : Array Oper} {rest : List Oper} {o : Oper} {a : Act} {Q : Exit → Act → World → Prop}
theorem wpList_alloc_sec (hg : o.guard = none) (hop : o.op = .alloc 65)
    (h : wpList Try.prog ops Q rest (a.put o.dst (.pointer (some ⟨w.heap.size, 0, none⟩))) (w.alloc (secObj zeros))) : wpList Try.prog ops Q (o :: rest) a w := by
  refine wpList_plain hg fun K' hK' => ?_
  unfold Oper.wp
  have e : (Instr.alloc 65 true (.tuple #[])).run Try.prog w = .ok (.pointer (some ⟨w.heap.size, 0, none⟩)) (w.alloc (secObj zeros)) := by
    unfold Instr.alloc
    simp only [Sem.run_bind, zero_sec, Result.andThen_ok]
    rfl
  simp only [execOp, hop, Sem.run_bind, e, Result.andThen_ok, Sem.run_pure]
  exact hK' _ _ h
theorem wpList_box_sec (hg : o.guard = none) (x : Operand) (hop : o.op = .box 65 x) (l : List UInt8) (hx : a.eval x = sec l)
    (h : wpList Try.prog ops Q rest (a.put o.dst (.pointer (some ⟨w.heap.size, 0, none⟩))) (w.alloc (secObj l))) : wpList Try.prog ops Q (o :: rest) a w := by
  refine wpList_plain hg fun K' hK' => ?_
  unfold Oper.wp
  have e : (Instr.box 65 (sec l)).run Try.prog w = .ok (.pointer (some ⟨w.heap.size, 0, none⟩)) (w.alloc (secObj l)) := rfl
  simp only [execOp, hop, hx, Sem.run_bind, e, Result.andThen_ok, Sem.run_pure]
  exact hK' _ _ h
theorem wpList_load_sec (hg : o.guard = none) (x : Operand) (hop : o.op = .load 65 x) (b f : Nat) (hx : a.eval x = .pointer (some ⟨b, f, none⟩)) (l : List UInt8) (hl : l.length = 64) (hc : w.rangeAt b f (cells l))
    (h : wpList Try.prog ops Q rest (a.put o.dst (sec l)) w) : wpList Try.prog ops Q (o :: rest) a w :=
  wpList_load_mid hg 65 x hop b f hx (cells l) _ hc Try.underlying65 rfl (by rw [cells_length, hl]; exact Try.infoSec) h
theorem wpList_store_sec (hg : o.guard = none) (x y : Operand) (hop : o.op = .store 65 x y) (b f : Nat) (hx : a.eval x = .pointer (some ⟨b, f, none⟩)) (l : List UInt8) (hy : a.eval y = sec l) (hl : l.length = 64) (hc : w.there b f 64)
    (h : wpList Try.prog ops Q rest (a.put o.dst undef) (w.setCells b f (cells l))) : wpList Try.prog ops Q (o :: rest) a w :=
  wpList_store_mid hg 65 x y hop b f (cells l).toArray hx hy (by simpa [cells_length, hl] using hc) (by simpa [cells_length, hl] using Try.infoSec) (all_oneCell_toArray (cells_one l)) h
end
theorem alloc_range (w : World) (l : List UInt8) : (w.alloc (secObj l)).rangeAt w.heap.size 0 (cells l) := by
  intro j v hv
  have h := cell_of_row (w.alloc (secObj l)) w.heap.size (0 + j) (cells l).toArray 65 (0, 0) (heap_alloc_new w _)
  rw [h]
  simpa using hv
theorem alloc_there (w : World) (l : List UInt8) (hl : l.length = 64) : (w.alloc (secObj l)).there w.heap.size 0 64 := by
  intro j hj
  refine ⟨(alloc_range w l).isSome j (by rw [cells_length, hl]; exact hj), ?_⟩
  have h : (w.alloc (secObj l)).heap[w.heap.size]? = some (.cells (cells l).toArray 65 (0, 0)) := heap_alloc_new w _
  unfold World.frozen?
  simp only [h]
  simp
theorem copy_secs (w : World) (b c k : Nat) (o n : List UInt8) (hn : n.length = 64) (hk : k ≤ 64) (hb : w.rangeAt b 0 (cells o)) (ht : w.there b 0 64) (hc : w.rangeAt c 0 (cells n)) :
    (Builtin.copy_ #[53, 53] 3 #[.slice (some ⟨b, 0, none⟩) k 64, .slice (some ⟨c, 0, none⟩) k 64]).run Try.prog w = .ok (.int .i64 (k : Int)) (w.setCells b 0 (cells (n.take k)))
    ∧ (w.setCells b 0 (cells (n.take k))).rangeAt b 0 (cells (n.take k ++ o.drop k)) := by
  have hl : (cells (n.take k)).length = k := by rw [cells_length]; simp; omega
  constructor
  · have h := run_copy_cells (P := Try.prog) w 53 53 3 5 b 0 k 64 ⟨c, 0, none⟩ k 64 (cells (n.take k)) Try.underlying53 (by kernel_rfl) (by rw [hl]; simp)
      (by intro j v hv
          rw [Addr.add_mid]
          refine hc j v ?_
          have e : cells (n.take k) = (cells n).take k := by unfold cells; rw [List.map_take]
          rw [e, List.getElem?_take] at hv
          split at hv
          · exact hv
          · cases hv)
      (fun j hj => (ht j (by omega)).1) (fun j hj => (ht j (by omega)).2) (cells_one _)
    rw [hl] at h
    exact h
  · intro j v hv
    rw [cells_append] at hv
    by_cases hj : j < k
    · rw [List.getElem?_append_left (by omega)] at hv
      exact World.rangeAt_setCells_same w b 0 _ (fun i hi => ht i (by omega)) j v hv
    · rw [List.getElem?_append_right (by omega), hl] at hv
      have e : cells (o.drop k) = (cells o).drop k := by unfold cells; rw [List.map_drop]
      rw [e, List.getElem?_drop] at hv
      rw [World.cell?_setCells_out b _ 0 w _ (fun _ _ => by right; simp only; omega)]
      refine hb j v ?_
      rw [← hv]
      congr 1
      omega

theorem results_sec {fn : Func} {p : Tmp} (h : fn.results = #[.cell p 65]) (tmps : Array Value) (w : World) (b : Nat) (L : List UInt8) (hl : L.length = 64) (hp : tmps[p]?.getD undef = .pointer (some ⟨b, 0, none⟩)) (hc : w.rangeAt b 0 (cells L)) :
    (results fn tmps).run Try.prog w = .ok (sec L) w := by
  have hr := run_loadVar_mid (P := Try.prog) w b 0 65 (cells L) _ hc Try.underlying65 rfl (by rw [cells_length, hl]; exact Try.infoSec)
  simp [results, h, hp, hr, sec, asAddr]
theorem fate_int (f q : Int) (hq : q = if f < 0 then -1 - f else f) : (q % 3 = 1 → keeps f = 64) ∧ (q % 3 = 2 → (q / 3 % 65 : Int) = ((keeps f : Nat) : Int)) ∧ (q % 3 ≠ 1 → q % 3 ≠ 2 → keeps f = 0) := by
  unfold keeps keptOf
  rw [← hq]
  refine ⟨fun h => by rw [if_pos h], fun h => ?_, fun h1 h2 => by rw [if_neg h1, if_neg h2]⟩
  rw [if_neg (by omega), if_pos h]
  omega
set_option maxRecDepth 100000 in
set_option maxHeartbeats 800000 in
theorem fall_any (w : World) (o n : List UInt8) (f : Int) (ho : o.length = 64) (hn : n.length = 64) (hf : -9223372036854775808 ≤ f ∧ f < 9223372036854775808) :
    Calls Try.prog 31 #[sec o, sec n, .int .i64 f] w fun e w' => e = .returned (sec (fell o n f)) ∧ Only (fun _ => False) w w' := by
  have hk := keeps_le f
  obtain ⟨h1, h2, h3⟩ := fate_int f _ rfl
  obtain ⟨k, HK⟩ : ∃ k, keeps f = k := ⟨_, rfl⟩
  have HF : Hid (fell o n f = n.take k ++ o.drop k) := by unfold Hid; rw [← HK]; rfl
  rw [HK] at hk h1 h2 h3
  have H1 := hide h1
  have H2 := hide h2
  have H3 := hide h3
  clear h1 h2 h3 HK
  have hC := copy_secs (((w.alloc (secObj o)).alloc (secObj n)).alloc (secObj zeros)).drew w.heap.size (w.heap.size + 1) k o n hn hk
    (by simp only [World.rangeAt_drew]; exact World.rangeAt_alloc (World.rangeAt_alloc (alloc_range w o) _) _) (by simp only [World.there_drew]; exact World.there_alloc (World.there_alloc (alloc_there w o ho) _) _)
    (by simp only [World.rangeAt_drew]; have := World.rangeAt_alloc (alloc_range (w.alloc (secObj o)) n) (secObj zeros); simpa using this)
  obtain ⟨hc1, hc2⟩ := hC
  have HC2 := hide hc2
  clear hc2
  have hLn : (n.take k ++ o.drop k).length = 64 := by simp; omega
  obtain ⟨L, hL⟩ : ∃ L, L = n.take k ++ o.drop k := ⟨_, rfl⟩
  obtain ⟨N, hN⟩ : ∃ N, N = n.take k := ⟨_, rfl⟩
  rw [← hL] at HF HC2 hLn
  rw [← hN] at hc1 HC2
  have hk0 : (0 : Int) ≤ (k : Int) := by omega
  have hk1 : (k : Int) ≤ 64 := by omega
  clear hL hN
  have HT : Hid (∀ N X, X = ((((w.alloc (secObj o)).alloc (secObj n)).alloc (secObj zeros)).drew.setCells w.heap.size 0 (cells N)) → X.there (w.heap.size + 1 + 1) 0 64) := by
    intro N X hX
    rw [hX]
    refine World.there_setCells ?_ _ _ _
    simp only [World.there_drew]
    have := alloc_there ((w.alloc (secObj o)).alloc (secObj n)) zeros zeros_len
    simpa using this
  have HO : Hid (∀ N X, X = ((((w.alloc (secObj o)).alloc (secObj n)).alloc (secObj zeros)).drew.setCells w.heap.size 0 (cells N)) → Only (fun _ => False) w X) := by
    intro N X hX
    rw [hX]
    refine (((Only.alloc _ _ _).trans ((Only.alloc _ _ _).trans ((Only.alloc _ _ _).trans (Only.drew _ _) (fun _ _ h => h)) (fun _ _ h => h)) (fun _ _ h => h)).trans (Only.setCells (S := fun i => i = w.heap.size) _ rfl _ _ _) (fun i hi e => ?_))
    omega
  go_enter Try.func31, Try.ntmps31
  go_wp2_with (first
    | (refine wpList_alloc_sec _ rfl rfl ?_)
    | (refine wpList_box_sec _ rfl _ rfl _ rfl ?_))
  · rename_i hA hB K aa
    have e : k = 64 := H1.out (by rw [if_pos hA]; simpa using hB)
    subst e
    go_region
    obtain ⟨X, hX⟩ : ∃ X, X = ((((w.alloc (secObj o)).alloc (secObj n)).alloc (secObj zeros)).drew.setCells w.heap.size 0 (cells N)) := ⟨_, rfl⟩
    rw [← hX] at HC2 ⊢
    have HT2 : Hid (X.there (w.heap.size + 1 + 1) 0 64) := HT.out _ _ hX
    have hO : Only (fun _ => False) w X := HO.out _ _ hX
    clear hX hc1
    go_wp2_with (first
      | (refine wpList_load_sec _ rfl _ rfl _ _ rfl L hLn HC2.out ?_)
      | (refine wpList_store_sec _ rfl _ _ rfl _ _ rfl L rfl hLn HT2.out ?_))
    refine bodyPost_ret (results_sec rfl _ _ (w.heap.size + 1 + 1) L hLn rfl (World.rangeAt_setCells_same _ _ _ _ (by rw [cells_length, hLn]; exact HT2.out))) rfl ?_
    refine ⟨by rw [HF.out], hO.trans (Only.setCells (S := fun i => i = w.heap.size + 1 + 1) _ rfl _ _ _) (fun i hi e => by omega)⟩
  · rename_i hA hB hC K aa
    have e : (-1 - f) / 3 % 65 = (k : Int) := by
      have := H2.out (by rw [if_pos hA]; simpa using hC)
      rwa [if_pos hA] at this
    rw [e]
    go_region
    obtain ⟨X, hX⟩ : ∃ X, X = ((((w.alloc (secObj o)).alloc (secObj n)).alloc (secObj zeros)).drew.setCells w.heap.size 0 (cells N)) := ⟨_, rfl⟩
    rw [← hX] at HC2 ⊢
    have HT2 : Hid (X.there (w.heap.size + 1 + 1) 0 64) := HT.out _ _ hX
    have hO : Only (fun _ => False) w X := HO.out _ _ hX
    clear hX hc1
    go_wp2_with (first
      | (refine wpList_load_sec _ rfl _ rfl _ _ rfl L hLn HC2.out ?_)
      | (refine wpList_store_sec _ rfl _ _ rfl _ _ rfl L rfl hLn HT2.out ?_))
    refine bodyPost_ret (results_sec rfl _ _ (w.heap.size + 1 + 1) L hLn rfl (World.rangeAt_setCells_same _ _ _ _ (by rw [cells_length, hLn]; exact HT2.out))) rfl ?_
    refine ⟨by rw [HF.out], hO.trans (Only.setCells (S := fun i => i = w.heap.size + 1 + 1) _ rfl _ _ _) (fun i hi e => by omega)⟩
  · rename_i hA hB hC K aa
    have e : k = 0 := H3.out (by rw [if_pos hA]; simpa using hB) (by rw [if_pos hA]; simpa using hC)
    subst e
    go_region
    obtain ⟨X, hX⟩ : ∃ X, X = ((((w.alloc (secObj o)).alloc (secObj n)).alloc (secObj zeros)).drew.setCells w.heap.size 0 (cells N)) := ⟨_, rfl⟩
    rw [← hX] at HC2 ⊢
    have HT2 : Hid (X.there (w.heap.size + 1 + 1) 0 64) := HT.out _ _ hX
    have hO : Only (fun _ => False) w X := HO.out _ _ hX
    clear hX hc1
    go_wp2_with (first
      | (refine wpList_load_sec _ rfl _ rfl _ _ rfl L hLn HC2.out ?_)
      | (refine wpList_store_sec _ rfl _ _ rfl _ _ rfl L rfl hLn HT2.out ?_))
    refine bodyPost_ret (results_sec rfl _ _ (w.heap.size + 1 + 1) L hLn rfl (World.rangeAt_setCells_same _ _ _ _ (by rw [cells_length, hLn]; exact HT2.out))) rfl ?_
    refine ⟨by rw [HF.out], hO.trans (Only.setCells (S := fun i => i = w.heap.size + 1 + 1) _ rfl _ _ _) (fun i hi e => by omega)⟩
  · rename_i hA hB K aa
    have e : k = 64 := H1.out (by rw [if_neg (by omega)]; simpa using hB)
    subst e
    go_region
    obtain ⟨X, hX⟩ : ∃ X, X = ((((w.alloc (secObj o)).alloc (secObj n)).alloc (secObj zeros)).drew.setCells w.heap.size 0 (cells N)) := ⟨_, rfl⟩
    rw [← hX] at HC2 ⊢
    have HT2 : Hid (X.there (w.heap.size + 1 + 1) 0 64) := HT.out _ _ hX
    have hO : Only (fun _ => False) w X := HO.out _ _ hX
    clear hX hc1
    go_wp2_with (first
      | (refine wpList_load_sec _ rfl _ rfl _ _ rfl L hLn HC2.out ?_)
      | (refine wpList_store_sec _ rfl _ _ rfl _ _ rfl L rfl hLn HT2.out ?_))
    refine bodyPost_ret (results_sec rfl _ _ (w.heap.size + 1 + 1) L hLn rfl (World.rangeAt_setCells_same _ _ _ _ (by rw [cells_length, hLn]; exact HT2.out))) rfl ?_
    refine ⟨by rw [HF.out], hO.trans (Only.setCells (S := fun i => i = w.heap.size + 1 + 1) _ rfl _ _ _) (fun i hi e => by omega)⟩
  · rename_i hA hB hC K aa
    have e : f / 3 % 65 = (k : Int) := by
      have := H2.out (by rw [if_neg (by omega)]; simpa using hC)
      rwa [if_neg (by omega)] at this
    rw [e]
    go_region
    obtain ⟨X, hX⟩ : ∃ X, X = ((((w.alloc (secObj o)).alloc (secObj n)).alloc (secObj zeros)).drew.setCells w.heap.size 0 (cells N)) := ⟨_, rfl⟩
    rw [← hX] at HC2 ⊢
    have HT2 : Hid (X.there (w.heap.size + 1 + 1) 0 64) := HT.out _ _ hX
    have hO : Only (fun _ => False) w X := HO.out _ _ hX
    clear hX hc1
    go_wp2_with (first
      | (refine wpList_load_sec _ rfl _ rfl _ _ rfl L hLn HC2.out ?_)
      | (refine wpList_store_sec _ rfl _ _ rfl _ _ rfl L rfl hLn HT2.out ?_))
    refine bodyPost_ret (results_sec rfl _ _ (w.heap.size + 1 + 1) L hLn rfl (World.rangeAt_setCells_same _ _ _ _ (by rw [cells_length, hLn]; exact HT2.out))) rfl ?_
    refine ⟨by rw [HF.out], hO.trans (Only.setCells (S := fun i => i = w.heap.size + 1 + 1) _ rfl _ _ _) (fun i hi e => by omega)⟩
  · rename_i hA hB hC K aa
    have e : k = 0 := H3.out (by rw [if_neg (by omega)]; simpa using hB) (by rw [if_neg (by omega)]; simpa using hC)
    subst e
    go_region
    obtain ⟨X, hX⟩ : ∃ X, X = ((((w.alloc (secObj o)).alloc (secObj n)).alloc (secObj zeros)).drew.setCells w.heap.size 0 (cells N)) := ⟨_, rfl⟩
    rw [← hX] at HC2 ⊢
    have HT2 : Hid (X.there (w.heap.size + 1 + 1) 0 64) := HT.out _ _ hX
    have hO : Only (fun _ => False) w X := HO.out _ _ hX
    clear hX hc1
    go_wp2_with (first
      | (refine wpList_load_sec _ rfl _ rfl _ _ rfl L hLn HC2.out ?_)
      | (refine wpList_store_sec _ rfl _ _ rfl _ _ rfl L rfl hLn HT2.out ?_))
    refine bodyPost_ret (results_sec rfl _ _ (w.heap.size + 1 + 1) L hLn rfl (World.rangeAt_setCells_same _ _ _ _ (by rw [cells_length, hLn]; exact HT2.out))) rfl ?_
    refine ⟨by rw [HF.out], hO.trans (Only.setCells (S := fun i => i = w.heap.size + 1 + 1) _ rfl _ _ _) (fun i hi e => by omega)⟩
end Go.Proofs.Ytachbonlakbjmaa
