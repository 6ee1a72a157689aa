/- Two lists that share no memory: what Apart does. -/
import Derived.Test.YtachbonlakbjmaaDDoesC
import Derived.Maps.AppendAt
namespace Go.Proofs.Ytachbonlakbjmaa
open Go.RowKit

def vC (i k : Nat) : Value := .int .i64 ((i : Int) * 1000003 + (k : Int))
def mC (i k : Nat) : Value := .int .i64 (-(i : Int) * 1000003 - (k : Int) - 1)
def vL (i n : Nat) : List Value := (List.range n).map (vC i)
def mL (i c : Nat) : List Value := (List.range c).map (mC i)
theorem vL_len (i n : Nat) : (vL i n).length = n := by simp [vL]
theorem mL_len (i n : Nat) : (mL i n).length = n := by simp [mL]
theorem mL_succ (i c : Nat) : mL i (c + 1) = mL i c ++ [mC i c] := by simp [mL, List.range_succ]
theorem vL_get (i n k : Nat) (h : k < n) : (vL i n)[k]? = some (vC i k) := by simp [vL, h]
theorem mL_get (i n k : Nat) (h : k < n) : (mL i n)[k]? = some (mC i k) := by simp [mL, h]
/-- One number appended to a row that is owned: in its place, or in a new block. -/
theorem append_int (w : World) (base g cp n : Nat) (xs : List Value) (u : Int) (hown : w.ownsRow base 3 1 (.slice (some ⟨g, 0, none⟩) n cp) n xs) (hn : n ≤ 100000) (hbase : base ≤ w.heap.size) :
    ∃ g' cp' w', (Builtin.append_ #[34, 34] 34 #[.slice (some ⟨g, 0, none⟩) n cp, .slice (some ⟨w.heap.size, 0, none⟩) 1 1]).run Try.prog (w.alloc (.cells #[.int .i64 u] 3)) = .ok (.slice (some ⟨g', 0, none⟩) (n + 1) cp') w' ∧
      w'.ownsRow base 3 1 (.slice (some ⟨g', 0, none⟩) (n + 1) cp') (n + 1) (xs ++ [.int .i64 u]) ∧ ((g' = g ∧ Only (fun k => k = g) w w') ∨ (w.heap.size < g' ∧ Only (fun _ => False) w w')) := by
  obtain ⟨i0, hi, hz0, hz1, hz2⟩ := info_parts Try.infoInt
  obtain ⟨W, hW⟩ : ∃ W, w.alloc (.cells #[.int .i64 u] 3) = W := ⟨_, rfl⟩
  have hoW : Only (fun _ => False) w W := by rw [← hW]; exact Only.alloc _ _ _
  have hsz : W.heap.size = w.heap.size + 1 := by rw [← hW]; simp
  have hnews : ∀ j v, [Value.int .i64 u][j]? = some v → W.cell? ((⟨w.heap.size, 0, none⟩ : Addr).add j) = some v := by
    intro j v hv
    match j, hv with
    | 0, hv => simp at hv; subst hv; rw [← hW]; simp [Addr.add]
  have h' := owns_kept hown hoW (fun _ _ h => h)
  obtain ⟨v', w', hr, h2, h3, _, _⟩ := run_append_own_at (P := Try.prog) W base 34 34 3 i0 (.int .i64 0) 1 8 Try.underlying34 hi hz0 hz1 hz2 rfl (by decide) (.slice (some ⟨g, 0, none⟩) n cp) n xs h' ⟨w.heap.size, 0, none⟩ 1 1 [.int .i64 u] rfl hnews (by intro v hv; simp at hv; subst hv; rfl) (by unfold maxLen; omega) (by omega) (by omega)
  rw [hW]
  rcases h'.2 with ⟨h0, _⟩ | ⟨g0, cap, cur, hv, hbg, hg, hnc, hcm, hcs, htake⟩
  · cases h0
  · cases hv
    by_cases hrm : n + 1 ≤ cp
    · have hr2 := run_append_room (P := Try.prog) W 34 34 3 i0 Try.underlying34 hi g n cp cur hg ⟨w.heap.size, 0, none⟩ 1 1 [.int .i64 u] (by rw [hz1]; rfl) hnews (by intro v hv; simp at hv; subst hv; rfl) hrm (by rw [hz1]; simp; omega)
      rw [hr2] at hr
      injection hr with e1 e2
      subst e1
      refine ⟨g, cp, w', by rw [hr2, e2], h2, .inl ⟨rfl, (hoW.mono (fun _ _ h => h.elim)).trans (Only.grown (S := fun k => k = g) h3 (fun k hk => by simp [Value.ownBlock] at hk; exact hk.symm)) (fun _ _ h => h)⟩⟩
    · have hr2 := run_append_grow (P := Try.prog) W 34 34 3 i0 (.int .i64 0) Try.underlying34 hi hz0 ⟨g, 0, none⟩ n cp xs (by rw [hz1]; exact h'.1) (h'.cells (g := g) rfl) ⟨w.heap.size, 0, none⟩ 1 1 [.int .i64 u] (by rw [hz1]; rfl) hnews (by omega) (by omega) (by rw [hz2]; have := next_le (need := n + 1) (old := cp) (by omega); omega)
      rw [hr2] at hr
      injection hr with e1 e2
      subst e1
      refine ⟨W.heap.size, _, w', by rw [hr2, e2], h2, .inr ⟨by omega, ?_⟩⟩
      rw [← e2]
      exact hoW.trans ((Only.drew (fun _ => False) W).trans (Only.alloc (fun _ => False) _ _) (fun _ _ h => h)) (fun _ _ h => h)
/-- While marks are laid: list i up to place k. -/
structure A1 (w wr : World) (base L : Nat) (G K : Nat → Nat) (n i k : Nat) : Prop where
  own : ∀ i', i' < 2 → ∃ xs, wr.ownsRow base 3 1 (.slice (some ⟨G i', 0, none⟩) n (K i')) n xs ∧ ∀ k', k' < n → (i' < i ∨ (i' = i ∧ k' < k)) → xs[k']? = some (vC i' k')
  long : ∀ i', i' < 2 → wr.frozen? ⟨L, i', none⟩ = false ∧ ∃ v, wr.cell? ⟨L, i', none⟩ = some v ∧ (i' < i → v = .slice (some ⟨G i', 0, none⟩) n (K i'))
  only : Only (fun x => x = G 0 ∨ x = G 1) w wr
  lt : ∀ i', i' < 2 → G i' < w.heap.size
  ne : G 0 ≠ G 1
  eL : L = w.heap.size
theorem g_ne {G : Nat → Nat} (h : G 0 ≠ G 1) {i i' : Nat} (hi : i < 2) (hi' : i' < 2) (hn : i' ≠ i) : G i' ≠ G i := by
  have h1 : i = 0 ∨ i = 1 := by omega
  have h2 : i' = 0 ∨ i' = 1 := by omega
  rcases h1 with rfl | rfl <;> rcases h2 with rfl | rfl
  · exact absurd rfl hn
  · exact fun e => h e.symm
  · exact h
  · exact absurd rfl hn
theorem g_in {G : Nat → Nat} {i : Nat} (hi : i < 2) : G i = G 0 ∨ G i = G 1 := by
  have h1 : i = 0 ∨ i = 1 := by omega
  rcases h1 with rfl | rfl
  · exact .inl rfl
  · exact .inr rfl
theorem A1.set {w wr : World} {base L : Nat} {G K : Nat → Nat} {n i k : Nat} (h : A1 w wr base L G K n i k) (hi : i < 2) (hk : k < n) :
    (∃ x, wr.cell? ⟨G i, k, none⟩ = some x) ∧ wr.frozen? ⟨G i, k, none⟩ = false ∧ A1 w (wr.setCell ⟨G i, k, none⟩ (vC i k)) base L G K n i (k + 1) := by
  obtain ⟨xs, hx, hv⟩ := h.own i hi
  have hl : xs.length = n := by simpa using hx.1
  have ho : Only (fun x => x = G i) wr (wr.setCell ⟨G i, k, none⟩ (vC i k)) := Only.setCell (S := fun x => x = G i) wr ⟨G i, k, none⟩ _ rfl
  refine ⟨⟨_, (hx.cellAt k (by omega)).trans (List.getElem?_eq_getElem (by omega))⟩, hx.frozenAt k, ?_, ?_, ?_, h.lt, h.ne, h.eL⟩
  · intro i' hi'
    by_cases e : i' = i
    · subst e
      refine ⟨xs.set k (vC i' k), (hx.stored k (vC i' k)).1, fun k' hk' hc => ?_⟩
      by_cases ek : k' = k
      · subst ek
        simp [hl, hk]
      · rw [List.getElem?_set_ne (by omega)]
        exact hv k' hk' (by omega)
    · obtain ⟨ys, hy, hu⟩ := h.own i' hi'
      exact ⟨ys, owns_kept hy ho (fun q hq hqe => by simp [Value.ownBlock] at hq; exact g_ne h.ne hi hi' e (by omega)), fun k' hk' hc => hu k' hk' (by omega)⟩
  · intro i' hi'
    obtain ⟨hf, v, hc, hv'⟩ := h.long i' hi'
    have hne : L ≠ G i := by have := h.lt i hi; have := h.eL; omega
    refine ⟨by simpa using hf, v, (World.cell?_setCell_other _ _ _ _ (by intro e2; injection e2 with e3 _; exact hne e3.symm)).trans hc, hv'⟩
  · exact h.only.trans ho (fun x _ e => by rw [e]; exact g_in hi)
theorem A1.put {w wr : World} {base L : Nat} {G K : Nat → Nat} {n i : Nat} (h : A1 w wr base L G K n i n) (hi : i < 2) :
    (∃ x, wr.cell? ⟨L, i, none⟩ = some x) ∧ wr.frozen? ⟨L, i, none⟩ = false ∧ A1 w (wr.setCell ⟨L, i, none⟩ (.slice (some ⟨G i, 0, none⟩) n (K i))) base L G K n (i + 1) 0 := by
  obtain ⟨hf, v, hc, _⟩ := h.long i hi
  have ho : Only (fun x => x = L) wr (wr.setCell ⟨L, i, none⟩ (.slice (some ⟨G i, 0, none⟩) n (K i))) := Only.setCell (S := fun x => x = L) wr ⟨L, i, none⟩ _ rfl
  refine ⟨⟨v, hc⟩, hf, ?_, ?_, ?_, h.lt, h.ne, h.eL⟩
  · intro i' hi'
    obtain ⟨ys, hy, hu⟩ := h.own i' hi'
    exact ⟨ys, owns_kept hy ho (fun q hq hqe => by simp [Value.ownBlock] at hq; have := h.lt i' hi'; have := h.eL; omega), fun k' hk' hc => hu k' hk' (by omega)⟩
  · intro i' hi'
    obtain ⟨hf', v', hc', hv'⟩ := h.long i' hi'
    refine ⟨by simpa using hf', ?_⟩
    by_cases e : i' = i
    · subst e
      exact ⟨_, World.cell?_setCell_same _ _ _ hc', fun _ => rfl⟩
    · exact ⟨v', (World.cell?_setCell_other _ _ _ _ (by intro e2; injection e2 with _ e3; exact e e3.symm)).trans hc', fun hlt => hv' (by omega)⟩
  · exact h.only.trans ho (fun x hx e => by have := h.eL; omega)
/-- Behind them: each list long has grown by so many. -/
structure A2 (w wr : World) (base L : Nat) (G : Nat → Nat) (n : Nat) (c : Nat → Nat) (g cp : Nat → Nat) : Prop where
  cell : ∀ i, i < 2 → wr.cell? ⟨L, i, none⟩ = some (.slice (some ⟨g i, 0, none⟩) (n + c i) (cp i))
  fz : ∀ i, i < 2 → wr.frozen? ⟨L, i, none⟩ = false
  own : ∀ i, i < 2 → wr.ownsRow base 3 1 (.slice (some ⟨g i, 0, none⟩) (n + c i) (cp i)) (n + c i) (vL i n ++ mL i (c i))
  orig : ∀ i k, i < 2 → k < n → wr.cell? ⟨G i, k, none⟩ = some (vC i k)
  at_ : ∀ i, i < 2 → g i = G i ∨ L < g i
  ne : g 0 ≠ g 1
  only : Only (fun x => x = G 0 ∨ x = G 1) w wr
  lt : ∀ i', i' < 2 → G i' < w.heap.size
  gne : G 0 ≠ G 1
  eL : L = w.heap.size
  Lw : L < wr.heap.size
theorem A1.two {w wr : World} {base L : Nat} {G K : Nat → Nat} {n : Nat} (h : A1 w wr base L G K n 2 0) : A2 w wr base L G n (fun _ => 0) G K := by
  have key : ∀ i, i < 2 → wr.ownsRow base 3 1 (.slice (some ⟨G i, 0, none⟩) n (K i)) n (vL i n) := by
    intro i hi
    obtain ⟨xs, hx, hv⟩ := h.own i hi
    have hl : xs.length = n := by simpa using hx.1
    have e : xs = vL i n := by
      apply List.ext_getElem?
      intro k
      by_cases hk : k < n
      · rw [hv k hk (.inl hi), vL_get i n k hk]
      · rw [List.getElem?_eq_none (by omega), List.getElem?_eq_none (by rw [vL_len]; omega)]
    rw [← e]
    exact hx
  refine ⟨fun i hi => ?_, fun i hi => (h.long i hi).1, fun i hi => ?_, fun i k hi hk => ?_, fun i _ => .inl rfl, h.ne, h.only, h.lt, h.ne, h.eL, ?_⟩
  · obtain ⟨_, v, hc, hv⟩ := h.long i hi
    rw [hc, hv (by omega)]
    rfl
  · simpa [mL] using key i hi
  · rw [(key i hi).cellAt k (by omega), vL_get i n k hk]
  · obtain ⟨_, v, hc, _⟩ := h.long 0 (by omega)
    exact World.block_lt_of_cell? wr _ hc
def upd (f : Nat → Nat) (i x : Nat) (j : Nat) : Nat := if j = i then x else f j
theorem A2.push {w wr : World} {base L : Nat} {G : Nat → Nat} {n : Nat} {c g cp : Nat → Nat} (h : A2 w wr base L G n c g cp) {i : Nat} (hi : i < 2) (hc : c i < 16) (hn : n ≤ 65536) (hbase : base ≤ w.heap.size) :
    ∃ g' cp' w', (Builtin.append_ #[34, 34] 34 #[.slice (some ⟨g i, 0, none⟩) (n + c i) (cp i), .slice (some ⟨wr.heap.size, 0, none⟩) 1 1]).run Try.prog (wr.alloc (.cells #[mC i (c i)] 3)) = .ok (.slice (some ⟨g', 0, none⟩) (n + c i + 1) cp') w' ∧
      (∃ x, w'.cell? ⟨L, i, none⟩ = some x) ∧ w'.frozen? ⟨L, i, none⟩ = false ∧ A2 w (w'.setCell ⟨L, i, none⟩ (.slice (some ⟨g', 0, none⟩) (n + c i + 1) cp')) base L G n (upd c i (c i + 1)) (upd g i g') (upd cp i cp') := by
  obtain ⟨g', cp', w', hr, ho, hcase⟩ := append_int wr base (g i) (cp i) (n + c i) (vL i n ++ mL i (c i)) (-(i : Int) * 1000003 - (c i : Int) - 1) (h.own i hi) (by omega) (Nat.le_trans hbase h.only.size)
  have hL := h.eL
  have hlt := h.lt i hi
  have hLw := h.Lw
  have hgi : g i ≠ L := by rcases h.at_ i hi with e | e <;> omega
  -- no block but that of list i, or a new one, has turned
  have hon : Only (fun k => k = g i) wr w' := by
    rcases hcase with ⟨_, h1⟩ | ⟨_, h1⟩
    · exact h1
    · exact h1.mono (fun _ _ h => h.elim)
  have hws := hon.size
  have cL : ∀ j, w'.cell? ⟨L, j, none⟩ = wr.cell? ⟨L, j, none⟩ := fun j => hon.cell (p := ⟨L, j, none⟩) hLw (fun e => hgi e.symm)
  have fL : ∀ j, w'.frozen? ⟨L, j, none⟩ = wr.frozen? ⟨L, j, none⟩ := fun j => hon.frozen (p := ⟨L, j, none⟩) hLw (fun e => hgi e.symm)
  have hg' : g' = g i ∨ wr.heap.size < g' := by
    rcases hcase with ⟨h1, _⟩ | ⟨h1, _⟩
    · exact .inl h1
    · exact .inr h1
  have gother : ∀ i', i' < 2 → i' ≠ i → g i' ≠ g i := fun i' hi' e => g_ne h.ne hi hi' e
  have gl : ∀ i', i' < 2 → g i' < wr.heap.size := fun i' hi' => ((h.own i' hi').lt _ rfl).2
  have hst : Only (fun k => k = L) w' (w'.setCell ⟨L, i, none⟩ (.slice (some ⟨g', 0, none⟩) (n + c i + 1) cp')) := Only.setCell (S := fun k => k = L) w' ⟨L, i, none⟩ _ rfl
  have hgL : g' ≠ L := by rcases hg' with e | e <;> omega
  refine ⟨g', cp', w', hr, ⟨_, (cL i).trans (h.cell i hi)⟩, (fL i).trans (h.fz i hi), ?_, ?_, ?_, ?_, ?_, ?_, ?_, h.lt, h.gne, hL, ?_⟩
  · intro i' hi'
    by_cases e : i' = i
    · subst e
      rw [World.cell?_setCell_same _ _ _ ((cL i').trans (h.cell i' hi'))]
      simp [upd, Nat.add_assoc]
    · rw [World.cell?_setCell_other _ _ _ _ (by intro e2; injection e2 with _ e3; exact e e3.symm), cL i', h.cell i' hi']
      simp [upd, e]
  · intro i' hi'
    simpa using (fL i').trans (h.fz i' hi')
  · intro i' hi'
    by_cases e : i' = i
    · subst e
      have h1 := owns_kept ho hst (fun k hk he => by simp [Value.ownBlock] at hk; omega)
      simp only [upd, if_true]
      rw [mL_succ, ← List.append_assoc, ← Nat.add_assoc]
      exact h1
    · have h1 := owns_kept (owns_kept (h.own i' hi') hon (fun k hk he => by simp [Value.ownBlock] at hk; exact gother i' hi' e (by omega))) hst (fun k hk he => by simp [Value.ownBlock] at hk; rcases h.at_ i' hi' with e1 | e1 <;> (have := h.lt i' hi'; omega))
      simp only [upd, if_neg e]
      exact h1
  · intro i' k hi' hk
    have hGL : G i' ≠ L := by have := h.lt i' hi'; omega
    rw [World.cell?_setCell_other _ _ _ _ (by intro e2; injection e2 with e3 _; exact hGL e3.symm)]
    by_cases e : G i' = g i
    · -- it is list i's own place, and nothing was moved, or a new block was made
      have ei : i' = i := by
        refine Classical.byContradiction fun hne => ?_
        rcases h.at_ i hi with e1 | e1
        · exact g_ne h.gne hi hi' hne (by omega)
        · have := h.lt i' hi'; omega
      subst ei
      rcases hcase with ⟨h1, _⟩ | ⟨_, h1⟩
      · subst h1
        rw [e, ho.cellAt k (by omega), List.getElem?_append_left (by simp [vL_len, mL_len]; omega), List.getElem?_append_left (by rw [vL_len]; exact hk), vL_get i' n k hk]
      · rw [h1.cell (p := ⟨G i', k, none⟩) (Nat.lt_of_lt_of_le (h.lt i' hi') h.only.size) (fun h => h)]
        exact h.orig i' k hi' hk
    · rw [hon.cell (p := ⟨G i', k, none⟩) (Nat.lt_of_lt_of_le (h.lt i' hi') h.only.size) (fun e2 => e e2)]
      exact h.orig i' k hi' hk
  · intro i' hi'
    by_cases e : i' = i
    · subst e
      simp only [upd, if_true]
      rcases hg' with e1 | e1
      · rw [e1]; exact h.at_ i' hi'
      · exact .inr (by omega)
    · simp only [upd, if_neg e]
      exact h.at_ i' hi'
  · have hcs : i = 0 ∨ i = 1 := by omega
    have g0 := gl 0 (by omega)
    have g1 := gl 1 (by omega)
    have hne := h.ne
    rcases hcs with rfl | rfl
    · simp only [upd, if_true, show (1 = 0) = False by simp, if_false]
      rcases hg' with e1 | e1 <;> omega
    · simp only [upd, if_true, show (0 = 1) = False by simp, if_false]
      rcases hg' with e1 | e1 <;> omega
  · refine (h.only.trans hon (fun x hx e => ?_)).trans hst (fun x hx e => by omega)
    rcases h.at_ i hi with e1 | e1
    · rw [e, e1]; exact g_in hi
    · omega
  · simpa using Nat.lt_of_lt_of_le hLw hws
end Go.Proofs.Ytachbonlakbjmaa
