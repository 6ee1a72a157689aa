/- Parts. -/
import Derived.Test.YtpnbhddmdfcjdaaGreatK36
set_option maxRecDepth 100000
namespace Go.Proofs.YtpnbhddmdfcjdaaGreat
open Go.RowKit
structure WkOk (V : Vw) (h pg : Int) (l : List ByteArray) (k : Nat) (K : Wk) : Prop where
  gn : ∀ x ∈ K.gn, x.page = pg ∧ ∃ (j : Nat) (hj : j < l.length), x.slot = (j : Int) ∧ j < k ∧ gnS V h l[j] = true ∧ x.key = keyB l[j]
  rise : ∀ (i j : Nat) (hj : j < K.gn.length) (hij : i < j), (K.gn[i]'(by omega)).slot < K.gn[j].slot
  fr : ∀ x ∈ K.fr, ∃ (j : Nat) (hj : j < l.length), x = (j : Int) ∧ j < k ∧ gnS V h l[j] = false ∧ fzS V h l[j] = true
  of : ∀ x ∈ K.of, ∃ (j : Nat) (hj : j < l.length), x = (j : Int) ∧ j < k ∧ gnS V h l[j] = false ∧ ofS V l[j] = true
  risF : ∀ (i j : Nat) (hj : j < K.fr.length) (hij : i < j), (K.fr[i]'(by omega)) < K.fr[j]
  risO : ∀ (i j : Nat) (hj : j < K.of.length) (hij : i < j), (K.of[i]'(by omega)) < K.of[j]
theorem rise_app {α : Type} {f : α → Int} {L : List α} {x : α} {k : Int} (h : ∀ (i j : Nat) (hj : j < L.length) (hij : i < j), f (L[i]'(by omega)) < f L[j]) (hx : f x = k) (hl : ∀ y ∈ L, f y < k) :
    ∀ (i j : Nat) (hj : j < (L ++ [x]).length) (hij : i < j), f ((L ++ [x])[i]'(by omega)) < f (L ++ [x])[j] := by
  intro i j hj hij
  have hj2 : j < L.length + 1 := by rw [List.length_append] at hj; exact hj
  have hi : i < L.length := by omega
  rw [List.getElem_append_left hi]
  by_cases q : j < L.length
  · rw [List.getElem_append_left q]
    exact h i j q hij
  · have e : j = L.length := by omega
    subst e
    rw [List.getElem_append_right (Nat.le_refl _)]
    simp only [Nat.sub_self, List.getElem_singleton, hx]
    exact hl _ (List.getElem_mem hi)
theorem wkN_ok (V : Vw) (h pg : Int) (l : List ByteArray) : ∀ k, k ≤ l.length → WkOk V h pg l k (wkN V h pg l k) := by
  intro k
  induction k with
  | zero =>
    intro _
    refine ⟨?_, fun i j hj _ => absurd hj (Nat.not_lt_zero _), ?_, ?_, fun i j hj _ => absurd hj (Nat.not_lt_zero _), fun i j hj _ => absurd hj (Nat.not_lt_zero _)⟩
    · intro x hx; cases hx
    · intro x hx; cases hx
    · intro x hx; cases hx
  | succ k ih =>
    intro hk
    have ih := ih (by omega)
    have hkl : k < l.length := by omega
    rw [wkN_step hkl]
    obtain ⟨K, hK⟩ : ∃ K, wkN V h pg l k = K := ⟨_, rfl⟩
    rw [hK] at ih ⊢
    obtain ⟨h1, h2, h3, h4, h5, h6⟩ := ih
    have g1 : ∀ x ∈ K.gn, x.page = pg ∧ ∃ (j : Nat) (hj : j < l.length), x.slot = (j : Int) ∧ j < k + 1 ∧ gnS V h l[j] = true ∧ x.key = keyB l[j] := fun x hx => by
      obtain ⟨a, j, hj, b, c, d⟩ := h1 x hx
      exact ⟨a, j, hj, b, by omega, d⟩
    have g3 : ∀ x ∈ K.fr, ∃ (j : Nat) (hj : j < l.length), x = (j : Int) ∧ j < k + 1 ∧ gnS V h l[j] = false ∧ fzS V h l[j] = true := fun x hx => by
      obtain ⟨j, hj, b, c, d⟩ := h3 x hx
      exact ⟨j, hj, b, by omega, d⟩
    have g4 : ∀ x ∈ K.of, ∃ (j : Nat) (hj : j < l.length), x = (j : Int) ∧ j < k + 1 ∧ gnS V h l[j] = false ∧ ofS V l[j] = true := fun x hx => by
      obtain ⟨j, hj, b, c, d⟩ := h4 x hx
      exact ⟨j, hj, b, by omega, d⟩
    unfold Wk.step
    by_cases hg : gnS V h l[k] = true
    · rw [if_pos hg]
      refine ⟨fun x hx => ?_, ?_, g3, g4, h5, h6⟩
      · rcases List.mem_append.1 hx with q | q
        · exact g1 x q
        · rw [List.mem_singleton.1 q]
          exact ⟨rfl, k, hkl, rfl, by omega, hg, rfl⟩
      · exact rise_app (f := En.slot) (k := (k : Int)) h2 rfl (fun y hy => by
          obtain ⟨_, j, _, b, c, _⟩ := h1 y hy
          rw [b]; omega)
    · rw [if_neg hg]
      have hgf : gnS V h l[k] = false := by simpa using hg
      refine ⟨g1, h2, fun x hx => ?_, fun x hx => ?_, ?_, ?_⟩
      · by_cases hf : fzS V h l[k] = true
        · simp only [hf, if_true] at hx
          rcases List.mem_append.1 hx with q | q
          · exact g3 x q
          · rw [List.mem_singleton.1 q]
            exact ⟨k, hkl, rfl, by omega, hgf, hf⟩
        · simp only [hf] at hx
          exact g3 x hx
      · by_cases hf : ofS V l[k] = true
        · simp only [hf, if_true] at hx
          rcases List.mem_append.1 hx with q | q
          · exact g4 x q
          · rw [List.mem_singleton.1 q]
            exact ⟨k, hkl, rfl, by omega, hgf, hf⟩
        · simp only [hf] at hx
          exact g4 x hx
      · by_cases hf : fzS V h l[k] = true
        · simp only [hf, if_true]
          exact rise_app (f := fun x : Int => x) (k := (k : Int)) h5 rfl (fun y hy => by
            obtain ⟨j, _, b, c, _⟩ := h3 y hy
            rw [b]; omega)
        · simp only [hf]
          exact h5
      · by_cases hf : ofS V l[k] = true
        · simp only [hf, if_true]
          exact rise_app (f := fun x : Int => x) (k := (k : Int)) h6 rfl (fun y hy => by
            obtain ⟨j, _, b, c, _⟩ := h4 y hy
            rw [b]; omega)
        · simp only [hf]
          exact h6
end Go.Proofs.YtpnbhddmdfcjdaaGreat
