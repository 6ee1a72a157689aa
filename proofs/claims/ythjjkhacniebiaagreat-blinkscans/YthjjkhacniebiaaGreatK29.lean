/- Trees of nodes as plain data: how long items and nodes are, a node's two halves. -/
import Derived.Test.YthjjkhacniebiaaGreatK28
namespace Go.Proofs.YthjjkhacniebiaaGreat
open Go.RowKit

theorem sev_small {n : Nat} (h : n ≤ 65535) : 1 ≤ (sev n).length ∧ (sev n).length ≤ 3 := by
  unfold sev
  by_cases a : n < 128
  · rw [sevF_end a]; simp
  · rw [sevF_more a]
    by_cases b : n / 128 < 128
    · rw [sevF_end b]; simp
    · rw [sevF_more b, sevF_end (by omega)]; simp
theorem enc_bounds {e : En} (h : e.ok = true) : 4 ≤ e.enc.size ∧ e.enc.size ≤ 31 := by
  have h' := En.ok_iff.1 h
  have hb : e.enc.size = e.lay.length := by rw [← bl_len e.enc, bl_enc]
  have t := txL_len e.key (by omega)
  have a := sev_small (n := e.page.toNat) (by omega)
  have b := sev_small (n := e.slot.toNat) (by omega)
  rw [hb]
  unfold En.lay
  simp only [List.length_append]
  omega
theorem encS_bounds {e : En} {c : Int} (h : e.ok = true) (hc : okC c = true) : 5 ≤ (e.encS c).size ∧ (e.encS c).size ≤ 34 := by
  have hb : (e.encS c).size = e.lay.length + (sev c.toNat).length := by rw [← bl_len (e.encS c), bl_encS]; unfold En.layS; simp
  have hb2 : e.enc.size = e.lay.length := by rw [← bl_len e.enc, bl_enc]
  have h1 := enc_bounds h
  have h2 := okC_iff.1 hc
  have a := sev_small (n := c.toNat) (by omega)
  omega
theorem noE_encS_size' (c : Int) : (noE.encS c).size = 3 + (sev c.toNat).length := by
  rw [← bl_len (noE.encS c), bl_encS]
  unfold En.layS
  rw [List.length_append, show noE.lay.length = 3 by decide]
theorem encS_noE_bounds {c : Int} (hc : okC c = true) : 4 ≤ (noE.encS c).size ∧ (noE.encS c).size ≤ 6 := by
  have h2 := okC_iff.1 hc
  have a := sev_small (n := c.toNat) (by omega)
  rw [noE_encS_size']
  omega
theorem encS_noE_le {e : En} {c : Int} (h : e.ok = true) : (noE.encS c).size ≤ (e.encS c).size := by
  have hb : (e.encS c).size = e.lay.length + (sev c.toNat).length := by rw [← bl_len (e.encS c), bl_encS]; unfold En.layS; simp
  have hb2 : e.enc.size = e.lay.length := by rw [← bl_len e.enc, bl_enc]
  have h1 := enc_bounds h
  rw [noE_encS_size']
  omega
theorem hiB_size {h : En} (x : h = noE ∨ h.ok = true) : (hiB h).size ≤ 31 := by
  unfold hiB
  by_cases k : h = noE
  · rw [if_pos k]; decide
  · rw [if_neg k]
    rcases x with x | x
    · exact absurd x k
    · exact (enc_bounds x).2
theorem isz_up {l : List ByteArray} {m : Nat} (h : ∀ s ∈ l, s.size ≤ m) : isz l ≤ (m + 2) * l.length := by
  induction l with
  | nil => simp [isz_nil]
  | cons s l ih =>
    have a := h s (List.mem_cons_self ..)
    have b := ih (fun x hx => h x (List.mem_cons_of_mem _ hx))
    rw [isz_cons, List.length_cons, Nat.mul_succ]
    omega
theorem isz_down {l : List ByteArray} {m : Nat} (h : ∀ s ∈ l, m ≤ s.size) : (m + 2) * l.length ≤ isz l := by
  induction l with
  | nil => simp
  | cons s l ih =>
    have a := h s (List.mem_cons_self ..)
    have b := ih (fun x hx => h x (List.mem_cons_of_mem _ hx))
    rw [isz_cons, List.length_cons, Nat.mul_succ]
    omega
/-- A node's children are pages. -/
def Nd.Kok (x : Nd) : Prop := 0 < x.lv → ∀ k ∈ x.ks, okC k.2 = true
section Sizes
variable {x : Nd} {lo : En}
/-- How long the items from k on are, at least and at most. -/
theorem Nd.Ok.leaf_up (h : x.Ok lo) (hv : x.lv = 0) {l : List (En × Int)} (hl : ∀ k ∈ l, k ∈ x.ks) : 6 * l.length ≤ isz (l.map (itB x.lv)) ∧ isz (l.map (itB x.lv)) ≤ 33 * l.length := by
  have a : ∀ s ∈ l.map (itB x.lv), 4 ≤ s.size ∧ s.size ≤ 31 := by
    intro s hs
    obtain ⟨k, hk, rfl⟩ := List.mem_map.1 hs
    unfold itB
    rw [if_pos hv]
    exact enc_bounds (h.leaf hv k (hl k hk)).1
  have b := isz_up (fun s hs => (a s hs).2)
  have c := isz_down (fun s hs => (a s hs).1)
  rw [List.length_map] at b c
  exact ⟨c, b⟩
theorem Nd.Ok.inner_up (h : x.Ok lo) (hk : x.Kok) (hv : 0 < x.lv) {l : List (En × Int)} (hl : ∀ k ∈ l, k ∈ x.ks.tail) : 7 * l.length ≤ isz (l.map (itB x.lv)) ∧ isz (l.map (itB x.lv)) ≤ 36 * l.length := by
  have a : ∀ s ∈ l.map (itB x.lv), 5 ≤ s.size ∧ s.size ≤ 34 := by
    intro s hs
    obtain ⟨k, hkk, rfl⟩ := List.mem_map.1 hs
    unfold itB
    rw [if_neg (by omega)]
    exact encS_bounds (h.inner hv k (hl k hkk)).1 (hk hv k (List.mem_of_mem_tail (hl k hkk)))
  have b := isz_up (fun s hs => (a s hs).2)
  have c := isz_down (fun s hs => (a s hs).1)
  rw [List.length_map] at b c
  exact ⟨c, b⟩
theorem Nd.Ok.few (h : x.Ok lo) (hk : x.Kok) : x.ks.length ≤ 82 := by
  have hs := h.size
  unfold Nd.size Nd.items at hs
  rcases Nat.eq_zero_or_pos x.lv with v | v
  · have a := (h.leaf_up v (fun k hk => hk)).1
    omega
  · obtain ⟨c, r, hr⟩ := h.first v
    have a := (h.inner_up hk v (l := r) (fun k hk => by rw [hr]; exact hk)).1
    have b := encS_noE_bounds (c := c) (hk v (noE, c) (by rw [hr]; exact List.mem_cons_self ..))
    rw [hr, List.map_cons, isz_cons] at hs
    have d : itB x.lv (noE, c) = noE.encS c := by unfold itB; rw [if_neg (by omega)]
    rw [d] at hs
    rw [hr, List.length_cons]
    omega
/-- An item that may come in. -/
theorem item_up {v : Nat} {e : En} {c : Int} (he : e.ok = true) (hc : 0 < v → okC c = true) : 2 + (itB v (e, c)).size ≤ 36 ∧ (v = 0 → 2 + (itB v (e, c)).size ≤ 33) := by
  unfold itB
  by_cases hv : v = 0
  · rw [if_pos hv]
    have h := enc_bounds he
    show 2 + e.enc.size ≤ 36 ∧ (v = 0 → 2 + e.enc.size ≤ 33)
    exact ⟨by omega, fun _ => by omega⟩
  · rw [if_neg hv]
    have h := encS_bounds he (hc (by omega))
    show 2 + (e.encS c).size ≤ 36 ∧ (v = 0 → 2 + (e.encS c).size ≤ 33)
    exact ⟨by omega, fun z => absurd z hv⟩
/-- A node that is full has items enough. -/
theorem Nd.Ok.full (h : x.Ok lo) (hk : x.Kok) {e : En} {c : Int} (he : e.ok = true) (hc : 0 < x.lv → okC c = true) (hf : 512 < x.size + (2 + (itB x.lv (e, c)).size)) : 13 ≤ x.ks.length ∧ (x.hi = noE → 14 ≤ x.ks.length) := by
  obtain ⟨hu1, hu2⟩ := item_up (v := x.lv) he hc
  obtain ⟨T, hT⟩ : ∃ T, (itB x.lv (e, c)).size = T := ⟨_, rfl⟩
  rw [hT] at hu1 hu2 hf
  have hh : (hiB x.hi).size ≤ 31 := hiB_size (by rcases h.hiok with y | y; exact .inl y; exact .inr y.1)
  have hz : x.hi = noE → (hiB x.hi).size = 0 := fun y => by rw [y]; decide
  unfold Nd.size Nd.items at hf
  rcases Nat.eq_zero_or_pos x.lv with v | v
  · have a := (h.leaf_up v (fun k hk => hk)).2
    have b := hu2 v
    exact ⟨by omega, fun y => by have := hz y; omega⟩
  · obtain ⟨d, r, hr⟩ := h.first v
    have a := (h.inner_up hk v (l := r) (fun k hk => by rw [hr]; exact hk)).2
    have b := encS_noE_bounds (c := d) (hk v (noE, d) (by rw [hr]; exact List.mem_cons_self ..))
    rw [hr, List.map_cons, isz_cons] at hf
    have q : itB x.lv (noE, d) = noE.encS d := by unfold itB; rw [if_neg (by omega)]
    rw [q] at hf
    rw [hr, List.length_cons]
    exact ⟨by omega, fun y => by have := hz y; omega⟩
end Sizes

def Nd.half (x : Nd) : Nat := (x.ks.length + 1) / 2
/-- What separates a node's halves. -/
def Nd.bord (x : Nd) : En := if x.lv = 0 then (x.ks.getD (x.half - 1) (noE, 0)).1 else (x.ks.getD x.half (noE, 0)).1
def Nd.left (x : Nd) (j : Nat) : Nd := ⟨x.lv, j, x.bord, x.ks.take x.half⟩
def Nd.rest (x : Nd) : List (En × Int) := if x.lv = 0 then x.ks.drop x.half else (noE, (x.ks.getD x.half (noE, 0)).2) :: x.ks.drop (x.half + 1)
def Nd.right (x : Nd) : Nd := ⟨x.lv, x.rt, x.hi, x.rest⟩
section Halves
variable {x : Nd} {lo : En}
theorem Nd.half_lt (hn : 2 ≤ x.ks.length) : 1 ≤ x.half ∧ x.half < x.ks.length := by unfold Nd.half; omega
theorem rise_at {es : List En} (h : Rise es) {i j : Nat} (hj : j < es.length) (hij : i < j) : (es[i]'(by omega)).lt es[j] := List.pairwise_iff_getElem.1 h i j (by omega) hj hij
theorem Nd.rise_ks (h : Rise x.es) {i j : Nat} (hj : j < x.ks.length) (hij : i < j) : (x.ks[i]'(by omega)).1.lt x.ks[j].1 := by
  have := rise_at h (i := i) (j := j) (by rw [Nd.es_len]; exact hj) hij
  unfold Nd.es at this
  simpa using this
theorem Nd.bord_leaf (hv : x.lv = 0) (hn : 2 ≤ x.ks.length) : ∃ h : x.half - 1 < x.ks.length, x.bord = (x.ks[x.half - 1]).1 := by
  have := Nd.half_lt hn
  refine ⟨by omega, ?_⟩
  unfold Nd.bord
  rw [if_pos hv, List.getD_eq_getElem?_getD, List.getElem?_eq_getElem (by omega), Option.getD_some]
theorem Nd.bord_inner (hv : 0 < x.lv) (hn : 2 ≤ x.ks.length) : ∃ h : x.half < x.ks.length, x.bord = (x.ks[x.half]).1 := by
  have := Nd.half_lt hn
  refine ⟨by omega, ?_⟩
  unfold Nd.bord
  rw [if_neg (by omega), List.getD_eq_getElem?_getD, List.getElem?_eq_getElem (by omega), Option.getD_some]
theorem Nd.mem_tail {i : Nat} (h1 : 1 ≤ i) (h : i < x.ks.length) : x.ks[i] ∈ x.ks.tail := by
  rw [List.mem_iff_getElem]
  refine ⟨i - 1, by simp; omega, ?_⟩
  rw [List.getElem_tail]
  congr 1
  omega
theorem Nd.Ok.bord (h : x.Ok lo) (hn : 2 ≤ x.ks.length) : x.bord.ok = true ∧ lo.lt x.bord ∧ (x.hi = noE ∨ x.bord.lt x.hi) := by
  have hh := Nd.half_lt hn
  rcases Nat.eq_zero_or_pos x.lv with v | v
  · obtain ⟨h1, hb⟩ := Nd.bord_leaf v hn
    obtain ⟨a, _, b, c⟩ := h.leaf v _ (List.getElem_mem h1)
    obtain ⟨_, _, _, c2⟩ := h.leaf v _ (List.getElem_mem hh.2)
    have d := Nd.rise_ks h.rise hh.2 (i := x.half - 1) (by omega)
    rw [hb]
    refine ⟨a, b, ?_⟩
    rcases byd_no.1 c2 with k | k
    · exact .inl k
    · exact .inr (En.lt_le d k)
  · obtain ⟨h1, hb⟩ := Nd.bord_inner v hn
    obtain ⟨a, b, c⟩ := h.inner v _ (Nd.mem_tail hh.1 h1)
    rw [hb]
    exact ⟨a, b, blw_yes.1 c⟩
theorem Nd.left_mem {k : En × Int} (h : k ∈ x.ks.take x.half) : k ∈ x.ks := List.mem_of_mem_take h
theorem Nd.half_sum (x : Nd) : isz ((x.ks.take x.half).map (itB x.lv)) + isz ((x.ks.drop x.half).map (itB x.lv)) = isz x.items := by
  rw [← isz_app, ← List.map_append, List.take_append_drop]
  rfl
theorem Nd.Ok.left_size (h : x.Ok lo) (hk : x.Kok) (hn : 2 ≤ x.ks.length) (j : Nat) : (x.left j).size + (if x.lv = 0 then 33 else 36) ≤ 512 := by
  have hh := Nd.half_lt hn
  have hb := (enc_bounds (h.bord hn).1).2
  have hB : (hiB x.bord).size ≤ 31 := hiB_size (.inr (h.bord hn).1)
  have hs := h.size
  have sm := Nd.half_sum x
  unfold Nd.size at hs ⊢
  show 20 + (hiB x.bord).size + isz ((x.ks.take x.half).map (itB x.lv)) + _ ≤ 512
  have lt : (x.ks.take x.half).length = x.half := by rw [List.length_take]; omega
  have ld : (x.ks.drop x.half).length = x.ks.length - x.half := List.length_drop
  have hf : x.half ≤ x.ks.length - x.half + 1 := by unfold Nd.half; omega
  rcases Nat.eq_zero_or_pos x.lv with v | v
  · rw [if_pos v]
    have a := (h.leaf_up v (l := x.ks.take x.half) (fun k => Nd.left_mem)).2
    have b := (h.leaf_up v (l := x.ks.drop x.half) (fun k => List.mem_of_mem_drop)).1
    rw [lt] at a
    rw [ld] at b
    omega
  · rw [if_neg (by omega)]
    obtain ⟨c, r, hr⟩ := h.first v
    have q : itB x.lv (noE, c) = noE.encS c := by unfold itB; rw [if_neg (by omega)]
    have e0 := encS_noE_bounds (c := c) (hk v (noE, c) (by rw [hr]; exact List.mem_cons_self ..))
    have tk : x.ks.take x.half = (noE, c) :: r.take (x.half - 1) := by
      rw [hr]
      obtain ⟨m, hm⟩ : ∃ m, x.half = m + 1 := ⟨x.half - 1, by omega⟩
      rw [hm]; rfl
    have a := (h.inner_up hk v (l := r.take (x.half - 1)) (fun k hk => by rw [hr]; exact List.mem_of_mem_take hk)).2
    have b := (h.inner_up hk v (l := x.ks.drop x.half) (fun k hkk => by
      obtain ⟨i, hi, rfl⟩ := List.mem_drop_iff_getElem.1 hkk
      exact Nd.mem_tail (by omega) (by omega))).1
    rw [ld] at b
    have lr : (r.take (x.half - 1)).length ≤ x.half - 1 := by rw [List.length_take]; omega
    rw [tk, List.map_cons, isz_cons, q] at sm ⊢
    omega
theorem Nd.Ok.right_size (h : x.Ok lo) (hk : x.Kok) (hn : 2 ≤ x.ks.length) : x.right.size ≤ 512 ∧ (12 ≤ x.ks.length → x.right.size + 36 ≤ 512) := by
  have hh := Nd.half_lt hn
  have hs := h.size
  have sm := Nd.half_sum x
  unfold Nd.size at hs ⊢
  show 20 + (hiB x.hi).size + isz (x.rest.map (itB x.lv)) ≤ 512 ∧ (12 ≤ x.ks.length → 20 + (hiB x.hi).size + isz (x.rest.map (itB x.lv)) + 36 ≤ 512)
  have lt : (x.ks.take x.half).length = x.half := by rw [List.length_take]; omega
  have hf : 12 ≤ x.ks.length → 6 ≤ x.half := fun y => by unfold Nd.half; omega
  rcases Nat.eq_zero_or_pos x.lv with v | v
  · have a := (h.leaf_up v (l := x.ks.take x.half) (fun k => Nd.left_mem)).1
    rw [lt] at a
    unfold Nd.rest
    rw [if_pos v]
    exact ⟨by omega, fun y => by have := hf y; omega⟩
  · obtain ⟨c, r, hr⟩ := h.first v
    have q : itB x.lv (noE, c) = noE.encS c := by unfold itB; rw [if_neg (by omega)]
    have e0 := encS_noE_bounds (c := c) (hk v (noE, c) (by rw [hr]; exact List.mem_cons_self ..))
    have tk : x.ks.take x.half = (noE, c) :: r.take (x.half - 1) := by
      rw [hr]
      obtain ⟨m, hm⟩ : ∃ m, x.half = m + 1 := ⟨x.half - 1, by omega⟩
      rw [hm]; rfl
    have a := (h.inner_up hk v (l := r.take (x.half - 1)) (fun k hk => by rw [hr]; exact List.mem_of_mem_take hk)).1
    have lr : (r.take (x.half - 1)).length = x.half - 1 := by
      have : x.ks.length = r.length + 1 := by rw [hr]; rfl
      rw [List.length_take]; omega
    rw [lr] at a
    have dr : x.ks.drop x.half = x.ks[x.half] :: x.ks.drop (x.half + 1) := List.drop_eq_getElem_cons hh.2
    have q2 : itB x.lv x.ks[x.half] = (x.ks[x.half]).1.encS (x.ks[x.half]).2 := by unfold itB; rw [if_neg (by omega)]
    have le := encS_noE_le (c := (x.ks[x.half]).2) (h.inner v _ (Nd.mem_tail hh.1 hh.2)).1
    have q3 : itB x.lv (noE, (x.ks[x.half]).2) = noE.encS (x.ks[x.half]).2 := by unfold itB; rw [if_neg (by omega)]
    have gd : (x.ks.getD x.half (noE, 0)) = x.ks[x.half] := by rw [List.getD_eq_getElem?_getD, List.getElem?_eq_getElem hh.2, Option.getD_some]
    rw [tk, List.map_cons, isz_cons, q, dr, List.map_cons, isz_cons, q2] at sm
    unfold Nd.rest
    rw [if_neg (by omega), gd, List.map_cons, isz_cons, q3]
    exact ⟨by omega, fun y => by have := hf y; omega⟩
theorem Nd.Ok.left (h : x.Ok lo) (hk : x.Kok) (hn : 2 ≤ x.ks.length) (j : Nat) : (x.left j).Ok lo := by
  have hh := Nd.half_lt hn
  have hb := h.bord hn
  have hsz := h.left_size hk hn j
  refine ⟨?_, .inr ⟨hb.1, hb.2.1⟩, ?_, ?_, ?_, by omega⟩
  · show Rise ((x.ks.take x.half).map Prod.fst)
    exact h.rise.sublist ((List.take_sublist _ _).map _)
  · intro v k hkk
    obtain ⟨a, b, c, _⟩ := h.leaf v k (Nd.left_mem hkk)
    refine ⟨a, b, c, byd_no.2 (.inr ?_)⟩
    show ¬ x.bord.lt k.1
    obtain ⟨h1, e⟩ := Nd.bord_leaf (x := x) v hn
    rw [e]
    obtain ⟨i, hi, rfl⟩ := List.mem_take_iff_getElem.1 hkk
    intro l
    rcases Nat.lt_or_ge i (x.half - 1) with z | z
    · exact En.lt_asymm l (Nd.rise_ks h.rise h1 z)
    · have : i = x.half - 1 := by omega
      subst this
      exact En.lt_irrefl _ l
  · intro v
    obtain ⟨c, r, hr⟩ := h.first v
    refine ⟨c, r.take (x.half - 1), ?_⟩
    show x.ks.take x.half = _
    rw [hr]
    obtain ⟨m, hm⟩ : ∃ m, x.half = m + 1 := ⟨x.half - 1, by omega⟩
    rw [hm]; rfl
  · intro v k hkk
    have hkk' : k ∈ (x.ks.take x.half).tail := hkk
    have ht : k ∈ x.ks.tail ∧ ∃ i, ∃ hi : i < x.ks.length, i < x.half ∧ k = x.ks[i] := by
      obtain ⟨i, hi, rfl⟩ := List.mem_iff_getElem.1 hkk'
      rw [List.length_tail, List.length_take] at hi
      rw [List.getElem_tail, List.getElem_take]
      exact ⟨Nd.mem_tail (by omega) (by omega), i + 1, by omega, by omega, rfl⟩
    obtain ⟨t, i, hi, hi2, rfl⟩ := ht
    obtain ⟨a, b, _⟩ := h.inner v _ t
    refine ⟨a, b, blw_yes.2 (.inr ?_)⟩
    obtain ⟨h1, e⟩ := Nd.bord_inner (x := x) v hn
    show (x.ks[i]).1.lt x.bord
    rw [e]
    exact Nd.rise_ks h.rise h1 hi2
theorem Nd.rest_inner (hv : 0 < x.lv) (hn : 2 ≤ x.ks.length) : ∃ h : x.half < x.ks.length, x.rest = (noE, (x.ks[x.half]).2) :: x.ks.drop (x.half + 1) := by
  have hh := Nd.half_lt hn
  refine ⟨hh.2, ?_⟩
  unfold Nd.rest
  rw [if_neg (by omega), List.getD_eq_getElem?_getD, List.getElem?_eq_getElem hh.2, Option.getD_some]
theorem Nd.Ok.right (h : x.Ok lo) (hk : x.Kok) (hn : 2 ≤ x.ks.length) : x.right.Ok x.bord := by
  have hh := Nd.half_lt hn
  have hb := h.bord hn
  refine ⟨?_, ?_, ?_, ?_, ?_, (h.right_size hk hn).1⟩
  · show Rise (x.rest.map Prod.fst)
    rcases Nat.eq_zero_or_pos x.lv with v | v
    · unfold Nd.rest
      rw [if_pos v]
      exact h.rise.sublist ((List.drop_sublist _ _).map _)
    · obtain ⟨h1, e⟩ := Nd.rest_inner v hn
      rw [e, List.map_cons]
      refine List.pairwise_cons.2 ⟨?_, h.rise.sublist ((List.drop_sublist _ _).map _)⟩
      intro y hy
      obtain ⟨k, hkk, rfl⟩ := List.mem_map.1 hy
      obtain ⟨i, hi, rfl⟩ := List.mem_drop_iff_getElem.1 hkk
      exact noE_lt (h.inner v _ (Nd.mem_tail (by omega) (by omega))).1
  · rcases h.hiok with y | y
    · exact .inl y
    · refine .inr ⟨y.1, ?_⟩
      rcases hb.2.2 with z | z
      · exact absurd z (En.ok_ne y.1)
      · exact z
  · intro v k hkk
    have hkk' : k ∈ x.rest := hkk
    have v' : x.lv = 0 := v
    unfold Nd.rest at hkk'
    rw [if_pos v'] at hkk'
    obtain ⟨a, b, _, c⟩ := h.leaf v' k (List.mem_of_mem_drop hkk')
    refine ⟨a, b, ?_, c⟩
    obtain ⟨h1, e⟩ := Nd.bord_leaf v' hn
    rw [e]
    obtain ⟨i, hi, rfl⟩ := List.mem_drop_iff_getElem.1 hkk'
    exact Nd.rise_ks h.rise (by omega) (by omega)
  · intro v
    obtain ⟨h1, e⟩ := Nd.rest_inner (x := x) v hn
    exact ⟨_, _, e⟩
  · intro v k hkk
    have v' : 0 < x.lv := v
    obtain ⟨h1, e⟩ := Nd.rest_inner v' hn
    have hkk' : k ∈ x.rest.tail := hkk
    rw [e] at hkk'
    obtain ⟨i, hi, rfl⟩ := List.mem_drop_iff_getElem.1 (show k ∈ x.ks.drop (x.half + 1) from hkk')
    obtain ⟨a, b, c⟩ := h.inner v' _ (Nd.mem_tail (i := x.half + 1 + i) (by omega) (by omega))
    refine ⟨a, ?_, c⟩
    obtain ⟨h2, e2⟩ := Nd.bord_inner v' hn
    rw [e2]
    exact Nd.rise_ks h.rise (by omega) (by omega)
end Halves
end Go.Proofs.YthjjkhacniebiaaGreat
