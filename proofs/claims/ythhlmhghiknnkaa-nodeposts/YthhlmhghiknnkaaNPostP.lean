/- A separator posted: what an inner node says then, and where it leads. -/
import Derived.Test.YthhlmhghiknnkaaNLawH
import Derived.Test.YthhlmhghiknnkaaNPost
namespace Go.Proofs.Ythhlmhghiknnkaa
open Go.RowKit

/-- What an inner node says with a separator more. -/
def posK (ks : List (En × Int)) (e : En) (c : Int) : List (En × Int) := ks.take (plE (ks.map Prod.fst) e) ++ (e, c) :: ks.drop (plE (ks.map Prod.fst) e)
theorem posK_fst (ks : List (En × Int)) (e : En) (c : Int) : (posK ks e c).map Prod.fst = insE (ks.map Prod.fst) e := by
  unfold posK insE
  rw [List.map_append, List.map_cons, List.map_take, List.map_drop]
theorem posK_len (ks : List (En × Int)) (e : En) (c : Int) : (posK ks e c).length = ks.length + 1 := by
  have := congrArg List.length (posK_fst ks e c)
  rw [List.length_map, insE_len, List.length_map] at this
  exact this
theorem posK_get (ks : List (En × Int)) (e : En) (c : Int) (j : Nat) : (posK ks e c)[j]? = if j < plE (ks.map Prod.fst) e then ks[j]? else if j = plE (ks.map Prod.fst) e then some (e, c) else ks[j - 1]? := by
  have hp := plE_le (ks.map Prod.fst) e
  rw [List.length_map] at hp
  have hlt : (ks.take (plE (ks.map Prod.fst) e)).length = plE (ks.map Prod.fst) e := by rw [List.length_take]; omega
  unfold posK
  by_cases h1 : j < plE (ks.map Prod.fst) e
  · rw [if_pos h1, List.getElem?_append_left (by omega), List.getElem?_take_of_lt h1]
  · rw [if_neg h1, List.getElem?_append_right (by omega), hlt]
    by_cases h2 : j = plE (ks.map Prod.fst) e
    · rw [if_pos h2, h2, Nat.sub_self]
      rfl
    · obtain ⟨d, hd⟩ : ∃ d, j - plE (ks.map Prod.fst) e = d + 1 := ⟨j - plE (ks.map Prod.fst) e - 1, by omega⟩
      rw [if_neg h2, hd, List.getElem?_cons_succ, List.getElem?_drop]
      congr 1
      omega
theorem posK_mem {ks : List (En × Int)} {e : En} {c : Int} {k : En × Int} (h : k ∈ posK ks e c) : k = (e, c) ∨ k ∈ ks := by
  unfold posK at h
  rcases List.mem_append.1 h with h | h
  · exact .inr (List.mem_of_mem_take h)
  · rcases List.mem_cons.1 h with h | h
    · exact .inl h
    · exact .inr (List.mem_of_mem_drop h)
theorem InIs.post {l : List ByteArray} {ks : List (En × Int)} (h : InIs noE l ks) {e : En} {c : Int} (he : e.ok = true) (hc : okC c = true) (hn : e ∉ ks.map Prod.fst) : InIs noE (posI l ks e c) (posK ks e c) := by
  obtain ⟨Q, hQ, hQl⟩ := pl_pos h he
  obtain ⟨c0, r, hks⟩ := h.first
  refine ⟨?_, by rw [posK_fst]; exact insE_rise h.rise hn, ?_, ?_, ?_⟩
  · unfold posI posK
    rw [h.items, List.map_append, List.map_cons, List.map_take, List.map_drop]
  · refine ⟨c0, r.take Q ++ (e, c) :: r.drop Q, ?_⟩
    unfold posK
    rw [hQ, hks]
    rfl
  · intro k hk
    have hk2 : k = (e, c) ∨ k ∈ ks.tail := by
      have e1 : (posK ks e c).tail = r.take Q ++ (e, c) :: r.drop Q := by
        unfold posK
        rw [hQ, hks]
        rfl
      rw [e1] at hk
      rw [hks]
      rcases List.mem_append.1 hk with hk | hk
      · exact .inr (List.mem_of_mem_take hk)
      · rcases List.mem_cons.1 hk with hk | hk
        · exact .inl hk
        · exact .inr (List.mem_of_mem_drop hk)
    rcases hk2 with rfl | hk
    · exact ⟨he, by unfold blw; simp⟩
    · exact h.ok k hk
  · intro k hk
    rcases posK_mem hk with rfl | hk
    · exact hc
    · exact h.kid k hk
theorem lt_iff {es : List En} (hr : Rise es) (x : En) (i : Nat) (hi : i < es.length) : es[i].lt x ↔ i < plE es x := by
  obtain ⟨h1, h2⟩ := plE_spec hr x
  constructor
  · intro h
    by_cases c : i < plE es x
    · exact c
    · exact absurd h (h2 es[i] (List.mem_drop_iff_getElem.2 ⟨i - plE es x, by omega, by congr 1; omega⟩))
  · intro h
    exact h1 es[i] (List.mem_take_iff_getElem.2 ⟨i, by omega, rfl⟩)
theorem pl_ins {es : List En} {e x : En} : plE (insE es e) x = plE es x + (if e.lt x then 1 else 0) := by
  have h : plE es x = (es.take (plE es e)).countP (fun y => decide (y.lt x)) + (es.drop (plE es e)).countP (fun y => decide (y.lt x)) := by
    rw [← List.countP_append, List.take_append_drop]
    rfl
  rw [h]
  unfold plE insE
  rw [List.countP_append, List.countP_cons]
  by_cases c : e.lt x
  · simp only [decide_eq_true c, if_pos c, if_true]
    unfold plE
    omega
  · simp only [decide_eq_false c, if_neg c]
    unfold plE
    simp
theorem pl_mono {es : List En} (hr : Rise es) {a b : En} (h : ∀ y : En, y.lt a → y.lt b) : plE es a ≤ plE es b := by
  by_cases c : plE es a = 0
  · omega
  · have hl := plE_le es a
    have h1 := (lt_iff hr a (plE es a - 1) (by omega)).2 (by omega)
    have h2 := (lt_iff hr b (plE es a - 1) (by omega)).1 (h _ h1)
    omega
/-- Behind a separator that is posted: where an entry is led. -/
theorem post_child {l : List ByteArray} {ks : List (En × Int)} (h : InIs noE l ks) {e x : En} {c : Int} (hx : x.ok = true) (hn : e ∉ ks.map Prod.fst) (hk : ∀ k ∈ ks, k.2 ≠ c) :
    ((chE (posK ks e c) x = c) ↔ (e.lt x ∧ ∀ s ∈ insE (ks.map Prod.fst) e, ¬ (e.lt s ∧ s.lt x))) ∧ (¬ (e.lt x ∧ ∀ s ∈ insE (ks.map Prod.fst) e, ¬ (e.lt s ∧ s.lt x)) → chE ks x = chE (posK ks e c) x) := by
  obtain ⟨Q, hQ, hQl⟩ := pl_pos h hx
  have hr := h.rise
  have hP := plE_le (ks.map Prod.fst) e
  rw [List.length_map] at hP
  have hfl : (ks.map Prod.fst).length = ks.length := List.length_map ..
  have hpl := pl_ins (es := ks.map Prod.fst) (e := e) (x := x)
  have hcx : chE ks x = ks[Q].2 := by
    unfold chE
    rw [hQ, Nat.add_sub_cancel, List.getD_eq_getElem?_getD, List.getElem?_eq_getElem hQl]
    rfl
  have hqc : ks[Q].2 ≠ c := hk _ (List.getElem_mem _)
  have hmem : ∀ s, s ∈ insE (ks.map Prod.fst) e ↔ s = e ∨ s ∈ ks.map Prod.fst := fun s => insE_mem
  by_cases hex : e.lt x
  · have hPQ : plE (ks.map Prod.fst) e ≤ Q + 1 := by
      have := pl_mono hr (a := e) (b := x) (fun y hy => En.lt_trans hy hex)
      omega
    rw [if_pos hex, hQ] at hpl
    have hc' : chE (posK ks e c) x = ((posK ks e c)[Q + 1]?.getD (noE, 0)).2 := by
      unfold chE
      rw [posK_fst, hpl, List.getD_eq_getElem?_getD]
      rfl
    rw [posK_get] at hc'
    by_cases hPe : plE (ks.map Prod.fst) e = Q + 1
    · rw [if_neg (by omega), if_pos hPe.symm] at hc'
      have hN : e.lt x ∧ ∀ s ∈ insE (ks.map Prod.fst) e, ¬ (e.lt s ∧ s.lt x) := by
        refine ⟨hex, fun s hs hss => ?_⟩
        rcases (hmem s).1 hs with rfl | hs
        · exact En.lt_irrefl _ hss.1
        · obtain ⟨i, hi, rfl⟩ := List.mem_iff_getElem.1 hs
          have h1 := (lt_iff hr x i hi).1 hss.2
          have h2 := (lt_iff hr e i hi).2 (by omega)
          exact En.lt_asymm hss.1 h2
      exact ⟨⟨fun _ => hN, fun _ => hc'⟩, fun hc => absurd hN hc⟩
    · rw [if_neg (by omega), if_neg (by omega), Nat.add_sub_cancel, List.getElem?_eq_getElem hQl] at hc'
      have hc2 : chE (posK ks e c) x = ks[Q].2 := hc'
      have hN : ¬ (e.lt x ∧ ∀ s ∈ insE (ks.map Prod.fst) e, ¬ (e.lt s ∧ s.lt x)) := by
        rintro ⟨_, hall⟩
        have hi : plE (ks.map Prod.fst) e < (ks.map Prod.fst).length := by omega
        have hm := List.getElem_mem hi
        have h1 := (lt_iff hr x _ hi).2 (by omega)
        have h2 : ¬ (ks.map Prod.fst)[plE (ks.map Prod.fst) e].lt e := fun hh => by have := (lt_iff hr e _ hi).1 hh; omega
        rcases En.lt_total (a := e) (b := (ks.map Prod.fst)[plE (ks.map Prod.fst) e]) (fun he => hn (by rw [he]; exact hm)) with h3 | h3
        · exact hall _ ((hmem _).2 (.inr hm)) ⟨h3, h1⟩
        · exact h2 h3
      exact ⟨⟨fun hh => absurd (hc2.symm.trans hh) hqc, fun hh => absurd hh hN⟩, fun _ => hcx.trans hc2.symm⟩
  · have hQP : Q + 1 ≤ plE (ks.map Prod.fst) e := by
      have := pl_mono hr (a := x) (b := e) (fun y hy => by
        by_cases hxe : x = e
        · rw [← hxe]; exact hy
        · rcases En.lt_total hxe with h1 | h1
          · exact En.lt_trans hy h1
          · exact absurd h1 hex)
      omega
    rw [if_neg hex, hQ] at hpl
    have hc' : chE (posK ks e c) x = ((posK ks e c)[Q]?.getD (noE, 0)).2 := by
      unfold chE
      rw [posK_fst, hpl, List.getD_eq_getElem?_getD]
      rfl
    rw [posK_get, if_pos (by omega), List.getElem?_eq_getElem hQl] at hc'
    have hc2 : chE (posK ks e c) x = ks[Q].2 := hc'
    exact ⟨⟨fun hh => absurd (hc2.symm.trans hh) hqc, fun hh => absurd hh.1 hex⟩, fun _ => hcx.trans hc2.symm⟩
theorem PosQ.any {w w' : World} {x : Ending} {a v r : Int} {h : ByteArray} {hi e : En} {c : Int} {l : List ByteArray} {ks : List (En × Int)} (q : PosQ w w' x a v r h hi e c l ks) : ∃ p k, Res w w' x p k ∧ ((k = 0 ∧ p = ⟨a, 3, v, r, h, posI l ks e c⟩ ∧ e.ok = true ∧ okC c = true ∧ e ∉ ks.map Prod.fst ∧ (posI l ks e c).length ≤ 255) ∨ (¬ k = 0 ∧ p = .none)) := by
  by_cases hb : e.ok = false ∨ blw hi e = false ∨ okC c = false ∨ e ∈ ks.map Prod.fst
  · exact ⟨_, _, q.bad hb, .inr ⟨by decide, rfl⟩⟩
  · have h1 : e.ok = true := by
      cases hc : e.ok
      · exact absurd (.inl hc) hb
      · rfl
    have h2 : blw hi e = true := by
      cases hc : blw hi e
      · exact absurd (.inr (.inl hc)) hb
      · rfl
    have h3 : okC c = true := by
      cases hc : okC c
      · exact absurd (.inr (.inr (.inl hc))) hb
      · rfl
    have h4 : e ∉ ks.map Prod.fst := fun hm => hb (.inr (.inr (.inr hm)))
    obtain ⟨p, k, hr, hc⟩ := (q.good h1 h2 h3 h4).any
    rcases hc with ⟨_, rfl, rfl⟩ | ⟨hc, rfl, rfl⟩
    · exact ⟨_, _, hr, .inr ⟨by decide, rfl⟩⟩
    · exact ⟨_, _, hr, .inl ⟨rfl, rfl, h1, h3, h4, by omega⟩⟩
end Go.Proofs.Ythhlmhghiknnkaa
