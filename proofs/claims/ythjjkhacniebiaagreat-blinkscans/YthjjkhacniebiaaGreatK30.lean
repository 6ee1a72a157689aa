/- Trees of nodes as plain data: a node that is split, the root that is split, an item that comes into the half to which it belongs. -/
import Derived.Test.YthjjkhacniebiaaGreatK29
namespace Go.Proofs.YthjjkhacniebiaaGreat
open Go.RowKit

section Split
variable {N : Nat} {F : Nat → Nd} {lo : Nat → En} {A : En → Prop}
theorem Fst.kok (h : Fst N F lo A) (hN : N ≤ 65536) {i : Nat} (hp : pg N i) : (F i).Kok := by
  intro hv k hk
  obtain ⟨c, c1, c2, _⟩ := h.kid i hp hv k hk
  rw [c1]
  exact okC_iff.2 ⟨by have := c2.1; omega, by have := c2.2; omega⟩
theorem Nd.rest_mem {x : Nd} (hn : 2 ≤ x.ks.length) {k : En × Int} (hk : k ∈ x.rest) : k ∈ x.ks ∨ (0 < x.lv ∧ ∃ h : x.half < x.ks.length, k = (noE, (x.ks[x.half]).2)) := by
  rcases Nat.eq_zero_or_pos x.lv with v | v
  · unfold Nd.rest at hk
    rw [if_pos v] at hk
    exact .inl (List.mem_of_mem_drop hk)
  · obtain ⟨h1, e⟩ := Nd.rest_inner v hn
    rw [e] at hk
    rcases List.mem_cons.1 hk with rfl | hk
    · exact .inr ⟨v, h1, rfl⟩
    · exact .inl (List.mem_of_mem_drop hk)
/-- What a half's children are bound by. -/
theorem Fst.rest_kid (h : Fst N F lo A) {i : Nat} (hp : pg N i) (hn : 2 ≤ (F i).ks.length) (hv : 0 < (F i).lv) : ∀ k ∈ (F i).rest, ∃ c : Nat, k.2 = (c : Int) ∧ pg N c ∧ (F c).lv + 1 = (F i).lv ∧ lo c = (if k.1 = noE then (F i).bord else k.1) := by
  intro k hk
  have hh := Nd.half_lt hn
  obtain ⟨h1, e⟩ := Nd.rest_inner hv hn
  obtain ⟨h2, e2⟩ := Nd.bord_inner hv hn
  rw [e] at hk
  rcases List.mem_cons.1 hk with rfl | hk
  · obtain ⟨c, c1, c2, c3, c4⟩ := h.kid i hp hv _ (List.getElem_mem h1)
    rw [if_neg (En.ok_ne ((h.ok i hp).inner hv _ (Nd.mem_tail hh.1 h1)).1)] at c4
    exact ⟨c, c1, c2, c3, by rw [if_pos rfl, e2]; exact c4⟩
  · obtain ⟨j, hj, rfl⟩ := List.mem_drop_iff_getElem.1 hk
    obtain ⟨c, c1, c2, c3, c4⟩ := h.kid i hp hv _ (List.getElem_mem (n := (F i).half + 1 + j) (by omega))
    have ne := En.ok_ne ((h.ok i hp).inner hv _ (Nd.mem_tail (i := (F i).half + 1 + j) (by omega) (by omega))).1
    rw [if_neg ne] at c4
    exact ⟨c, c1, c2, c3, by rw [if_neg ne]; exact c4⟩
theorem Nd.es_take {x : Nd} (j : Nat) (e : En) : e ∈ (x.left j).es ↔ ∃ k ∈ x.ks.take x.half, k.1 = e := by
  show e ∈ (x.ks.take x.half).map Prod.fst ↔ _
  exact List.mem_map
/-- Of a leaf's entries those that are not behind what separates the halves are the left one's, the others the right one's. -/
theorem Nd.Ok.parts {x : Nd} {l : En} (h : x.Ok l) (hv : x.lv = 0) (hn : 2 ≤ x.ks.length) (j : Nat) (e : En) : (e ∈ (x.left j).es ↔ (e ∈ x.es ∧ ¬ x.bord.lt e)) ∧ (e ∈ x.right.es ↔ (e ∈ x.es ∧ x.bord.lt e)) := by
  obtain ⟨h1, eb⟩ := Nd.bord_leaf hv hn
  have hh := Nd.half_lt hn
  have a : ∀ k ∈ x.ks.take x.half, ¬ x.bord.lt k.1 := by
    intro k hk
    obtain ⟨i, hi, rfl⟩ := List.mem_take_iff_getElem.1 hk
    rw [eb]
    intro q
    rcases Nat.lt_or_ge i (x.half - 1) with z | z
    · exact En.lt_asymm q (Nd.rise_ks h.rise h1 z)
    · have : i = x.half - 1 := by omega
      subst this
      exact En.lt_irrefl _ q
  have b : ∀ k ∈ x.ks.drop x.half, x.bord.lt k.1 := by
    intro k hk
    obtain ⟨i, hi, rfl⟩ := List.mem_drop_iff_getElem.1 hk
    rw [eb]
    exact Nd.rise_ks h.rise (by omega) (by omega)
  have c : e ∈ x.es ↔ e ∈ (x.ks.take x.half).map Prod.fst ∨ e ∈ (x.ks.drop x.half).map Prod.fst := by
    rw [← List.mem_append, ← List.map_append, List.take_append_drop]
    rfl
  have r : x.right.es = (x.ks.drop x.half).map Prod.fst := by
    show x.rest.map Prod.fst = _
    unfold Nd.rest
    rw [if_pos hv]
  have t : (x.left j).es = (x.ks.take x.half).map Prod.fst := rfl
  rw [r, t, c]
  refine ⟨⟨?_, ?_⟩, ?_, ?_⟩
  · intro q
    obtain ⟨k, hk, rfl⟩ := List.mem_map.1 q
    exact ⟨.inl q, a k hk⟩
  · rintro ⟨q | q, p⟩
    · exact q
    · obtain ⟨k, hk, rfl⟩ := List.mem_map.1 q
      exact absurd (b k hk) p
  · intro q
    obtain ⟨k, hk, rfl⟩ := List.mem_map.1 q
    exact ⟨.inr q, b k hk⟩
  · rintro ⟨q | q, p⟩
    · obtain ⟨k, hk, rfl⟩ := List.mem_map.1 q
      exact absurd p (a k hk)
    · exact q
/-- A node is split: its left half stays, the right one comes to the page N. -/
theorem Fst.split (h : Fst N F lo A) (hN : N ≤ 65536) {i : Nat} (hp : pg N i) (hi1 : i ≠ 1) (hn : 2 ≤ (F i).ks.length) : Fst (N + 1) (upd (upd F i ((F i).left N)) N (F i).right) (upd lo N (F i).bord) A := by
  have hk := h.kok hN hp
  have hok := h.ok i hp
  have hb := hok.bord hn
  have hiN : i ≠ N := by have := hp.2; omega
  have old : ∀ j, pg (N + 1) j → j ≠ N → pg N j := fun j hj q => ⟨hj.1, by have := hj.2; omega⟩
  have up : ∀ j, pg N j → pg (N + 1) j := fun j hj => ⟨hj.1, by have := hj.2; omega⟩
  have ne : ∀ j, pg N j → j ≠ N := fun j hj => by have := hj.2; omega
  obtain ⟨G, hG⟩ : ∃ G, upd (upd F i ((F i).left N)) N (F i).right = G := ⟨_, rfl⟩
  obtain ⟨lo', hlo⟩ : ∃ l, upd lo N (F i).bord = l := ⟨_, rfl⟩
  have gN : G N = (F i).right := by rw [← hG, upd_same]
  have gi : G i = (F i).left N := by rw [← hG, upd_other _ _ hiN, upd_same]
  have go : ∀ j, j ≠ N → j ≠ i → G j = F j := fun j a b => by rw [← hG, upd_other _ _ a, upd_other _ _ b]
  have lN : lo' N = (F i).bord := by rw [← hlo, upd_same]
  have lo_ : ∀ j, j ≠ N → lo' j = lo j := fun j a => by rw [← hlo, upd_other _ _ a]
  have lv : ∀ j, pg N j → (G j).lv = (F j).lv := fun j hj => by
    by_cases q : j = i
    · rw [q, gi]; rfl
    · rw [go j (ne j hj) q]
  have lvN : (G N).lv = (F i).lv := by rw [gN]; rfl
  rw [hG, hlo]
  refine ⟨by have := h.two; omega, h.aok, ?_, ?_, ?_, ?_, ?_, ?_, ?_, ?_, ?_⟩
  · intro j hj
    by_cases q : j = N
    · rw [q, gN, lN]; exact hok.right hk hn
    · rw [lo_ j q]
      by_cases p : j = i
      · rw [p, gi]; exact hok.left hk hn N
      · rw [go j q p]; exact h.ok j (old j hj q)
  · intro j hj
    by_cases q : j = N
    · rw [q, lN]; exact .inr hb.1
    · rw [lo_ j q]; exact h.low j (old j hj q)
  · intro j hj
    by_cases q : j = N
    · rw [q, gN]; exact h.last i hp
    · by_cases p : j = i
      · rw [p, gi]
        intro z
        exact absurd z (En.ok_ne hb.1)
      · rw [go j q p]; exact h.last j (old j hj q)
  · intro j hj
    by_cases q : j = N
    · rw [q, gN]
      intro z
      obtain ⟨a, b, c⟩ := h.next i hp z
      refine ⟨up _ a, ?_, ?_⟩
      · show (G (F i).rt).lv = (F i).lv
        rw [lv _ a]; exact b
      · show lo' (F i).rt = (F i).hi
        rw [lo_ _ (ne _ a)]; exact c
    · by_cases p : j = i
      · rw [p, gi]
        intro _
        refine ⟨⟨by show 1 ≤ N; have := h.two; omega, by show N < N + 1; omega⟩, ?_, ?_⟩
        · show (G N).lv = (F i).lv
          exact lvN
        · show lo' N = (F i).bord
          exact lN
      · rw [go j q p]
        intro z
        obtain ⟨a, b, c⟩ := h.next j (old j hj q) z
        exact ⟨up _ a, by rw [lv _ a]; exact b, by rw [lo_ _ (ne _ a)]; exact c⟩
  · intro j hj hv k hkk
    by_cases q : j = N
    · subst q
      rw [gN] at hkk hv ⊢
      obtain ⟨c, c1, c2, c3, c4⟩ := h.rest_kid hp hn hv k hkk
      refine ⟨c, c1, up c c2, by rw [lv c c2]; exact c3, ?_⟩
      rw [lo_ c (ne c c2), lN]; exact c4
    · by_cases p : j = i
      · subst p
        rw [gi] at hkk hv ⊢
        obtain ⟨c, c1, c2, c3, c4⟩ := h.kid j hp hv k (List.mem_of_mem_take hkk)
        exact ⟨c, c1, up c c2, by rw [lv c c2]; exact c3, by rw [lo_ c (ne c c2), lo_ j q]; exact c4⟩
      · rw [go j q p] at hkk hv ⊢
        obtain ⟨c, c1, c2, c3, c4⟩ := h.kid j (old j hj q) hv k hkk
        exact ⟨c, c1, up c c2, by rw [lv c c2]; exact c3, by rw [lo_ c (ne c c2), lo_ j q]; exact c4⟩
  · have hsym : ∀ a b, pg (N + 1) a → pg (N + 1) b → a ≠ b → (G a).lv = (G b).lv → (b = N ∨ (b = i ∧ a ≠ N) ∨ (a ≠ N ∧ a ≠ i ∧ b ≠ N ∧ b ≠ i)) → ((G a).hi ≠ noE ∧ ¬ (lo' b).lt (G a).hi) ∨ ((G b).hi ≠ noE ∧ ¬ (lo' a).lt (G b).hi) := by
      intro a b ha hb' hab hv hc
      rcases hc with rfl | ⟨rfl, ha2⟩ | ⟨a1, a2, b1, b2⟩
      · have haN := old a ha hab
        rw [gN, lN, lo_ a hab]
        by_cases p : a = i
        · rw [p, gi]
          refine .inl ⟨En.ok_ne hb.1, ?_⟩
          exact En.lt_irrefl _
        · rw [go a hab p]
          rw [lvN, lv a haN] at hv
          rcases h.apart a i haN hp p hv with ⟨c, d⟩ | ⟨c, d⟩
          · exact .inl ⟨c, fun z => d (En.lt_trans hb.2.1 z)⟩
          · exact .inr ⟨c, d⟩
      · have haN := old a ha ha2
        rw [gi, lo_ b hiN, lo_ a ha2, go a ha2 hab]
        rw [lv b hp, lv a haN] at hv
        rcases h.apart a b haN hp hab hv with ⟨c, d⟩ | ⟨c, d⟩
        · exact .inl ⟨c, d⟩
        · refine .inr ⟨En.ok_ne hb.1, ?_⟩
          show ¬ (lo a).lt (F b).bord
          intro z
          rcases hb.2.2 with y | y
          · exact c y
          · exact d (En.lt_trans z y)
      · rw [go a a1 a2, go b b1 b2, lo_ a a1, lo_ b b1]
        rw [lv a (old a ha a1), lv b (old b hb' b1)] at hv
        exact h.apart a b (old a ha a1) (old b hb' b1) hab hv
    intro a b ha hb' hab hv
    by_cases q : b = N
    · exact hsym a b ha hb' hab hv (.inl q)
    · by_cases q2 : a = N
      · exact (hsym b a hb' ha (fun z => hab z.symm) hv.symm (.inl q2)).symm
      · by_cases p : b = i
        · exact hsym a b ha hb' hab hv (.inr (.inl ⟨p, q2⟩))
        · by_cases p2 : a = i
          · exact (hsym b a hb' ha (fun z => hab z.symm) hv.symm (.inr (.inl ⟨p2, q⟩))).symm
          · exact hsym a b ha hb' hab hv (.inr (.inr ⟨q2, p2, q, p⟩))
  · have h1N : (1 : Nat) ≠ N := by have := h.two; omega
    rw [go 1 h1N (fun z => hi1 z.symm), lo_ 1 h1N]
    exact h.root
  · intro j hj hj1
    have p1 : pg N 1 := ⟨Nat.le_refl _, by have := h.two; omega⟩
    rw [lv 1 p1]
    by_cases q : j = N
    · rw [q, lvN]; exact h.top i hp hi1
    · rw [lv j (old j hj q)]; exact h.top j (old j hj q) hj1
  · intro j hj hv e
    by_cases q : j = N
    · subst q
      rw [gN, lN]
      rw [lvN] at hv
      rw [(hok.parts hv hn j e).2, h.cont i hp hv e]
      show (_ ∧ _) ↔ (A e ∧ _ ∧ byd (F i).hi e = false)
      constructor
      · rintro ⟨⟨a, b, c⟩, d⟩; exact ⟨a, d, c⟩
      · rintro ⟨a, d, c⟩; exact ⟨⟨a, En.lt_trans hb.2.1 d, c⟩, d⟩
    · rw [lo_ j q]
      by_cases p : j = i
      · subst p
        rw [gi]
        rw [lv j hp] at hv
        rw [(hok.parts hv hn N e).1, h.cont j hp hv e]
        show (_ ∧ _) ↔ (A e ∧ _ ∧ byd (F j).bord e = false)
        constructor
        · rintro ⟨⟨a, b, c⟩, d⟩; exact ⟨a, b, byd_no.2 (.inr d)⟩
        · rintro ⟨a, b, c⟩
          rcases byd_no.1 c with c | d
          · exact absurd c (En.ok_ne hb.1)
          · refine ⟨⟨a, b, byd_no.2 ?_⟩, d⟩
            rcases hb.2.2 with y | y
            · exact .inl y
            · exact .inr (fun z => d (En.lt_trans y z))
      · rw [go j q p] at hv ⊢
        exact h.cont j (old j hj q) hv e
/-- The root's node moves to the page N: nothing is at the root's page meanwhile but a node above it alone. -/
def Nd.over (x : Nd) (a b : Nat) : Nd := ⟨x.lv + 1, 0, noE, [(noE, (a : Int)), (x.bord, (b : Int))]⟩
theorem Nd.over_ok {x : Nd} {a b : Nat} (hx : x.bord.ok = true) (ha : okC a = true) (hb : okC b = true) : (x.over a b).Ok noE := by
  refine ⟨?_, .inl rfl, (fun v => by cases v), (fun _ => ⟨_, _, rfl⟩), ?_, ?_⟩
  · show List.Pairwise En.lt [noE, x.bord]
    exact List.pairwise_cons.2 ⟨fun y hy => by rw [List.mem_singleton] at hy; rw [hy]; exact noE_lt hx, List.pairwise_singleton _ _⟩
  · intro _ k hk
    have : k = (x.bord, (b : Int)) := by simpa [Nd.over] using hk
    subst this
    exact ⟨hx, noE_lt hx, blw_yes.2 (.inl rfl)⟩
  · have e1 := encS_noE_bounds ha
    have e2 := encS_bounds hx hb
    show 20 + (hiB noE).size + isz [itB (x.lv + 1) (noE, (a : Int)), itB (x.lv + 1) (x.bord, (b : Int))] ≤ 512
    have z : (hiB noE).size = 0 := by decide
    have q1 : itB (x.lv + 1) (noE, (a : Int)) = noE.encS a := by unfold itB; rw [if_neg (by omega)]
    have q2 : itB (x.lv + 1) (x.bord, (b : Int)) = x.bord.encS b := by unfold itB; rw [if_neg (by omega)]
    rw [q1, q2, isz_cons, isz_cons, isz_nil, z]
    omega
theorem Fst.splitRoot (h : Fst N F lo A) (hN : N + 1 ≤ 65535) (hn : 2 ≤ (F 1).ks.length) : Fst (N + 2) (upd (upd (upd F N ((F 1).left (N + 1))) (N + 1) (F 1).right) 1 ((F 1).over N (N + 1))) (upd (upd lo N noE) (N + 1) (F 1).bord) A := by
  have h2 := h.two
  have hp : pg N 1 := ⟨Nat.le_refl _, by omega⟩
  have hk := h.kok (by omega) hp
  have hok := h.ok 1 hp
  rw [h.root.2] at hok
  have hb := hok.bord hn
  have old : ∀ j, pg (N + 2) j → j ≠ N → j ≠ N + 1 → pg N j := fun j hj q p => ⟨hj.1, by have := hj.2; omega⟩
  have up : ∀ j, pg N j → pg (N + 2) j := fun j hj => ⟨hj.1, by have := hj.2; omega⟩
  have ne : ∀ j, pg N j → j ≠ N ∧ j ≠ N + 1 := fun j hj => by have := hj.2; omega
  obtain ⟨G, hG⟩ : ∃ G, upd (upd (upd F N ((F 1).left (N + 1))) (N + 1) (F 1).right) 1 ((F 1).over N (N + 1)) = G := ⟨_, rfl⟩
  obtain ⟨lo', hlo⟩ : ∃ l, upd (upd lo N noE) (N + 1) (F 1).bord = l := ⟨_, rfl⟩
  have g1 : G 1 = (F 1).over N (N + 1) := by rw [← hG, upd_same]
  have gN : G N = (F 1).left (N + 1) := by rw [← hG, upd_other _ _ (by omega), upd_other _ _ (by omega), upd_same]
  have gM : G (N + 1) = (F 1).right := by rw [← hG, upd_other _ _ (by omega), upd_same]
  have go : ∀ j, pg N j → j ≠ 1 → G j = F j := fun j a b => by rw [← hG, upd_other _ _ b, upd_other _ _ (ne j a).2, upd_other _ _ (ne j a).1]
  have lN : lo' N = noE := by rw [← hlo, upd_other _ _ (by omega), upd_same]
  have lM : lo' (N + 1) = (F 1).bord := by rw [← hlo, upd_same]
  have lo_ : ∀ j, pg N j → lo' j = lo j := fun j a => by rw [← hlo, upd_other _ _ (ne j a).2, upd_other _ _ (ne j a).1]
  have lv : ∀ j, pg N j → j ≠ 1 → (G j).lv = (F j).lv := fun j a b => by rw [go j a b]
  have lv1 : (G 1).lv = (F 1).lv + 1 := by rw [g1]; rfl
  have lvN : (G N).lv = (F 1).lv := by rw [gN]; rfl
  have lvM : (G (N + 1)).lv = (F 1).lv := by rw [gM]; rfl
  have pN : pg (N + 2) N := ⟨by omega, by omega⟩
  have pM : pg (N + 2) (N + 1) := ⟨by omega, by omega⟩
  have kne : ∀ c, (F c).lv + 1 = (F 1).lv → c ≠ 1 := fun c hc z => by rw [z] at hc; omega
  rw [hG, hlo]
  refine ⟨by omega, h.aok, ?_, ?_, ?_, ?_, ?_, ?_, ?_, ?_, ?_⟩
  · intro j hj
    by_cases a : j = N
    · rw [a, gN, lN]; exact hok.left hk hn _
    · by_cases b : j = N + 1
      · rw [b, gM, lM]; exact hok.right hk hn
      · have hj' := old j hj a b
        rw [lo_ j hj']
        by_cases c : j = 1
        · rw [c, g1, h.root.2]; exact Nd.over_ok hb.1 (okC_iff.2 ⟨by omega, by omega⟩) (okC_iff.2 ⟨by omega, by omega⟩)
        · rw [go j hj' c]; exact h.ok j hj'
  · intro j hj
    by_cases a : j = N
    · rw [a, lN]; exact .inl rfl
    · by_cases b : j = N + 1
      · rw [b, lM]; exact .inr hb.1
      · rw [lo_ j (old j hj a b)]; exact h.low j (old j hj a b)
  · intro j hj
    by_cases a : j = N
    · rw [a, gN]
      intro z
      exact absurd z (En.ok_ne hb.1)
    · by_cases b : j = N + 1
      · rw [b, gM]; exact h.last 1 hp
      · have hj' := old j hj a b
        by_cases c : j = 1
        · rw [c, g1]; exact fun _ => rfl
        · rw [go j hj' c]; exact h.last j hj'
  · intro j hj
    by_cases a : j = N
    · rw [a, gN]
      intro _
      exact ⟨pM, lvM, lM⟩
    · by_cases b : j = N + 1
      · rw [b, gM]
        intro z
        exact absurd h.root.1 z
      · have hj' := old j hj a b
        by_cases c : j = 1
        · rw [c, g1]
          intro z
          exact absurd rfl z
        · rw [go j hj' c]
          intro z
          obtain ⟨x, y, u⟩ := h.next j hj' z
          have r1 : (F j).rt ≠ 1 := fun q => by rw [q, h.root.2] at u; exact z u.symm
          exact ⟨up _ x, by rw [lv _ x r1]; exact y, by rw [lo_ _ x]; exact u⟩
  · intro j hj hv k hkk
    by_cases a : j = N
    · rw [a, gN] at hkk hv
      obtain ⟨c, c1, c2, c3, c4⟩ := h.kid 1 hp hv k (List.mem_of_mem_take hkk)
      refine ⟨c, c1, up c c2, ?_, ?_⟩
      · rw [a, lvN, lv c c2 (kne c c3)]; exact c3
      · rw [lo_ c c2, a, lN, c4, h.root.2]
    · by_cases b : j = N + 1
      · rw [b, gM] at hkk hv
        obtain ⟨c, c1, c2, c3, c4⟩ := h.rest_kid hp hn hv k hkk
        refine ⟨c, c1, up c c2, ?_, ?_⟩
        · rw [b, lvM, lv c c2 (kne c c3)]; exact c3
        · rw [lo_ c c2, b, lM]; exact c4
      · have hj' := old j hj a b
        by_cases c : j = 1
        · subst c
          rw [g1] at hkk
          rcases List.mem_cons.1 (show k ∈ (noE, ((N : Nat) : Int)) :: [((F 1).bord, ((N + 1 : Nat) : Int))] from hkk) with rfl | hk2
          · refine ⟨N, rfl, pN, by rw [lvN, lv1], ?_⟩
            rw [if_pos rfl, lN, lo_ 1 hp, h.root.2]
          · rw [List.mem_singleton] at hk2
            subst hk2
            refine ⟨N + 1, rfl, pM, by rw [lvM, lv1], ?_⟩
            rw [if_neg (En.ok_ne hb.1), lM]
        · rw [go j hj' c] at hkk hv
          obtain ⟨d, d1, d2, d3, d4⟩ := h.kid j hj' hv k hkk
          have dn : d ≠ 1 := fun z => by
            have := h.top j hj' c
            rw [z] at d3
            omega
          exact ⟨d, d1, up d d2, by rw [lv d d2 dn, go j hj' c]; exact d3, by rw [lo_ d d2, lo_ j hj']; exact d4⟩
  · have key : ∀ a b, pg (N + 2) a → pg (N + 2) b → a ≠ b → (G a).lv = (G b).lv → ((G a).hi ≠ noE ∧ ¬ (lo' b).lt (G a).hi) ∨ ((G b).hi ≠ noE ∧ ¬ (lo' a).lt (G b).hi) := by
      have tall : ∀ j, pg (N + 2) j → j ≠ 1 → (G j).lv ≤ (F 1).lv ∧ (j ≠ N → j ≠ N + 1 → (G j).lv < (F 1).lv) := by
        intro j hj j1
        by_cases a : j = N
        · rw [a, lvN]; exact ⟨Nat.le_refl _, fun z => absurd rfl z⟩
        · by_cases b : j = N + 1
          · rw [b, lvM]; exact ⟨Nat.le_refl _, fun _ z => absurd rfl z⟩
          · have hj' := old j hj a b
            rw [lv j hj' j1]
            have := h.top j hj' j1
            exact ⟨by omega, fun _ _ => this⟩
      intro a b ha hb' hab hv
      by_cases a1 : a = 1
      · have := (tall b hb' (fun z => hab (a1.trans z.symm))).1
        rw [a1, lv1] at hv
        omega
      · by_cases b1 : b = 1
        · have := (tall a ha a1).1
          rw [b1, lv1] at hv
          omega
        · have ta := tall a ha a1
          have tb := tall b hb' b1
          by_cases aN : a = N
          · by_cases bM : b = N + 1
            · rw [aN, bM, gN, lM]
              exact .inl ⟨En.ok_ne hb.1, En.lt_irrefl _⟩
            · have := tb.2 (fun z => hab (aN.trans z.symm)) bM
              rw [aN, lvN] at hv
              omega
          · by_cases aM : a = N + 1
            · by_cases bN : b = N
              · rw [aM, bN, gN, lM]
                exact .inr ⟨En.ok_ne hb.1, En.lt_irrefl _⟩
              · have := tb.2 bN (fun z => hab (aM.trans z.symm))
                rw [aM, lvM] at hv
                omega
            · have x := ta.2 aN aM
              by_cases bN : b = N
              · rw [bN, lvN] at hv; omega
              · by_cases bM : b = N + 1
                · rw [bM, lvM] at hv; omega
                · have ha' := old a ha aN aM
                  have hb2 := old b hb' bN bM
                  rw [go a ha' a1, go b hb2 b1] at hv ⊢
                  rw [lo_ a ha', lo_ b hb2]
                  exact h.apart a b ha' hb2 hab hv
    exact key
  · rw [g1, lo_ 1 hp]
    exact ⟨rfl, h.root.2⟩
  · intro j hj j1
    rw [lv1]
    by_cases a : j = N
    · rw [a, lvN]; omega
    · by_cases b : j = N + 1
      · rw [b, lvM]; omega
      · have hj' := old j hj a b
        rw [lv j hj' j1]
        have := h.top j hj' j1
        omega
  · intro j hj hv e
    by_cases a : j = N
    · rw [a, lvN] at hv
      rw [a, gN, lN, (hok.parts hv hn (N + 1) e).1, h.cont 1 hp hv e, h.root.2, h.root.1]
      show (_ ∧ _) ↔ (A e ∧ _ ∧ byd (F 1).bord e = false)
      constructor
      · rintro ⟨⟨x, y, _⟩, d⟩; exact ⟨x, y, byd_no.2 (.inr d)⟩
      · rintro ⟨x, y, c⟩
        rcases byd_no.1 c with c | d
        · exact absurd c (En.ok_ne hb.1)
        · exact ⟨⟨x, y, byd_noE e⟩, d⟩
    · by_cases b : j = N + 1
      · rw [b, lvM] at hv
        rw [b, gM, lM, (hok.parts hv hn 0 e).2, h.cont 1 hp hv e, h.root.2]
        show (_ ∧ _) ↔ (A e ∧ _ ∧ byd (F 1).hi e = false)
        constructor
        · rintro ⟨⟨x, y, c⟩, d⟩; exact ⟨x, d, c⟩
        · rintro ⟨x, d, c⟩; exact ⟨⟨x, En.lt_trans hb.2.1 d, c⟩, d⟩
      · have hj' := old j hj a b
        by_cases c : j = 1
        · rw [c, lv1] at hv; omega
        · rw [go j hj' c] at hv ⊢
          rw [lo_ j hj']
          exact h.cont j hj' hv e
end Split
end Go.Proofs.YthjjkhacniebiaaGreat
