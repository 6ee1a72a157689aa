/- Trees of nodes as plain data: nodes on pages, what bounds them, the way of an entry, an entry that comes in or goes out. -/
import Derived.Test.YthjjkhacniebiaaGreatK06
namespace Go.Proofs.YthjjkhacniebiaaGreat
open Go.RowKit

/-- At most: not behind. -/
theorem En.le_lt {a b c : En} (h : ¬ b.lt a) (k : b.lt c) : a.lt c := by
  by_cases e : a = b
  · rw [e]; exact k
  · rcases En.lt_total e with l | l
    · exact En.lt_trans l k
    · exact absurd l h
theorem En.lt_le {a b c : En} (h : a.lt b) (k : ¬ c.lt b) : a.lt c := by
  by_cases e : b = c
  · rw [← e]; exact h
  · rcases En.lt_total e with l | l
    · exact En.lt_trans h l
    · exact absurd l k
theorem En.le_le {a b c : En} (h : ¬ b.lt a) (k : ¬ c.lt b) : ¬ c.lt a := fun l => h (by
  by_cases e : b = c
  · rw [e]; exact l
  · rcases En.lt_total e with m | m
    · exact En.lt_trans m l
    · exact absurd m k)
theorem byd_yes {h e : En} : byd h e = true ↔ (h ≠ noE ∧ h.lt e) := by unfold byd; simp
theorem blw_yes {h e : En} : blw h e = true ↔ (h = noE ∨ e.lt h) := by unfold blw; simp

/-- A node as plain data; a leaf's children are noughts. -/
structure Nd where
  lv : Nat
  rt : Nat
  hi : En
  ks : List (En × Int)
instance : Inhabited Nd := ⟨⟨0, 0, noE, []⟩⟩
def Nd.es (x : Nd) : List En := x.ks.map Prod.fst
def itB (v : Nat) (k : En × Int) : ByteArray := if v = 0 then k.1.enc else k.1.encS k.2
def Nd.items (x : Nd) : List ByteArray := x.ks.map (itB x.lv)
def hiB (h : En) : ByteArray := if h = noE then ⟨#[]⟩ else h.enc
def Nd.size (x : Nd) : Nat := 20 + (hiB x.hi).size + isz x.items
theorem Nd.es_len (x : Nd) : x.es.length = x.ks.length := by unfold Nd.es; simp
theorem Nd.items_len (x : Nd) : x.items.length = x.ks.length := by unfold Nd.items; simp

/-- A node that may stand where nothing up to lo belongs. -/
structure Nd.Ok (x : Nd) (lo : En) : Prop where
  rise : Rise x.es
  hiok : x.hi = noE ∨ (x.hi.ok = true ∧ lo.lt x.hi)
  leaf : x.lv = 0 → ∀ k ∈ x.ks, k.1.ok = true ∧ k.2 = 0 ∧ lo.lt k.1 ∧ byd x.hi k.1 = false
  first : 0 < x.lv → ∃ c r, x.ks = (noE, c) :: r
  inner : 0 < x.lv → ∀ k ∈ x.ks.tail, k.1.ok = true ∧ lo.lt k.1 ∧ blw x.hi k.1 = true
  size : x.size ≤ 512

def pg (N i : Nat) : Prop := 1 ≤ i ∧ i < N
/-- Nodes on the pages from 1 to N - 1; A: what was entered. -/
structure Fst (N : Nat) (F : Nat → Nd) (lo : Nat → En) (A : En → Prop) : Prop where
  two : 2 ≤ N
  aok : ∀ e, A e → e.ok = true
  ok : ∀ i, pg N i → (F i).Ok (lo i)
  low : ∀ i, pg N i → lo i = noE ∨ (lo i).ok = true
  last : ∀ i, pg N i → (F i).hi = noE → (F i).rt = 0
  next : ∀ i, pg N i → (F i).hi ≠ noE → pg N (F i).rt ∧ (F (F i).rt).lv = (F i).lv ∧ lo (F i).rt = (F i).hi
  kid : ∀ i, pg N i → 0 < (F i).lv → ∀ k ∈ (F i).ks, ∃ c : Nat, k.2 = (c : Int) ∧ pg N c ∧ (F c).lv + 1 = (F i).lv ∧ lo c = (if k.1 = noE then lo i else k.1)
  apart : ∀ i j, pg N i → pg N j → i ≠ j → (F i).lv = (F j).lv → ((F i).hi ≠ noE ∧ ¬ (lo j).lt (F i).hi) ∨ ((F j).hi ≠ noE ∧ ¬ (lo i).lt (F j).hi)
  root : (F 1).hi = noE ∧ lo 1 = noE
  top : ∀ j, pg N j → j ≠ 1 → (F j).lv < (F 1).lv
  cont : ∀ i, pg N i → (F i).lv = 0 → ∀ e, e ∈ (F i).es ↔ (A e ∧ (lo i).lt e ∧ byd (F i).hi e = false)

/-- The child that leads to an entry. -/
def chK (ks : List (En × Int)) (e : En) : Int := (ks.getD (plE (ks.map Prod.fst) e - 1) (noE, 0)).2

theorem plE_cons_pos {x e : En} {es : List En} (h : x.lt e) : plE (x :: es) e = plE es e + 1 := by
  unfold plE
  rw [List.countP_cons_of_pos (by simpa using h)]
/-- How far it is yet. -/
def mu (N : Nat) (F : Nat → Nd) (lo : Nat → En) (i : Nat) : Nat := (List.range N).countP (fun j => decide (1 ≤ j ∧ ((F j).lv < (F i).lv ∨ ((F j).lv = (F i).lv ∧ (lo i).lt (lo j)))))
theorem countP_less {α : Type} {p q : α → Bool} {l : List α} (h : ∀ x ∈ l, p x = true → q x = true) {y : α} (hy : y ∈ l) (h1 : p y = false) (h2 : q y = true) : l.countP p < l.countP q := by
  induction l with
  | nil => cases hy
  | cons z l ih =>
    have hm : l.countP p ≤ l.countP q := by
      clear ih hy
      induction l with
      | nil => simp
      | cons u l ih =>
        have a := ih (fun x hx => h x (by rcases List.mem_cons.1 hx with rfl | hx; exact List.mem_cons_self ..; exact List.mem_cons_of_mem _ (List.mem_cons_of_mem _ hx)))
        have b := h u (by simp)
        rw [List.countP_cons, List.countP_cons]
        by_cases c : p u = true
        · rw [if_pos c, if_pos (b c)]; omega
        · rw [if_neg c]; split <;> omega
    rw [List.countP_cons, List.countP_cons]
    rcases List.mem_cons.1 hy with rfl | hy
    · rw [if_pos h2, if_neg (by rw [h1]; decide)]; omega
    · have a := ih (fun x hx => h x (List.mem_cons_of_mem _ hx)) hy
      by_cases c : p z = true
      · rw [if_pos c, if_pos (h z (List.mem_cons_self ..) c)]; omega
      · rw [if_neg c]; split <;> omega
theorem mu_le (N : Nat) (F : Nat → Nd) (lo : Nat → En) (i : Nat) : mu N F lo i ≤ N := by
  unfold mu
  have h := List.countP_le_length (p := fun j => decide (1 ≤ j ∧ ((F j).lv < (F i).lv ∨ ((F j).lv = (F i).lv ∧ (lo i).lt (lo j))))) (l := List.range N)
  rw [List.length_range] at h
  exact h
theorem mu_less {N : Nat} {F : Nat → Nd} {lo : Nat → En} {i j : Nat} (hj : pg N j) (h : (F j).lv < (F i).lv ∨ ((F j).lv = (F i).lv ∧ (lo i).lt (lo j))) : mu N F lo j < mu N F lo i := by
  unfold mu
  refine countP_less ?_ (y := j) (List.mem_range.2 hj.2) ?_ ?_
  · intro k _ hk
    simp only [decide_eq_true_eq] at hk ⊢
    refine ⟨hk.1, ?_⟩
    rcases hk.2 with a | ⟨a, b⟩
    · rcases h with c | ⟨c, _⟩
      · exact .inl (by omega)
      · exact .inl (by omega)
    · rcases h with c | ⟨c, d⟩
      · exact .inl (by omega)
      · exact .inr ⟨by omega, En.lt_trans d b⟩
  · simp only [decide_eq_false_iff_not]
    rintro ⟨_, a | ⟨_, a⟩⟩
    · omega
    · exact En.lt_irrefl _ a
  · simp only [decide_eq_true_eq]
    exact ⟨hj.1, h⟩
section Way
variable {N : Nat} {F : Nat → Nd} {lo : Nat → En} {A : En → Prop} {i : Nat} {e : En}
theorem Fst.right (h : Fst N F lo A) (hp : pg N i) (hb : byd (F i).hi e = true) : pg N (F i).rt ∧ (F (F i).rt).lv = (F i).lv ∧ (lo (F i).rt).lt e ∧ mu N F lo (F i).rt < mu N F lo i := by
  obtain ⟨b1, b2⟩ := byd_yes.1 hb
  obtain ⟨n1, n2, n3⟩ := h.next i hp b1
  refine ⟨n1, n2, by rw [n3]; exact b2, mu_less n1 (.inr ⟨n2, ?_⟩)⟩
  rw [n3]
  rcases (h.ok i hp).hiok with x | x
  · exact absurd x b1
  · exact x.2
theorem Nd.Ok.child {x : Nd} {l : En} (h : x.Ok l) (hv : 0 < x.lv) (he : e.ok = true) (hl : l.lt e) : ∃ k ∈ x.ks, chK x.ks e = k.2 ∧ (if k.1 = noE then l else k.1).lt e := by
  obtain ⟨c, r, hr⟩ := h.first hv
  have hes : x.ks.map Prod.fst = noE :: r.map Prod.fst := by rw [hr]; rfl
  have hpl := plE_cons_pos (es := r.map Prod.fst) (noE_lt he)
  have hle := plE_le (r.map Prod.fst) e
  rw [List.length_map] at hle
  have hlt : plE (x.ks.map Prod.fst) e - 1 < x.ks.length := by rw [hes, hpl, hr]; simp; omega
  refine ⟨x.ks[plE (x.ks.map Prod.fst) e - 1], List.getElem_mem _, ?_, ?_⟩
  · unfold chK
    rw [List.getD_eq_getElem?_getD, List.getElem?_eq_getElem hlt, Option.getD_some]
  · split
    · exact hl
    · have hs := (plE_spec h.rise e).1
      refine hs _ ?_
      unfold Nd.es
      rw [← List.map_take]
      refine List.mem_map_of_mem ?_
      rw [List.mem_take_iff_getElem]
      exact ⟨plE (x.ks.map Prod.fst) e - 1, by rw [hes, hpl] at hlt ⊢; omega, rfl⟩
theorem Fst.down (h : Fst N F lo A) (hp : pg N i) (he : e.ok = true) (hl : (lo i).lt e) (hv : 0 < (F i).lv) : ∃ c : Nat, chK (F i).ks e = (c : Int) ∧ pg N c ∧ (F c).lv + 1 = (F i).lv ∧ (lo c).lt e ∧ mu N F lo c < mu N F lo i := by
  obtain ⟨k, hk, h1, h2⟩ := (h.ok i hp).child hv he hl
  obtain ⟨c, c1, c2, c3, c4⟩ := h.kid i hp hv k hk
  exact ⟨c, h1.trans c1, c2, c3, by rw [c4]; exact h2, mu_less c2 (.inl (by omega))⟩
end Way

/-- One more, in its place. -/
def insK (ks : List (En × Int)) (e : En) (c : Int) : List (En × Int) := ks.take (plE (ks.map Prod.fst) e) ++ (e, c) :: ks.drop (plE (ks.map Prod.fst) e)
theorem insK_fst (ks : List (En × Int)) (e : En) (c : Int) : (insK ks e c).map Prod.fst = insE (ks.map Prod.fst) e := by unfold insK insE; simp
theorem insK_len (ks : List (En × Int)) (e : En) (c : Int) : (insK ks e c).length = ks.length + 1 := by
  have h := congrArg List.length (List.take_append_drop (plE (ks.map Prod.fst) e) ks)
  unfold insK
  simp only [List.length_append, List.length_cons] at h ⊢
  omega
theorem insK_mem {ks : List (En × Int)} {e : En} {c : Int} {k : En × Int} : k ∈ insK ks e c ↔ k = (e, c) ∨ k ∈ ks := by
  unfold insK
  rw [List.mem_append, List.mem_cons]
  have : k ∈ ks ↔ k ∈ ks.take (plE (ks.map Prod.fst) e) ∨ k ∈ ks.drop (plE (ks.map Prod.fst) e) := by rw [← List.mem_append, List.take_append_drop]
  rw [this]
  constructor
  · rintro (h | h | h)
    · exact .inr (.inl h)
    · exact .inl h
    · exact .inr (.inr h)
  · rintro (h | h | h)
    · exact .inr (.inl h)
    · exact .inl h
    · exact .inr (.inr h)
theorem insK_cons {x : En} {d : Int} {r : List (En × Int)} {e : En} {c : Int} (h : x.lt e) : insK ((x, d) :: r) e c = (x, d) :: insK r e c := by
  unfold insK
  rw [List.map_cons, plE_cons_pos h]
  rfl
def Nd.ins (x : Nd) (e : En) (c : Int) : Nd := { x with ks := insK x.ks e c }
theorem isz_mid (l : List ByteArray) (i : Nat) (s : ByteArray) : isz (l.take i ++ s :: l.drop i) = isz l + (2 + s.size) := by
  have h := congrArg isz (List.take_append_drop i l)
  rw [isz_app] at h
  rw [isz_app, isz_cons]
  omega
theorem Nd.ins_items (x : Nd) (e : En) (c : Int) : (x.ins e c).items = x.items.take (plE x.es e) ++ itB x.lv (e, c) :: x.items.drop (plE x.es e) := by
  unfold Nd.ins Nd.items insK Nd.es
  simp
theorem Nd.ins_size (x : Nd) (e : En) (c : Int) : (x.ins e c).size = x.size + (2 + (itB x.lv (e, c)).size) := by
  unfold Nd.size
  rw [Nd.ins_items, isz_mid]
  show 20 + (hiB x.hi).size + _ = _
  omega
theorem Nd.ins_es (x : Nd) (e : En) (c : Int) : (x.ins e c).es = insE x.es e := insK_fst _ _ _
theorem Nd.Ok.ins {x : Nd} {lo e : En} {c : Int} (h : x.Ok lo) (he : e.ok = true) (hl : lo.lt e) (hn : e ∉ x.es) (h0 : x.lv = 0 → byd x.hi e = false ∧ c = 0) (h1 : 0 < x.lv → blw x.hi e = true) (hs : (x.ins e c).size ≤ 512) : (x.ins e c).Ok lo := by
  refine ⟨?_, h.hiok, ?_, ?_, ?_, hs⟩
  · rw [Nd.ins_es]; exact insE_rise h.rise hn
  · intro hv k hk
    rcases insK_mem.1 hk with rfl | hk
    · exact ⟨he, (h0 hv).2, hl, (h0 hv).1⟩
    · exact h.leaf hv k hk
  · intro hv
    obtain ⟨d, r, hr⟩ := h.first hv
    refine ⟨d, insK r e c, ?_⟩
    show insK x.ks e c = _
    rw [hr, insK_cons (noE_lt he)]
  · intro hv k hk
    obtain ⟨d, r, hr⟩ := h.first hv
    have ht : (x.ins e c).ks.tail = insK r e c := by
      show (insK x.ks e c).tail = _
      rw [hr, insK_cons (noE_lt he)]
      rfl
    rw [ht] at hk
    rcases insK_mem.1 hk with rfl | hk
    · exact ⟨he, hl, h1 hv⟩
    · exact h.inner hv k (by rw [hr]; exact hk)

def upd {α : Type} (F : Nat → α) (i : Nat) (x : α) : Nat → α := fun j => if j = i then x else F j
theorem upd_same {α : Type} (F : Nat → α) (i : Nat) (x : α) : upd F i x i = x := by unfold upd; rw [if_pos rfl]
theorem upd_other {α : Type} (F : Nat → α) {i j : Nat} (x : α) (h : j ≠ i) : upd F i x j = F j := by unfold upd; rw [if_neg h]

/-- A node of another list: what is bound by nothing but it. -/
theorem Fst.swap {N : Nat} {F : Nat → Nd} {lo : Nat → En} {A A' : En → Prop} (h : Fst N F lo A) {i : Nat} (hp : pg N i) {ks : List (En × Int)} (ha : ∀ e, A' e → e.ok = true) (hok : Nd.Ok { F i with ks := ks } (lo i))
    (hk : 0 < (F i).lv → ∀ k ∈ ks, ∃ c : Nat, k.2 = (c : Int) ∧ pg N c ∧ (F c).lv + 1 = (F i).lv ∧ lo c = (if k.1 = noE then lo i else k.1))
    (hc : (F i).lv = 0 → ∀ e, e ∈ ks.map Prod.fst ↔ (A' e ∧ (lo i).lt e ∧ byd (F i).hi e = false))
    (ho : ∀ j, pg N j → j ≠ i → (F j).lv = 0 → ∀ e, (lo j).lt e → byd (F j).hi e = false → (A' e ↔ A e)) : Fst N (upd F i { F i with ks := ks }) lo A' := by
  have e1 : ∀ j, (upd F i { F i with ks := ks } j).lv = (F j).lv ∧ (upd F i { F i with ks := ks } j).hi = (F j).hi ∧ (upd F i { F i with ks := ks } j).rt = (F j).rt := by
    intro j
    by_cases e : j = i
    · subst e; rw [upd_same]; exact ⟨rfl, rfl, rfl⟩
    · rw [upd_other _ _ e]; exact ⟨rfl, rfl, rfl⟩
  refine ⟨h.two, ha, ?_, h.low, ?_, ?_, ?_, ?_, ?_, ?_, ?_⟩
  · intro j hj
    by_cases e : j = i
    · subst e; rw [upd_same]; exact hok
    · rw [upd_other _ _ e]; exact h.ok j hj
  · intro j hj
    rw [(e1 j).2.1, (e1 j).2.2]; exact h.last j hj
  · intro j hj
    rw [(e1 j).2.1, (e1 j).2.2, (e1 j).1, (e1 _).1]; exact h.next j hj
  · intro j hj hv k hkk
    rw [(e1 j).1] at hv ⊢
    by_cases e : j = i
    · subst e
      rw [upd_same] at hkk
      obtain ⟨c, c1, c2, c3, c4⟩ := hk hv k hkk
      exact ⟨c, c1, c2, by rw [(e1 c).1]; exact c3, c4⟩
    · rw [upd_other _ _ e] at hkk
      obtain ⟨c, c1, c2, c3, c4⟩ := h.kid j hj hv k hkk
      exact ⟨c, c1, c2, by rw [(e1 c).1]; exact c3, c4⟩
  · intro a b ha hb hab hv
    rw [(e1 a).1, (e1 b).1] at hv
    rw [(e1 a).2.1, (e1 b).2.1]
    exact h.apart a b ha hb hab hv
  · rw [(e1 1).2.1]; exact h.root
  · intro j hj hj1
    rw [(e1 j).1, (e1 1).1]; exact h.top j hj hj1
  · intro j hj hv e
    rw [(e1 j).1] at hv
    rw [(e1 j).2.1]
    by_cases q : j = i
    · subst q
      rw [upd_same]
      exact hc hv e
    · rw [upd_other _ _ q, h.cont j hj hv e]
      constructor
      · rintro ⟨a, b, c⟩; exact ⟨(ho j hj q hv e b c).2 a, b, c⟩
      · rintro ⟨a, b, c⟩; exact ⟨(ho j hj q hv e b c).1 a, b, c⟩
/-- Two nodes of a level to which one entry belongs are one. -/
theorem Fst.one {N : Nat} {F : Nat → Nd} {lo : Nat → En} {A : En → Prop} (h : Fst N F lo A) {i j : Nat} {e : En} (hi : pg N i) (hj : pg N j) (hv : (F i).lv = (F j).lv) (a1 : (lo i).lt e) (a2 : byd (F i).hi e = false) (b1 : (lo j).lt e) (b2 : byd (F j).hi e = false) : i = j := by
  by_cases q : i = j
  · exact q
  · exfalso
    rcases h.apart i j hi hj q hv with ⟨c, d⟩ | ⟨c, d⟩
    · rcases byd_no.1 a2 with k | k
      · exact c k
      · exact d (En.lt_le b1 k)
    · rcases byd_no.1 b2 with k | k
      · exact c k
      · exact d (En.lt_le a1 k)
theorem Fst.ins {N : Nat} {F : Nat → Nd} {lo : Nat → En} {A : En → Prop} (h : Fst N F lo A) {i : Nat} {e : En} {c : Int} (hp : pg N i) (he : e.ok = true) (hl : (lo i).lt e) (hn : e ∉ (F i).es) (h0 : (F i).lv = 0 → byd (F i).hi e = false ∧ c = 0)
    (h1 : 0 < (F i).lv → blw (F i).hi e = true ∧ ∃ d : Nat, c = (d : Int) ∧ pg N d ∧ (F d).lv + 1 = (F i).lv ∧ lo d = e) (hs : ((F i).ins e c).size ≤ 512) : Fst N (upd F i ((F i).ins e c)) lo (fun x => A x ∨ ((F i).lv = 0 ∧ x = e)) := by
  refine h.swap hp ?_ ((h.ok i hp).ins he hl hn h0 (fun v => (h1 v).1) hs) ?_ ?_ ?_
  · rintro x (k | ⟨_, rfl⟩)
    · exact h.aok x k
    · exact he
  · intro hv k hk
    rcases insK_mem.1 hk with rfl | hk
    · obtain ⟨_, d, d1, d2, d3, d4⟩ := h1 hv
      exact ⟨d, d1, d2, d3, by rw [if_neg (En.ok_ne he)]; exact d4⟩
    · exact h.kid i hp hv k hk
  · intro hv x
    rw [insK_fst, insE_mem]
    have hx := h.cont i hp hv x
    unfold Nd.es at hx
    rw [hx]
    constructor
    · rintro (rfl | ⟨a, b⟩)
      · exact ⟨.inr ⟨hv, rfl⟩, hl, (h0 hv).1⟩
      · exact ⟨.inl a, b⟩
    · rintro ⟨a | ⟨_, rfl⟩, b⟩
      · exact .inr ⟨a, b⟩
      · exact .inl rfl
  · intro j hj q hv x b1 b2
    constructor
    · rintro (a | ⟨a, rfl⟩)
      · exact a
      · exact absurd (h.one hj hp (by omega) b1 b2 hl (h0 a).1) q
    · exact .inl
/-- One less. -/
def remK (ks : List (En × Int)) (e : En) : List (En × Int) := ks.take (plE (ks.map Prod.fst) e) ++ ks.drop (plE (ks.map Prod.fst) e + 1)
def Nd.rem (x : Nd) (e : En) : Nd := { x with ks := remK x.ks e }
theorem plE_here {es : List En} {e : En} (hr : Rise es) (he : e ∈ es) : ∃ h : plE es e < es.length, es[plE es e] = e := by
  obtain ⟨k, hk, rfl⟩ := List.mem_iff_getElem.1 he
  have hp : plE es es[k] = k := by
    refine plE_of (Nat.le_of_lt hk) ?_ ?_
    · intro x hx
      obtain ⟨j, hj, rfl⟩ := List.mem_take_iff_getElem.1 hx
      exact (List.pairwise_iff_getElem.1 hr) j k (by omega) hk (by omega)
    · intro x hx
      obtain ⟨j, hj, rfl⟩ := List.mem_drop_iff_getElem.1 hx
      intro l
      rcases Nat.eq_zero_or_pos j with z | z
      · subst z; exact En.lt_irrefl _ (by simpa using l)
      · exact En.lt_asymm l ((List.pairwise_iff_getElem.1 hr) k (k + j) hk (by omega) (by omega))
  exact ⟨by rw [hp]; exact hk, by congr 1⟩
theorem remK_fst (ks : List (En × Int)) (e : En) : (remK ks e).map Prod.fst = (ks.map Prod.fst).take (plE (ks.map Prod.fst) e) ++ (ks.map Prod.fst).drop (plE (ks.map Prod.fst) e + 1) := by unfold remK; simp
theorem remE_mem {es : List En} {e x : En} (hr : Rise es) (he : e ∈ es) : x ∈ es.take (plE es e) ++ es.drop (plE es e + 1) ↔ x ∈ es ∧ x ≠ e := by
  obtain ⟨h1, h2⟩ := plE_here hr he
  obtain ⟨s1, _⟩ := plE_spec hr e
  have hd : es.drop (plE es e) = e :: es.drop (plE es e + 1) := by rw [List.drop_eq_getElem_cons h1, h2]
  have hm : x ∈ es ↔ x ∈ es.take (plE es e) ∨ x ∈ es.drop (plE es e) := by rw [← List.mem_append, List.take_append_drop]
  have hp : Rise (es.drop (plE es e)) := hr.sublist (List.drop_sublist _ _)
  rw [hd] at hm hp
  rw [hm, List.mem_append, List.mem_cons]
  constructor
  · rintro (k | k)
    · exact ⟨.inl k, En.lt_ne (s1 x k)⟩
    · exact ⟨.inr (.inr k), fun q => En.lt_ne ((List.pairwise_cons.1 hp).1 x k) q.symm⟩
  · rintro ⟨k | k | k, q⟩
    · exact .inl k
    · exact absurd k q
    · exact .inr k
theorem remK_sub (ks : List (En × Int)) (e : En) : (remK ks e).Sublist ks := by
  have h : (ks.take (plE (ks.map Prod.fst) e) ++ ks.drop (plE (ks.map Prod.fst) e + 1)).Sublist (ks.take (plE (ks.map Prod.fst) e) ++ ks.drop (plE (ks.map Prod.fst) e)) := (List.drop_sublist_drop_left ks (Nat.le_succ _)).append_left _
  rw [List.take_append_drop] at h
  exact h
theorem isz_sub {l m : List ByteArray} (h : l.Sublist m) : isz l ≤ isz m := by
  induction h with
  | slnil => exact Nat.le_refl _
  | cons a _ ih => rw [isz_cons]; omega
  | cons_cons a _ ih => rw [isz_cons, isz_cons]; omega
theorem Fst.rem {N : Nat} {F : Nat → Nd} {lo : Nat → En} {A : En → Prop} (h : Fst N F lo A) {i : Nat} {e : En} (hp : pg N i) (hv : (F i).lv = 0) (hm : e ∈ (F i).es) : Fst N (upd F i ((F i).rem e)) lo (fun x => A x ∧ x ≠ e) := by
  have hk := h.ok i hp
  have hbe := ((h.cont i hp hv e).1 hm)
  refine h.swap hp (fun x k => h.aok x k.1) ?_ (fun z => absurd hv (by omega)) ?_ ?_
  · refine ⟨?_, hk.hiok, fun _ k hkk => hk.leaf hv k ((remK_sub _ _).mem hkk), fun z => absurd hv (by show ¬ (F i).lv = 0; exact Nat.pos_iff_ne_zero.1 z), fun z => absurd hv (by show ¬ (F i).lv = 0; exact Nat.pos_iff_ne_zero.1 z), ?_⟩
    · exact hk.rise.sublist ((remK_sub _ _).map _)
    · have hz := hk.size
      unfold Nd.size at hz ⊢
      have hq := isz_sub (((remK_sub (F i).ks e).map (itB (F i).lv)))
      unfold Nd.items at hz ⊢
      simp only [] at hz hq ⊢
      omega
  · intro _ x
    rw [remK_fst]
    have hr2 : Rise ((F i).ks.map Prod.fst) := hk.rise
    have hm2 : e ∈ (F i).ks.map Prod.fst := hm
    rw [remE_mem hr2 hm2]
    have hx := h.cont i hp hv x
    unfold Nd.es at hx
    rw [hx]
    constructor
    · rintro ⟨⟨a, b⟩, c⟩; exact ⟨⟨a, c⟩, b⟩
    · rintro ⟨⟨a, c⟩, b⟩; exact ⟨⟨a, b⟩, c⟩
  · intro j hj q hvj x b1 b2
    constructor
    · exact fun k => k.1
    · intro k
      refine ⟨k, fun z => ?_⟩
      rw [z] at b1 b2
      exact q (h.one hj hp (by omega) b1 b2 hbe.2.1 hbe.2.2)
end Go.Proofs.YthjjkhacniebiaaGreat
