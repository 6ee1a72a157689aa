/- The table of open transactions in memory. -/
import Derived.Test.YtmcghpeamnmbpaaOMap
import Derived.Test.YtmcghpeamnmbpaaOShelfA
namespace Go.Proofs.Ytmcghpeamnmbpaa
open Go.RowKit Go.Maps

/-- Where a transaction's list may lie: in the table's blocks, but where nothing is written. -/
def Qz (Z : Nat → Prop) (t m : Nat) (g : Gm) (k : Nat) : Prop := Z k ∧ k ≠ t ∧ k ≠ m ∧ ∀ c, g c ≠ some k
/-- The table: its struct in block t, its map in m, the transactions' blocks by g, all blocks in Z. -/
structure Tabg (w : World) (Z : Nat → Prop) (t m n : Nat) (g : Gm) (f : Tt) : Prop where
  c0 : w.cell? ⟨t, 0, none⟩ = some (.map (some m))
  lt : t < w.heap.size
  own : Opm w m n g
  ne : t ≠ m
  zt : Z t
  zm : Z m
  dom : ∀ a, (g a).isSome = (f a).isSome
  at_ : ∀ a b, g a = some b → ∃ s x, f a = some x ∧ Txm w b s x ∧ Nm w (Qz Z t m g) s.ao x.act ∧ Z b ∧ b ≠ t ∧ b ≠ m
  inj : ∀ a c b, g a = some b → g c = some b → a = c
  ok : f.Ok n
def Tab (w : World) (Z : Nat → Prop) (t m n : Nat) (f : Tt) : Prop := ∃ g, Tabg w Z t m n g f
/-- And all blocks from b on. -/
def Zp (Z : Nat → Prop) (b : Nat) (k : Nat) : Prop := Z k ∨ b ≤ k
theorem Tabg.kept {S Z : Nat → Prop} {w w' : World} {t m n : Nat} {g : Gm} {f : Tt} (H : Tabg w Z t m n g f) (ho : Only S w w') (hS : ∀ k, k < w.heap.size → Z k → ¬ S k) : Tabg w' Z t m n g f := by
  have h0 := hS t H.lt H.zt
  have h1 := hS m H.own.lt H.zm
  refine ⟨(ho.cell (p := ⟨t, 0, none⟩) H.lt h0).trans H.c0, Nat.lt_of_lt_of_le H.lt ho.size, H.own.kept ho h1, H.ne, H.zt, H.zm, H.dom, fun a b e => ?_, H.inj, H.ok⟩
  obtain ⟨s, x, e1, hx, hn, hz, h2, h3⟩ := H.at_ a b e
  exact ⟨s, x, e1, hx.kept ho (hS b hx.lt hz), hn.kept ho (fun k hk hq => hS k hk hq.1), hz, h2, h3⟩
theorem Tabg.more {Z : Nat → Prop} {w w' : World} {t m n : Nat} {g : Gm} {f : Tt} (H : Tabg w Z t m n g f) (ho : Only (fun _ => False) w w') : Tabg w' Z t m n g f := H.kept ho (fun _ _ _ => id)
theorem Tabg.wide {Z Y : Nat → Prop} {w : World} {t m n : Nat} {g : Gm} {f : Tt} (H : Tabg w Z t m n g f) (hY : ∀ k, Z k → Y k) : Tabg w Y t m n g f := by
  refine ⟨H.c0, H.lt, H.own, H.ne, hY _ H.zt, hY _ H.zm, H.dom, fun a b e => ?_, H.inj, H.ok⟩
  obtain ⟨s, x, e1, hx, hn, hz, h2, h3⟩ := H.at_ a b e
  exact ⟨s, x, e1, hx, hn.mono (fun k _ hq => ⟨hY k hq.1, hq.2⟩), hY _ hz, h2, h3⟩
theorem Tabg.mono {Z : Nat → Prop} {w : World} {t m n n' : Nat} {g : Gm} {f : Tt} (H : Tabg w Z t m n g f) (hn : n ≤ n') : Tabg w Z t m n' g f :=
  ⟨H.c0, H.lt, H.own.mono hn, H.ne, H.zt, H.zm, H.dom, H.at_, H.inj, H.ok.mono hn⟩
theorem Tab.kept {S Z : Nat → Prop} {w w' : World} {t m n : Nat} {f : Tt} (H : Tab w Z t m n f) (ho : Only S w w') (hS : ∀ k, k < w.heap.size → Z k → ¬ S k) : Tab w' Z t m n f := by
  obtain ⟨g, H⟩ := H
  exact ⟨g, H.kept ho hS⟩
theorem Tab.more {Z : Nat → Prop} {w w' : World} {t m n : Nat} {f : Tt} (H : Tab w Z t m n f) (ho : Only (fun _ => False) w w') : Tab w' Z t m n f := H.kept ho (fun _ _ _ => id)
theorem Tab.wide {Z Y : Nat → Prop} {w : World} {t m n : Nat} {f : Tt} (H : Tab w Z t m n f) (hY : ∀ k, Z k → Y k) : Tab w Y t m n f := by
  obtain ⟨g, H⟩ := H
  exact ⟨g, H.wide hY⟩
theorem Tab.mono {Z : Nat → Prop} {w : World} {t m n n' : Nat} {f : Tt} (H : Tab w Z t m n f) (hn : n ≤ n') : Tab w Z t m n' f := by
  obtain ⟨g, H⟩ := H
  exact ⟨g, H.mono hn⟩
theorem Tabg.no {Z : Nat → Prop} {w : World} {t m n : Nat} {g : Gm} {f : Tt} (H : Tabg w Z t m n g f) {a : Int} (h : f a = none) : g a = none := by
  have := H.dom a
  rw [h] at this
  simpa using this
theorem Tabg.yes {Z : Nat → Prop} {w : World} {t m n : Nat} {g : Gm} {f : Tt} (H : Tabg w Z t m n g f) {a : Int} {x : Tx} (h : f a = some x) : ∃ b s, g a = some b ∧ Txm w b s x ∧ Nm w (Qz Z t m g) s.ao x.act ∧ Z b ∧ b ≠ t ∧ b ≠ m := by
  have := H.dom a
  rw [h] at this
  obtain ⟨b, hb⟩ := Option.isSome_iff_exists.1 this
  obtain ⟨s, y, e1, hx, hn, hz, h2, h3⟩ := H.at_ a b hb
  rw [h] at e1
  cases e1
  exact ⟨b, s, hb, hx, hn, hz, h2, h3⟩
/-- A transaction has been turned in its block. -/
theorem Tabg.mod {Z : Nat → Prop} {w w' : World} {t m n n' : Nat} {g : Gm} {f : Tt} (H : Tabg w Z t m n g f) (hn : n ≤ n') {a : Int} {b : Nat} {s : Sp} {x y : Tx} (hf : f a = some x) (hg : g a = some b) (ho : Only (fun i => i = b) w w') (hy : Txm w' b s y) (hact : y.act = x.act) (hNm : Nm w (Qz Z t m g) s.ao x.act) (hok : (f.set a y).Ok n') : Tabg w' Z t m n' g (f.set a y) := by
  obtain ⟨_, _, _, _, _, hz, h2, h3⟩ := H.at_ a b hg
  refine ⟨(ho.cell (p := ⟨t, 0, none⟩) H.lt (Ne.symm h2)).trans H.c0, Nat.lt_of_lt_of_le H.lt ho.size, (H.own.kept ho (Ne.symm h3)).mono hn, H.ne, H.zt, H.zm, fun c => ?_, fun c d e => ?_, H.inj, hok⟩
  · by_cases ec : c = a
    · subst ec
      rw [Tt.set_same, hg]
      rfl
    · rw [Tt.set_other f y ec]
      exact H.dom c
  · by_cases ec : c = a
    · subst ec
      rw [hg] at e
      cases e
      rw [Tt.set_same]
      refine ⟨s, y, rfl, hy, ?_, hz, h2, h3⟩
      rw [hact]
      exact hNm.kept ho (fun k _ hq e => hq.2.2.2 c (by rw [hg, e]))
    · rw [Tt.set_other f y ec]
      obtain ⟨s', x', e1, hx', hn', hz', h2', h3'⟩ := H.at_ c d e
      have hdb : d ≠ b := fun e2 => ec (H.inj c a b (by rw [e, e2]) hg)
      exact ⟨s', x', e1, hx'.kept ho hdb, hn'.kept ho (fun k _ hq e2 => hq.2.2.2 a (by rw [hg, e2])), hz', h2', h3'⟩
/-- One more. -/
theorem Tabg.put {Z : Nat → Prop} {w w' : World} {t m n b0 b : Nat} {g : Gm} {f : Tt} {s : Sp} {x : Tx} (H : Tabg w Z t m n g f) {a : Int} (ha : N64 a) (hf : f a = none) (hb0 : ∀ k, Z k → k < b0 ∨ ¬ k < w.heap.size) (hlow : ∀ c d, g c = some d → d < b0) (ht : t < b0) (hm : m < b0) (hb : b0 ≤ b)
    (hx : Txm w b s x) (hNm : Nm w (fun k => b0 ≤ k ∧ k ≠ b) s.ao x.act) (hop : Opm w' m (n + 1) (g.set a b)) (ho : Only (fun i => i = m) w w') (hok : (f.set a x).Ok (n + 1)) : Tabg w' (Zp Z b0) t m (n + 1) (g.set a b) (f.set a x) := by
  refine ⟨(ho.cell (p := ⟨t, 0, none⟩) H.lt H.ne).trans H.c0, Nat.lt_of_lt_of_le H.lt ho.size, hop, H.ne, .inl H.zt, .inl H.zm, fun c => ?_, fun c d e => ?_, fun c d k e1 e2 => ?_, hok⟩
  · unfold Gm.set Tt.set
    by_cases ec : c = a
    · simp [ec]
    · simp [ec, H.dom c]
  · unfold Gm.set at e
    by_cases ec : c = a
    · subst ec
      rw [if_pos rfl] at e
      cases e
      rw [Tt.set_same]
      refine ⟨s, x, rfl, hx.kept ho (by omega), ?_, .inr hb, by omega, by omega⟩
      refine (hNm.kept ho (fun k _ hq e => by have := hq.1; omega)).mono (fun k _ hq => ⟨.inr hq.1, by have := hq.1; omega, by have := hq.1; omega, fun j ej => ?_⟩)
      unfold Gm.set at ej
      by_cases ec : j = c
      · rw [if_pos ec] at ej
        cases ej
        exact hq.2 rfl
      · rw [if_neg ec] at ej
        have := hlow j k ej
        have := hq.1
        omega
    · rw [if_neg ec] at e
      rw [Tt.set_other f x ec]
      obtain ⟨s', x', e1, hx', hn', hz', h2', h3'⟩ := H.at_ c d e
      refine ⟨s', x', e1, hx'.kept ho h3', ?_, .inl hz', h2', h3'⟩
      refine (hn'.kept ho (fun k _ hq => hq.2.2.1)).mono (fun k hk hq => ⟨.inl hq.1, hq.2.1, hq.2.2.1, fun j ej => ?_⟩)
      unfold Gm.set at ej
      by_cases ec : j = a
      · rw [if_pos ec] at ej
        cases ej
        have hbl := hx.lt
        rcases hb0 b hq.1 with h | h
        · omega
        · exact h hbl
      · rw [if_neg ec] at ej
        exact hq.2.2.2 j ej
  · unfold Gm.set at e1 e2
    by_cases e3 : c = a
    · by_cases e4 : d = a
      · rw [e3, e4]
      · rw [if_pos e3] at e1
        rw [if_neg e4] at e2
        cases e1
        have := hlow d b e2
        omega
    · by_cases e4 : d = a
      · rw [if_neg e3] at e1
        rw [if_pos e4] at e2
        cases e2
        have := hlow c b e1
        omega
      · rw [if_neg e3] at e1
        rw [if_neg e4] at e2
        exact H.inj c d k e1 e2
/-- One less. -/
theorem Tabg.cut {Z : Nat → Prop} {w w' : World} {t m n : Nat} {g : Gm} {f : Tt} (H : Tabg w Z t m n g f) {a : Int} (hop : Opm w' m n (g.drop a)) (ho : Only (fun i => i = m) w w') : Tabg w' Z t m n (g.drop a) (f.drop a) := by
  have k : ∀ c d, g.drop a c = some d → c ≠ a ∧ g c = some d := fun c d e => by
    unfold Gm.drop at e
    by_cases ec : c = a
    · rw [if_pos ec] at e; cases e
    · rw [if_neg ec] at e; exact ⟨ec, e⟩
  refine ⟨(ho.cell (p := ⟨t, 0, none⟩) H.lt H.ne).trans H.c0, Nat.lt_of_lt_of_le H.lt ho.size, hop, H.ne, H.zt, H.zm, fun c => ?_, fun c d e => ?_, fun c d b e1 e2 => H.inj c d b (k _ _ e1).2 (k _ _ e2).2, H.ok.drop a⟩
  · unfold Gm.drop Tt.drop
    by_cases ec : c = a
    · simp [ec]
    · simp [ec, H.dom c]
  · obtain ⟨ec, e⟩ := k c d e
    rw [Tt.drop_other f ec]
    obtain ⟨s', x', e1, hx', hn', hz', h2', h3'⟩ := H.at_ c d e
    exact ⟨s', x', e1, hx'.kept ho h3', (hn'.kept ho (fun k _ hq => hq.2.2.1)).mono (fun j _ hq => ⟨hq.1, hq.2.1, hq.2.2.1, fun i ei => hq.2.2.2 i (k _ _ ei).2⟩), hz', h2', h3'⟩
/-- Where a slice leads to, nothing is frozen. -/
def Fz (w : World) (ao : Option Addr) : Prop := ∀ k o s, ao = some ⟨k, o, s⟩ → k < w.heap.size ∧ ∀ j, w.frozen? ⟨k, j, none⟩ = false
theorem Fz.none (w : World) : Fz w Option.none := fun _ _ _ h => by cases h
theorem Fz.kept {S : Nat → Prop} {w w' : World} {ao : Option Addr} (h : Fz w ao) (ho : Only S w w') (hS : ∀ k o s, ao = some ⟨k, o, s⟩ → ¬ S k) : Fz w' ao := fun k o s e =>
  ⟨Nat.lt_of_lt_of_le (h k o s e).1 ho.size, fun j => (ho.frozen (p := ⟨k, j, Option.none⟩) (h k o s e).1 (hS k o s e)).trans ((h k o s e).2 j)⟩
theorem Fz.more {w w' : World} {ao : Option Addr} (h : Fz w ao) (ho : Only (fun _ => False) w w') : Fz w' ao := h.kept ho (fun _ _ _ _ => id)
/-- A copy: it is nil only where there is nothing, nothing of it is frozen, and it lies in blocks from b on. -/
structure Fr (w : World) (b : Nat) (ao : Option Addr) (L : List Int) : Prop where
  nil : ao = Option.none → L = []
  fz : Fz w ao
  lo : ∀ k o s, ao = some ⟨k, o, s⟩ → b ≤ k
theorem Fr.kept {S : Nat → Prop} {w w' : World} {b : Nat} {ao : Option Addr} {L : List Int} (h : Fr w b ao L) (ho : Only S w w') (hS : ∀ k, b ≤ k → ¬ S k) : Fr w' b ao L := ⟨h.nil, h.fz.kept ho (fun k o s e => hS k (h.lo k o s e)), h.lo⟩
theorem Fr.mono {w : World} {b c : Nat} {ao : Option Addr} {L : List Int} (h : Fr w b ao L) (hc : c ≤ b) : Fr w c ao L := ⟨h.nil, h.fz, fun k o s e => Nat.le_trans hc (h.lo k o s e)⟩
theorem Fr.none (w : World) (b : Nat) : Fr w b Option.none [] := ⟨fun _ => rfl, Fz.none w, fun _ _ _ h => by cases h⟩
/-- A slice of numbers, copied. -/
theorem clone_any (w : World) (Q : Nat → Prop) (ao : Option Addr) (cp : Nat) (L : List Int) (h : Nm w Q ao L) :
    Calls Try.prog 46 #[.slice ao L.length cp] w fun e w' => ∃ a2 c2, e = .returned (.slice a2 L.length c2) ∧ Nm w' (fun k => w.heap.size ≤ k) a2 L ∧ Fr w' w.heap.size a2 L ∧ Only (fun _ => False) w w' := by
  have hO : ∀ w', Below w.heap.size w w' → Only (fun _ => False) w w' := fun w' ⟨b1, b2, b3, b4, b5⟩ => ⟨b1, b2, b3, b4, fun k hk _ => b5 k hk⟩
  have fin : ∀ w' v', w'.ownsRow w.heap.size 3 1 v' L.length (L.map iv) → ∃ a2 c2, v' = .slice a2 L.length c2 ∧ Nm w' (fun k => w.heap.size ≤ k) a2 L ∧ Fr w' w.heap.size a2 L := fun w' v' hr => by
    have hI : IRow w' w.heap.size v' L := by
      unfold IRow GRow
      rw [fm_iv]
      exact hr
    obtain ⟨a2, c2, rfl⟩ := hI.form
    refine ⟨a2, c2, rfl, GRow.nm hI h.len, ?_⟩
    rcases GRow.head hI with ⟨rfl, rfl, _⟩ | ⟨g, rfl, hg, hl, _, _, hf, _⟩
    · exact Fr.none _ _
    · refine ⟨(fun e => by cases e), fun k o s e => ?_, fun k o s e => ?_⟩
      · injection e with e
        injection e with e
        subst e
        exact ⟨hl, hf⟩
      · injection e with e
        injection e with e
        subst e
        exact hg
  by_cases h0 : L.length = 0
  · have hL : L = [] := List.eq_nil_of_length_eq_zero h0
    subst hL
    cases ao with
    | none =>
      refine (Try.slices_Clone_int_nil 0 cp w).mono ?_
      rintro e w' ⟨rfl, rfl⟩
      exact ⟨none, 0, rfl, Nm.none _ _ _, Fr.none _ _, Only.refl _ _⟩
    | some a =>
      refine (Try.slices_Clone_int_zero a cp w).mono ?_
      rintro e w' ⟨v', rfl, hr, _, hb⟩
      obtain ⟨a2, c2, rfl, h1, h2⟩ := fin w' v' hr
      exact ⟨a2, c2, rfl, h1, h2, hO _ hb⟩
  · obtain ⟨k, o, rfl, _, hk, hc⟩ := h.at_ (by omega)
    have hln := h.len
    refine (Try.slices_Clone_int k o L.length cp L w (Nat.le_refl _) (by omega) (fun j hj => by rw [hc j hj]; simp [List.getD_eq_getElem?_getD, hj])).mono ?_
    rintro e w' ⟨v', rfl, hr, _, hb⟩
    rw [List.take_length] at hr
    obtain ⟨a2, c2, rfl, h1, h2⟩ := fin w' v' hr
    exact ⟨a2, c2, rfl, h1, h2, hO _ hb⟩
end Go.Proofs.Ytmcghpeamnmbpaa
