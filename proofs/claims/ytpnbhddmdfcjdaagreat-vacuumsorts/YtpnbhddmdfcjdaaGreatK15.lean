/- Parts. -/
import Derived.Maps.AppendAt
import Derived.Carry
import Derived.Test.YtpnbhddmdfcjdaaGreatK14
set_option maxRecDepth 100000
namespace Go.Proofs.YtpnbhddmdfcjdaaGreat
open Go.RowKit Go.Maps
/-- An element's cells: so many, one value each. -/
structure Lyt (α : Type) where
  c : Nat
  e : α → List Value
  len : ∀ x, (e x).length = c
  one : ∀ x, ∀ u ∈ e x, u.oneCell' = true
theorem Lyt.length {α : Type} (E : Lyt α) (L : List α) : (L.flatMap E.e).length = L.length * E.c := by
  induction L with
  | nil => simp
  | cons x L ih => rw [List.flatMap_cons, List.length_append, ih, E.len, List.length_cons, Nat.add_mul]; omega
theorem Lyt.ones {α : Type} (E : Lyt α) (L : List α) : ∀ u ∈ L.flatMap E.e, u.oneCell' = true := by
  intro u hu
  obtain ⟨x, _, hx⟩ := List.mem_flatMap.1 hu
  exact E.one x u hx
theorem Lyt.get {α : Type} (E : Lyt α) {L : List α} {j i : Nat} (hj : j < L.length) (hi : i < E.c) : (L.flatMap E.e)[j * E.c + i]? = (E.e L[j])[i]? := by
  have e : L = L.take j ++ L[j] :: L.drop (j + 1) := by rw [← List.drop_eq_getElem_cons hj, List.take_append_drop]
  have e2 : L.flatMap E.e = (L.take j).flatMap E.e ++ (E.e L[j] ++ (L.drop (j + 1)).flatMap E.e) := by
    conv => lhs; rw [e]
    rw [List.flatMap_append, List.flatMap_cons]
  have hl : ((L.take j).flatMap E.e).length = j * E.c := by rw [E.length, List.length_take]; rw [Nat.min_eq_left (by omega)]
  rw [e2, List.getElem?_append_right (by omega), hl, List.getElem?_append_left (by rw [E.len]; omega)]
  congr 1
  omega
/-- A row that the value v owns, in a block from base on. -/
def GRow {α : Type} (E : Lyt α) (ty : TypeId) (w : World) (base : Nat) (v : Value) (L : List α) : Prop := w.ownsRow base ty E.c v L.length (L.flatMap E.e)
section
variable {α : Type} {E : Lyt α} {ty : TypeId}
theorem GRow.nil (w : World) (base : Nat) : GRow E ty w base (.slice none 0 0) [] := ⟨by simp, .inl ⟨rfl, rfl⟩⟩
theorem GRow.kept {S : Nat → Prop} {w w' : World} {base : Nat} {v : Value} {L : List α} (h : GRow E ty w base v L) (ho : Only S w w') (hS : ∀ k, v.ownBlock = some k → ¬ S k) : GRow E ty w' base v L := by
  obtain ⟨h1, h2⟩ := h
  refine ⟨h1, ?_⟩
  rcases h2 with h2 | ⟨g, cap, cur, hv, hg, hh, r⟩
  · exact .inl h2
  · subst hv
    exact .inr ⟨g, cap, cur, rfl, hg, by rw [ho.block g (Array.getElem?_eq_some_iff.1 hh).1 (hS g rfl)]; exact hh, r⟩
theorem GRow.more {w w' : World} {base : Nat} {v : Value} {L : List α} (h : GRow E ty w base v L) (ho : Only (fun _ => False) w w') : GRow E ty w' base v L := h.kept ho (fun _ _ => id)
theorem GRow.low {w : World} {base : Nat} {v : Value} {L : List α} (h : GRow E ty w base v L) : ∀ k, v.ownBlock = some k → base ≤ k ∧ k < w.heap.size := fun k hk => World.ownsRow.lt h k hk
theorem GRow.base {w : World} {b b' : Nat} {v : Value} {L : List α} (h : GRow E ty w b v L) (hb : b' ≤ b) : GRow E ty w b' v L := by
  obtain ⟨h1, h2⟩ := h
  refine ⟨h1, ?_⟩
  rcases h2 with h2 | ⟨g, cap, cur, hv, hg, r⟩
  · exact .inl h2
  · exact .inr ⟨g, cap, cur, hv, Nat.le_trans hb hg, r⟩
theorem GRow.form {w : World} {base : Nat} {v : Value} {L : List α} (h : GRow E ty w base v L) : ∃ ao cp, v = .slice ao L.length cp := by
  rcases h.2 with ⟨rfl, h0⟩ | ⟨g, cap, cur, rfl, _⟩
  · exact ⟨none, 0, by rw [h0]⟩
  · exact ⟨_, _, rfl⟩
/-- What a row's slice looks like: nil, or the head of its block. -/
theorem GRow.head {w : World} {base cp : Nat} {ao : Option Addr} {L : List α} (h : GRow E ty w base (.slice ao L.length cp) L) : (ao = none ∧ L = [] ∧ cp = 0) ∨ ∃ g, ao = some ⟨g, 0, none⟩ ∧ base ≤ g ∧ g < w.heap.size ∧ L.length ≤ cp ∧ cp ≤ maxLen ∧ (∀ i, w.frozen? ⟨g, i, none⟩ = false) ∧ ∀ i u, (L.flatMap E.e)[i]? = some u → w.cell? ⟨g, i, none⟩ = some u := by
  have h' := h
  rcases h.2 with ⟨e, h0⟩ | ⟨g, cap, cur, e, hb, hh, hc, hm, _, _⟩
  · injection e with e1 e2 e3
    exact .inl ⟨e1, List.eq_nil_of_length_eq_zero e2, e3⟩
  · injection e with e1 e2 e3
    subst e1
    subst e3
    refine .inr ⟨g, rfl, hb, (Array.getElem?_eq_some_iff.1 hh).1, hc, hm, ?_, fun i u hu => ?_⟩
    · simp [World.frozen?, hh]
    · have := World.ownsRow.cells h' (g := g) rfl i u hu
      rwa [show (⟨g, 0, none⟩ : Addr).add i = ⟨g, i, none⟩ from by rw [add_at]; simp] at this
theorem GRow.at_ {w : World} {base cp : Nat} {ao : Option Addr} {L : List α} (h : GRow E ty w base (.slice ao L.length cp) L) {j : Nat} (hj : j < L.length) : ∃ g, ao = some ⟨g, 0, none⟩ ∧ base ≤ g ∧ g < w.heap.size ∧ L.length ≤ cp ∧ ∀ i u, i < E.c → (E.e L[j])[i]? = some u → w.cell? ⟨g, j * E.c + i, none⟩ = some u := by
  rcases h.head with ⟨_, e, _⟩ | ⟨g, e, h1, h2, h3, _, _, h4⟩
  · subst e; simp at hj
  · exact ⟨g, e, h1, h2, h3, fun i u hi hu => h4 _ u (by rw [E.get hj hi]; exact hu)⟩
/-- What is appended: so many elements from an address on. -/
def GSrc (E : Lyt α) (w : World) (ao : Option Addr) (m : Nat) (N : List α) : Prop :=
  N.length = m ∧ ((ao = none ∧ m = 0) ∨ ∃ a, ao = some a ∧ ∀ j u, (N.flatMap E.e)[j]? = some u → w.cell? (a.add j) = some u)
theorem GSrc.new (w : World) (x : α) (t : TypeId) : GSrc E (w.alloc (.cells (E.e x).toArray t)) (some ⟨w.heap.size, 0, none⟩) 1 [x] := by
  refine ⟨rfl, .inr ⟨_, rfl, fun j u hu => ?_⟩⟩
  have hu' : (E.e x)[j]? = some u := by simpa using hu
  rw [add_at]
  have hj := (List.getElem?_eq_some_iff.1 hu').1
  simp only [World.cell?, World.alloc]
  simpa using hu'
theorem own_grownE (w : World) {base : Nat} {e : TypeId} {n m old c : Nat} {z : Value} {xs news : List Value} (hz : z.cells.size = c) (hx : xs.length = n * c) (hl : news.length = m * c) (h63 : n + m ≤ maxLen) (hbase : base ≤ w.heap.size) (row : Option Nat) :
    (w.drew.alloc (.cells (xs.toArray ++ news.toArray ++ Builtin.zeroCells z.cells (grownCap w (n + m) old e - (n + m))) e)).ownsRow base e c (.slice (some ⟨w.heap.size, 0, none⟩) (n + m) (grownCap w (n + m) old e)) (n + m) (xs ++ news) ∧
    w.grownBy (w.drew.alloc (.cells (xs.toArray ++ news.toArray ++ Builtin.zeroCells z.cells (grownCap w (n + m) old e - (n + m))) e)) row := by
  have hge := grownCap_ge w (n + m) old e
  have hcm : grownCap w (n + m) old e ≤ maxLen := grownCap_le_maxLen w (n + m) old e h63
  have hlen : (xs ++ news).length = (n + m) * c := by rw [List.length_append, hx, hl, Nat.add_mul]
  refine ⟨⟨hlen, .inr ⟨w.heap.size, _, _, rfl, hbase, heap_alloc_new w.drew _, hge, hcm, ?_, ?_⟩⟩, ⟨rfl, rfl, rfl, by simp, fun k hk _ => Below.heap_alloc w.drew _ k hk⟩⟩
  · simp only [Array.size_append, List.size_toArray, size_zeroCells, hz, hx, hl]
    rw [← Nat.add_mul, ← Nat.add_mul]
    congr 1
    omega
  · simp only [Array.toList_append, List.append_assoc]
    rw [← List.append_assoc, ← hlen]
    exact List.take_left
theorem grow_append {w : World} {base : Nat} {v : Value} {L N : List α} {ao : Option Addr} {m : Nat} {t : TypeId} {z : Value} {bytes : Nat} (ht : Tryz.prog.underlying t = some (.slice ty)) (hinf : (Tryz.prog.info? ty).map (fun i => (i.zero, i.size, i.bytes)) = some (some z, E.c, bytes)) (hzs : z.cells.size = E.c)
    (h : GRow E ty w base v L) (hs : GSrc E w ao m N) (hn : (L.length + m + (L.length + m) / 4 + 512) * bytes ≤ 281474976710656) (hn2 : L.length + m ≤ maxLen) (hb : base ≤ w.heap.size) (tr : TypeId) (c : Nat) :
    ∃ v' w', (Builtin.append_ #[t, t] tr #[v, .slice ao m c]).run Tryz.prog w = .ok v' w' ∧ GRow E ty w' base v' (L ++ N) ∧ w.grownBy w' v.ownBlock ∧ (v'.ownBlock = v.ownBlock ∨ v'.ownBlock = some w.heap.size) := by
  obtain ⟨i0, hi, hz0, hz1, hz2⟩ := info_parts hinf
  obtain ⟨hl, h0 | ⟨a, rfl, hc⟩⟩ := hs
  · obtain ⟨rfl, rfl⟩ := h0
    have hN : N = [] := List.eq_nil_of_length_eq_zero hl
    subst hN
    refine ⟨v, w, ?_, by rw [List.append_nil]; exact h, ⟨rfl, rfl, rfl, Nat.le_refl _, fun _ _ _ => rfl⟩, .inl rfl⟩
    rcases h.2 with ⟨rfl, _⟩ | ⟨g, cap, cur, rfl, _, _, hle, _⟩
    · simp [Builtin.append_, run_underlying ht, sizeOf, typeInfo, hi, Builtin.lenOf, Builtin.firstCells]
    · simp [Builtin.append_, run_underlying ht, sizeOf, typeInfo, hi, Builtin.lenOf, Builtin.firstCells, storeCells, hle]
  · have h63 : L.length + m ≤ maxLen := hn2
    have hlN : (N.flatMap E.e).length = m * i0.size := by rw [E.length, hl, hz1]
    have hLN : (L ++ N).length = L.length + m := by rw [List.length_append, hl]
    have hm63 : ((L.length + m : Nat) : Int) ≤ 9223372036854775807 := by unfold maxLen at h63; omega
    have grn : ∀ old, old < L.length + m → Builtin.nextslicecap (L.length + m) old * i0.bytes ≤ 281474976710656 := fun old ho => by
      rw [hz2]
      exact Nat.le_trans (Nat.mul_le_mul_right _ (next_le ho)) hn
    have fold : ∀ w' v', w'.ownsRow base ty E.c v' (L.length + m) (L.flatMap E.e ++ N.flatMap E.e) → GRow E ty w' base v' (L ++ N) := fun w' v' ho => by
      unfold GRow
      rw [hLN, List.flatMap_append]
      exact ho
    rcases h.2 with ⟨rfl, e0⟩ | ⟨g, cap, cur, rfl, hbg, hg, hnc, hcm, hcs, htake⟩
    · have hL : L = [] := List.eq_nil_of_length_eq_zero e0
      subst hL
      by_cases hm : m = 0
      · subst hm
        have hN : N = [] := List.eq_nil_of_length_eq_zero hl
        subst hN
        refine ⟨.slice none 0 0, w, ?_, h, ⟨rfl, rfl, rfl, Nat.le_refl _, fun _ _ _ => rfl⟩, .inl rfl⟩
        simp [Builtin.append_, run_underlying ht, sizeOf, typeInfo, hi, Builtin.lenOf, Builtin.firstCells, loadCells, loadCellsFrom]
      · have h48 : m * i0.bytes ≤ 281474976710656 := by
          rw [hz2]
          refine Nat.le_trans (Nat.mul_le_mul_right _ ?_) hn
          simp
          omega
        have hr := run_append_nil (P := Tryz.prog) w t tr ty i0 z ht hi hz0 a m c (N.flatMap E.e) hlN hc (by omega) (by simpa using hm63) h48
        have hgr := own_grownE w (base := base) (e := ty) (n := 0) (m := m) (old := 0) (xs := []) hzs (by simp) (by rw [E.length, hl]) (by simpa using h63) hb (Value.ownBlock (.slice none 0 0))
        simp only [Nat.zero_add, List.nil_append, Array.empty_append] at hgr ⊢
        have hf := fold _ _ (by simpa using hgr.1)
        simp only [List.nil_append] at hf
        exact ⟨_, _, hr, hf, hgr.2, .inr rfl⟩
    · by_cases hrm : L.length + m ≤ cap
      · have hfit : L.length * i0.size + (N.flatMap E.e).length ≤ cur.size := by
          rw [hlN, hz1, hcs, ← Nat.add_mul]
          exact Nat.mul_le_mul_right _ hrm
        have hr := run_append_room (P := Tryz.prog) w t tr ty i0 ht hi g L.length cap cur hg a m c (N.flatMap E.e) hlN hc (E.ones N) hrm hfit
        rw [hz1] at hr hfit
        refine ⟨_, _, hr, fold _ _ ⟨by rw [List.length_append, E.length, E.length, hl, Nat.add_mul], .inr ⟨g, cap, _, rfl, hbg, setRow_heap w g cur _ ty _ hg, hrm, hcm, ?_, ?_⟩⟩, ⟨rfl, rfl, rfl, by simp, fun k _ hk => setRow_other w g k _ (fun e => hk (by simp [Value.ownBlock, e]))⟩, .inl rfl⟩
        · simp only [List.size_toArray, List.length_append, List.length_take, List.length_drop, Array.length_toList]
          omega
        · have hlen : (L.flatMap E.e ++ N.flatMap E.e).length = (L.length + m) * E.c := by rw [List.length_append, E.length, E.length, hl, Nat.add_mul]
          rw [htake, ← hlen]
          exact List.take_left
      · have hr := run_append_grow (P := Tryz.prog) w t tr ty i0 z ht hi hz0 ⟨g, 0, none⟩ L.length cap (L.flatMap E.e) (by rw [hz1, E.length]) (World.ownsRow.cells h (g := g) rfl) a m c (N.flatMap E.e) hlN hc (by omega) hm63 (grn cap (by omega))
        have hgr := own_grownE w (base := base) (e := ty) (n := L.length) (m := m) (old := cap) (xs := L.flatMap E.e) hzs (E.length L) (by rw [E.length, hl]) h63 hb (Value.ownBlock (.slice (some ⟨g, 0, none⟩) L.length cap))
        exact ⟨_, _, hr, fold _ _ hgr.1, hgr.2, .inr rfl⟩
theorem grow_one {w : World} {base : Nat} {v : Value} {L : List α} {t : TypeId} {z : Value} {bytes : Nat} (ht : Tryz.prog.underlying t = some (.slice ty)) (hinf : (Tryz.prog.info? ty).map (fun i => (i.zero, i.size, i.bytes)) = some (some z, E.c, bytes)) (hzs : z.cells.size = E.c)
    (h : GRow E ty w base v L) (x : α) (hn : (L.length + 1 + (L.length + 1) / 4 + 512) * bytes ≤ 281474976710656) (hn2 : L.length + 1 ≤ maxLen) (hb : base ≤ w.heap.size) (tr : TypeId) (c : Nat) :
    ∃ v' w', (Builtin.append_ #[t, t] tr #[v, .slice (some ⟨w.heap.size, 0, none⟩) 1 c]).run Tryz.prog (w.alloc (.cells (E.e x).toArray ty)) = .ok v' w' ∧ GRow E ty w' base v' (L ++ [x]) ∧ Only (fun i => some i = v.ownBlock) w w' ∧ (v'.ownBlock = v.ownBlock ∨ ∃ k, v'.ownBlock = some k ∧ w.heap.size ≤ k) := by
  obtain ⟨v', w', h1, h2, h3, h4⟩ := grow_append ht hinf hzs (h.more (Only.alloc (fun _ => False) w (.cells (E.e x).toArray ty))) (GSrc.new w x ty) hn hn2 (by simp; omega) tr c
  refine ⟨v', w', h1, h2, (Only.alloc (fun i => some i = v.ownBlock) w _).trans (Only.grown (S := fun i => some i = v.ownBlock) h3 (fun b hb => hb.symm)) (fun _ _ e => e), ?_⟩
  rcases h4 with h4 | h4
  · exact .inl h4
  · exact .inr ⟨_, h4, by simp⟩
end
end Go.Proofs.YtpnbhddmdfcjdaaGreat
