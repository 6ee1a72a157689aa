/- The document's map in memory: pages and their room, in a list. -/
import Derived.Test.YtahmmhmahglonaaEOpen
import Derived.Test.YtahmmhmahglonaaERow
import Derived.Lib.AppendZeros
import Derived.Deep.Upon
namespace Go.Proofs.Ytahmmhmahglonaa
open Go.RowKit Go.Maps

def ocells (L : List (Int × Int)) : List Value := L.flatMap fun p => [.int .i64 p.1, .int .i64 p.2]
theorem ocells_length (L : List (Int × Int)) : (ocells L).length = L.length * 2 := by
  induction L with
  | nil => rfl
  | cons p L ih => simp [ocells] at ih ⊢; omega
theorem ocells_append (L M : List (Int × Int)) : ocells (L ++ M) = ocells L ++ ocells M := by simp [ocells]
theorem ocells_get {L : List (Int × Int)} {j : Nat} (h : j < L.length) : (ocells L)[j * 2]? = some (.int .i64 L[j].1) ∧ (ocells L)[j * 2 + 1]? = some (.int .i64 L[j].2) := by
  induction L generalizing j with
  | nil => simp at h
  | cons p L ih =>
    cases j with
    | zero => exact ⟨rfl, rfl⟩
    | succ j =>
      have e : ocells (p :: L) = .int .i64 p.1 :: .int .i64 p.2 :: ocells L := rfl
      have e1 : (j + 1) * 2 = j * 2 + 1 + 1 := by omega
      rw [e, e1]
      simp only [List.getElem?_cons_succ, List.getElem_cons_succ]
      have := ih (j := j) (by simpa using h)
      exact this
theorem ocells_one (L : List (Int × Int)) : ∀ u ∈ ocells L, u.oneCell' = true := by
  intro u hu
  simp only [ocells, List.mem_flatMap] at hu
  obtain ⟨p, _, hp⟩ := hu
  simp at hp
  rcases hp with rfl | rfl <;> rfl
def ORow (w : World) (base : Nat) (v : Value) (L : List (Int × Int)) : Prop := w.ownsRow base 48 2 v L.length (ocells L)
theorem ORow.nil (w : World) (base : Nat) : ORow w base (.slice none 0 0) [] := ⟨rfl, .inl ⟨rfl, rfl⟩⟩
theorem ORow.kept {S : Nat → Prop} {w w' : World} {base : Nat} {v : Value} {L : List (Int × Int)} (h : ORow w base v L) (ho : Only S w w') (hS : ∀ k, v.ownBlock = some k → ¬ S k) : ORow w' base v L := by
  obtain ⟨h1, h2⟩ := h
  refine ⟨h1, ?_⟩
  rcases h2 with h2 | ⟨g, cap, cur, hv, hg, hh, r⟩
  · exact .inl h2
  · subst hv
    exact .inr ⟨g, cap, cur, rfl, hg, by rw [ho.block g (Array.getElem?_eq_some_iff.1 hh).1 (hS g rfl)]; exact hh, r⟩
theorem ORow.low {w : World} {base : Nat} {v : Value} {L : List (Int × Int)} (h : ORow w base v L) : ∀ k, v.ownBlock = some k → base ≤ k ∧ k < w.heap.size := fun k hk => World.ownsRow.lt h k hk
theorem ORow.base {w : World} {b b' : Nat} {v : Value} {L : List (Int × Int)} (h : ORow w b v L) (hb : b' ≤ b) : ORow w b' v L := by
  obtain ⟨h1, h2⟩ := h
  refine ⟨h1, ?_⟩
  rcases h2 with h2 | ⟨g, cap, cur, hv, hg, r⟩
  · exact .inl h2
  · exact .inr ⟨g, cap, cur, hv, Nat.le_trans hb hg, r⟩
theorem ORow.form {w : World} {base : Nat} {v : Value} {L : List (Int × Int)} (h : ORow w base v L) : ∃ ao cp, v = .slice ao L.length cp := by
  rcases h.2 with ⟨rfl, h0⟩ | ⟨g, cap, cur, rfl, _⟩
  · exact ⟨none, 0, by rw [h0]⟩
  · exact ⟨_, _, rfl⟩
theorem ORow.cells {w : World} {base n cp g o : Nat} {L : List (Int × Int)} (h : ORow w base (.slice (some ⟨g, o, none⟩) n cp) L) : ∀ j u, (ocells L)[j]? = some u → w.cell? ⟨g, j, none⟩ = some u := by
  intro j u hu
  have h' := h
  rcases h.2 with ⟨e, _⟩ | ⟨g', cap, cur, e, hb, hh, _⟩
  · cases e
  · injection e with e1 e2 e3
    injection e1 with e1
    injection e1 with e1 e4
    subst e1
    subst e4
    have := World.ownsRow.cells h' (g := g) (by rw [e2]; rfl) j u hu
    rwa [show (⟨g, 0, none⟩ : Addr).add j = ⟨g, j, none⟩ from by rw [add_at]; simp] at this
theorem ORow.at_ {w : World} {base n cp : Nat} {ao : Option Addr} {L : List (Int × Int)} (h : ORow w base (.slice ao n cp) L) {j : Nat} (hj : j < L.length) : ∃ g, ao = some ⟨g, 0, none⟩ ∧ base ≤ g ∧ g < w.heap.size ∧ n ≤ cp ∧ w.cell? ⟨g, j * 2, none⟩ = some (.int .i64 L[j].1) ∧ w.cell? ⟨g, j * 2 + 1, none⟩ = some (.int .i64 L[j].2) := by
  have h' := h
  rcases h.2 with ⟨_, h0⟩ | ⟨g, cap, cur, e, hb, hh, hc, _⟩
  · omega
  · injection e with e1 e2 e3
    subst e1
    subst e2
    subst e3
    obtain ⟨q1, q2⟩ := ocells_get hj
    exact ⟨g, rfl, hb, (Array.getElem?_eq_some_iff.1 hh).1, hc, ORow.cells h' _ _ q1, ORow.cells h' _ _ q2⟩
theorem Try.infoOwed : (Try.prog.info? 48).map (fun i => (i.zero, i.size, i.bytes)) = some (some (.agg #[.int .i64 0, .int .i64 0]), 2, 16) := by kernel_rfl
def OSrc (w : World) (ao : Option Addr) (m : Nat) (N : List (Int × Int)) : Prop :=
  N.length = m ∧ ((ao = none ∧ m = 0) ∨ ∃ a, ao = some a ∧ ∀ j u, (ocells N)[j]? = some u → w.cell? (a.add j) = some u)
theorem orow_append {w : World} {base : Nat} {v : Value} {L N : List (Int × Int)} {ao : Option Addr} {m : Nat} (h : ORow w base v L) (hs : OSrc w ao m N) (hn : L.length + m ≤ 5864062014701) (hb : base ≤ w.heap.size) (c : Nat) :
    ∃ v' w', (Builtin.append_ #[44, 44] 44 #[v, .slice ao m c]).run Try.prog w = .ok v' w' ∧ ORow w' base v' (L ++ N) ∧ w.grownBy w' v.ownBlock ∧ (v'.ownBlock = v.ownBlock ∨ v'.ownBlock = some w.heap.size) := by
  obtain ⟨i0, hi, hz0, hz1, hz2⟩ := info_parts Try.infoOwed
  obtain ⟨hl, h0 | ⟨a, rfl, hc⟩⟩ := hs
  · obtain ⟨rfl, rfl⟩ := h0
    have hN : N = [] := List.eq_nil_of_length_eq_zero hl
    subst hN
    refine ⟨v, w, ?_, by rw [List.append_nil]; exact h, ⟨rfl, rfl, rfl, Nat.le_refl _, fun _ _ _ => rfl⟩, .inl rfl⟩
    rcases h.2 with ⟨rfl, _⟩ | ⟨g, cap, cur, rfl, _, _, hle, _⟩
    · simp [Builtin.append_, run_underlying Try.underlying44, sizeOf, typeInfo, hi, Builtin.lenOf, Builtin.firstCells]
    · simp [Builtin.append_, run_underlying Try.underlying44, sizeOf, typeInfo, hi, Builtin.lenOf, Builtin.firstCells, storeCells, hle]
  · obtain ⟨v', w', hr, ho, hg, _, hloc⟩ := run_append_own_at (P := Try.prog) w base 44 44 48 i0 _ 2 16 Try.underlying44 hi hz0 hz1 hz2 rfl (by decide) v L.length (ocells L) h a m c (ocells N) (by rw [ocells_length, hl]) hc (ocells_one N) (by unfold maxLen; omega) (by omega) hb
    refine ⟨v', w', hr, ?_, hg, hloc⟩
    unfold ORow
    rw [List.length_append, ocells_append, hl]
    exact ho
theorem filter_take {α : Type} (f : α → Bool) {L : List α} {j : Nat} (hj : j < L.length) : (L.take (j + 1)).filter f = if f L[j] then (L.take j).filter f ++ [L[j]] else (L.take j).filter f := by
  rw [List.take_succ_eq_append_getElem hj, List.filter_append]
  by_cases h : f L[j] = true
  · simp [h]
  · simp [h]
theorem osrc_new (w : World) (k : Int) (x : Int) (t : TypeId) : OSrc (w.alloc (.cells #[.int .i64 k, .int .i64 x] t)) (some ⟨w.heap.size, 0, none⟩) 1 [(k, x)] := by
  refine ⟨rfl, .inr ⟨_, rfl, ?_⟩⟩
  intro j u hu
  rw [add_at]
  match j, hu with
  | 0, hu => simp [ocells] at hu; subst hu; simp
  | 1, hu => simp [ocells] at hu; subst hu; simp
theorem orow_one {w : World} {base : Nat} {v : Value} {L : List (Int × Int)} (h : ORow w base v L) (k : Int) (x : Int) (hn : L.length + 1 ≤ 5864062014701) (hb : base ≤ w.heap.size) (c : Nat) :
    ∃ v' w', (Builtin.append_ #[44, 44] 44 #[v, .slice (some ⟨w.heap.size, 0, none⟩) 1 c]).run Try.prog (w.alloc (.cells #[.int .i64 k, .int .i64 x] 48)) = .ok v' w' ∧ ORow w' base v' (L ++ [(k, x)]) ∧ Only (fun i => base ≤ i) w w' := by
  obtain ⟨v', w', h1, h2, h3, _⟩ := orow_append (h.kept (Only.alloc (fun _ => False) w (.cells #[.int .i64 k, .int .i64 x] 48)) (fun _ _ => id)) (osrc_new w k x 48) hn (by simp; omega) c
  refine ⟨v', w', h1, h2, ?_⟩
  exact (Only.alloc (fun i => base ≤ i) w _).trans (Only.grown (S := fun i => base ≤ i) h3 (fun b hb => (h.low b hb).1)) (fun _ _ e => e)
theorem irow_one {w : World} {base : Nat} {v : Value} {L : List Int} (h : IRow w base v L) (x : Int) (hn : L.length + 1 ≤ 5864062014701) (hb : base ≤ w.heap.size) (c : Nat) :
    ∃ v' w', (Builtin.append_ #[33, 33] 33 #[v, .slice (some ⟨w.heap.size, 0, none⟩) 1 c]).run Try.prog (w.alloc (.cells #[.int .i64 x] 3)) = .ok v' w' ∧ IRow w' base v' (L ++ [x]) ∧ (w.alloc (.cells #[.int .i64 x] 3)).grownBy w' v.ownBlock ∧ (v'.ownBlock = v.ownBlock ∨ v'.ownBlock = some (w.heap.size + 1)) := by
  obtain ⟨i0, hi, hz0, hz1, hz2⟩ := info_parts Try.infoInt
  obtain ⟨v', w', hr, ho, hg, _, hloc⟩ := run_append_own_at (P := Try.prog) (w.alloc (.cells #[.int .i64 x] 3)) base 33 33 3 i0 (.int .i64 0) 1 8 Try.underlying33 hi hz0 hz1 hz2 rfl (by decide) v L.length (L.map iv) (World.ownsRow.alloc h _) ⟨w.heap.size, 0, none⟩ 1 c [.int .i64 x] rfl (cell_one_new _ _ _) (by simp [Value.oneCell']) (by unfold maxLen; omega) (by omega) (by simp; omega)
  refine ⟨v', w', hr, ?_, hg, ?_⟩
  · unfold IRow
    rw [List.length_append, List.map_append]
    exact ho
  · simpa using hloc
theorem grown_only {w w' : World} {o : Obj} {base : Nat} {ob : Option Nat} (hg : (w.alloc o).grownBy w' ob) (hb : ∀ b, ob = some b → base ≤ b) : Only (fun i => base ≤ i) w w' :=
  (Only.alloc (fun i => base ≤ i) w o).trans (Only.grown (S := fun i => base ≤ i) hg hb) (fun _ _ e => e)
/-- The document's list, as what is known. -/
structure LIs (f : Kn) (L : List (Int × Int)) : Prop where
  up : L.Pairwise (fun p q => p.1 < q.1)
  mem : ∀ x b, (x, b) ∈ L ↔ f x = some b
/-- The document's map in block r. -/
structure Rm (w : World) (r base n : Nat) (f : Kn) (ao : Option Addr) (cp : Nat) (L : List (Int × Int)) : Prop where
  c0 : w.cell? ⟨r, 0, none⟩ = some (.slice ao L.length cp)
  f0 : w.frozen? ⟨r, 0, none⟩ = false
  h : ORow w base (.slice ao L.length cp) L
  hi : LIs f L
  hn : L.length ≤ n
  rb : r < base
theorem Rm.kept {S : Nat → Prop} {w w' : World} {r base n : Nat} {f : Kn} {ao : Option Addr} {cp : Nat} {L : List (Int × Int)} (H : Rm w r base n f ao cp L) (ho : Only S w w') (h0 : ¬ S r) (h1 : ∀ k, base ≤ k → ¬ S k) : Rm w' r base n f ao cp L := by
  have hr := World.block_lt_of_cell? w _ H.c0
  exact ⟨(ho.cell (p := ⟨r, 0, none⟩) hr h0).trans H.c0, (ho.frozen (p := ⟨r, 0, none⟩) hr h0).trans H.f0, H.h.kept ho (fun k hk => h1 k (H.h.low k hk).1), H.hi, H.hn, H.rb⟩
theorem Rm.more {w w' : World} {r base n : Nat} {f : Kn} {ao : Option Addr} {cp : Nat} {L : List (Int × Int)} (H : Rm w r base n f ao cp L) (ho : Only (fun _ => False) w w') : Rm w' r base n f ao cp L := H.kept ho id (fun _ _ => id)
theorem Rm.set {w : World} {r base n n' : Nat} {f g : Kn} {ao a2 : Option Addr} {cp c2 : Nat} {L L2 : List (Int × Int)} (H : Rm w r base n f ao cp L) (row : ORow w base (.slice a2 L2.length c2) L2) (hi : LIs g L2) (hl : L2.length ≤ n') :
    Rm (w.setCell ⟨r, 0, none⟩ (.slice a2 L2.length c2)) r base n' g a2 c2 L2 := by
  have HS : Only (fun i => i = r) w (w.setCell ⟨r, 0, none⟩ (.slice a2 L2.length c2)) := Only.setCell (S := fun i => i = r) w ⟨r, 0, none⟩ _ rfl
  have hb2 := H.rb
  refine ⟨World.cell?_setCell_same _ _ _ H.c0, ?_, row.kept HS (fun k hk e => by have := (row.low k hk).1; omega), hi, hl, hb2⟩
  rw [World.frozen?_setCell]; exact H.f0
theorem LIs.none {f : Kn} {L : List (Int × Int)} (h : LIs f L) {k : Int} (hk : ∀ q (hq : q < L.length), L[q].1 ≠ k) : f k = Option.none := by
  cases e : f k with
  | none => rfl
  | some b =>
    obtain ⟨q, hq, e2⟩ := List.getElem_of_mem ((h.mem k b).2 e)
    exact absurd (by rw [e2]) (hk q hq)
theorem LIs.drop {f : Kn} {L : List (Int × Int)} (h : LIs f L) (k : Int) : LIs (f.drop k) (L.filter (fun p => p.1 != k)) := by
  refine ⟨h.up.sublist List.filter_sublist, fun x b => ?_⟩
  rw [List.mem_filter, h.mem x b]
  simp only [Kn.drop]
  by_cases e : x = k
  · simp [e]
  · simp [e]
theorem LIs.pages {f : Kn} {L : List (Int × Int)} (h : LIs f L) : PgIs f (L.map (·.1)) := by
  refine ⟨List.pairwise_map.2 h.up, fun a => ?_⟩
  rw [List.mem_map]
  constructor
  · rintro ⟨⟨x, b⟩, hp, rfl⟩
    exact ⟨b, (h.mem x b).1 hp⟩
  · rintro ⟨b, hb⟩
    exact ⟨(a, b), (h.mem a b).2 hb, rfl⟩
theorem LIs.found {f : Kn} {L : List (Int × Int)} (h : LIs f L) {room : Int} {j : Nat} (hj : j < L.length) (h1 : ∀ q (hq : q < L.length), q < j → L[q].2 < room) (h2 : room ≤ L[j].2) : FdIs f room L[j].1 true := by
  refine ⟨(fun e => by cases e), fun _ => ⟨⟨L[j].2, (h.mem _ _).1 (List.getElem_mem hj), h2⟩, fun x b hx hb => ?_⟩⟩
  obtain ⟨q, hq, e⟩ := List.getElem_of_mem ((h.mem x b).2 hx)
  rcases Nat.lt_or_ge q j with hlt | hge
  · have := h1 q hq hlt
    rw [e] at this
    exact absurd hb (by show ¬ room ≤ b; have : b < room := this; omega)
  · rcases Nat.lt_or_ge j q with hlt | hge2
    · have := List.pairwise_iff_getElem.1 h.up j q hj hq hlt
      rw [e] at this
      exact Int.le_of_lt this
    · have : q = j := by omega
      subst this
      rw [e]
      exact Int.le_refl _
theorem LIs.not_found {f : Kn} {L : List (Int × Int)} (h : LIs f L) {room : Int} (h1 : ∀ q (hq : q < L.length), L[q].2 < room) : FdIs f room 0 false := by
  refine ⟨fun _ => ⟨rfl, fun x b hx => ?_⟩, (fun e => by cases e)⟩
  obtain ⟨q, hq, e⟩ := List.getElem_of_mem ((h.mem x b).2 hx)
  have := h1 q hq
  rw [e] at this
  exact this
end Go.Proofs.Ytahmmhmahglonaa
