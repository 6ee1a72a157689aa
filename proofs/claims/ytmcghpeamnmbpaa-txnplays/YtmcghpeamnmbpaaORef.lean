/- The document's table: rows in order, in memory; where a session's stands. -/
import Derived.Test.YtmcghpeamnmbpaaOSame
import Derived.Test.YtmcghpeamnmbpaaOOpen
namespace Go.Proofs.Ytmcghpeamnmbpaa
open Go.RowKit Go.Maps

/-- The document's rows, as the open transactions. -/
structure RIs (f : Tt) (R : List Rw) : Prop where
  up : R.Pairwise (fun x y => x.who < y.who)
  mem : ∀ a t, f a = some t ↔ ∃ x ∈ R, x.who = a ∧ x.tx = t
/-- Where a session's row stands, or would. -/
structure AtIs (R : List Rw) (a : Int) (i : Nat) (has : Bool) : Prop where
  le : i ≤ R.length
  lo : ∀ q (hq : q < R.length), q < i → R[q].who < a
  hi : ∀ h : i < R.length, a ≤ R[i].who
  is : has = true ↔ ∃ h : i < R.length, R[i].who = a
theorem RIs.some {f : Tt} {R : List Rw} (h : RIs f R) {a : Int} {i : Nat} (hA : AtIs R a i true) : ∃ hi : i < R.length, R[i].who = a ∧ f a = some R[i].tx := by
  obtain ⟨hi, e⟩ := hA.is.1 rfl
  exact ⟨hi, e, (h.mem a _).2 ⟨R[i], List.getElem_mem hi, e, rfl⟩⟩
theorem RIs.none {f : Tt} {R : List Rw} (h : RIs f R) {a : Int} {i : Nat} (hA : AtIs R a i false) : f a = Option.none := by
  cases e : f a with
  | none => rfl
  | some t =>
    obtain ⟨x, hx, hw, _⟩ := (h.mem a t).1 e
    obtain ⟨q, hq, rfl⟩ := List.getElem_of_mem hx
    exfalso
    rcases Nat.lt_trichotomy q i with h1 | h1 | h1
    · have := hA.lo q hq h1; omega
    · subst h1
      have := hA.is.2 ⟨hq, hw⟩
      cases this
    · have h2 := List.pairwise_iff_getElem.1 h.up i q (by omega) hq h1
      have := hA.hi (by omega)
      omega
theorem RIs.start : RIs Tt.none [] := ⟨List.Pairwise.nil, fun a t => ⟨(fun h => by cases h), (fun ⟨x, hx, _⟩ => by cases hx)⟩⟩
/-- A row is told by its session. -/
theorem RIs.one {f : Tt} {R : List Rw} (h : RIs f R) {x y : Rw} (hx : x ∈ R) (hy : y ∈ R) (e : x.who = y.who) : x = y := by
  obtain ⟨p, hp, rfl⟩ := List.getElem_of_mem hx
  obtain ⟨q, hq, rfl⟩ := List.getElem_of_mem hy
  rcases Nat.lt_trichotomy p q with h1 | h1 | h1
  · have := List.pairwise_iff_getElem.1 h.up p q hp hq h1; omega
  · subst h1; rfl
  · have := List.pairwise_iff_getElem.1 h.up q p hq hp h1; omega
theorem RIs.set {f : Tt} {R : List Rw} (h : RIs f R) {i : Nat} (hi : i < R.length) {x : Rw} (hx : x.who = R[i].who) : RIs (f.set R[i].who x.tx) (R.set i x) := by
  refine ⟨?_, fun a t => ?_⟩
  · rw [List.pairwise_iff_getElem]
    intro p q hp hq hpq
    rw [List.length_set] at hp hq
    have := List.pairwise_iff_getElem.1 h.up p q hp hq hpq
    rw [List.getElem_set, List.getElem_set]
    split
    · rename_i e1
      subst e1
      split
      · omega
      · omega
    · split
      · rename_i e2
        subst e2
        omega
      · exact this
  · have hm : ∀ y, y ∈ R.set i x ↔ (y = x ∨ (y ∈ R ∧ y.who ≠ R[i].who)) := fun y => by
      constructor
      · intro hy
        obtain ⟨q, hq, rfl⟩ := List.getElem_of_mem hy
        rw [List.length_set] at hq
        rw [List.getElem_set]
        split
        · exact .inl rfl
        · rename_i e
          refine .inr ⟨List.getElem_mem hq, fun e2 => e ?_⟩
          rcases Nat.lt_trichotomy q i with h1 | h1 | h1
          · have := List.pairwise_iff_getElem.1 h.up q i hq hi h1; omega
          · exact h1.symm
          · have := List.pairwise_iff_getElem.1 h.up i q hi hq h1; omega
      · rintro (rfl | ⟨hy, hne⟩)
        · exact List.mem_iff_getElem.2 ⟨i, by rw [List.length_set]; exact hi, by simp⟩
        · obtain ⟨q, hq, rfl⟩ := List.getElem_of_mem hy
          have hqi : i ≠ q := fun e => hne (by subst e; rfl)
          exact List.mem_iff_getElem.2 ⟨q, by rw [List.length_set]; exact hq, by rw [List.getElem_set_ne hqi]⟩
    by_cases e : a = R[i].who
    · subst e
      rw [Tt.set_same]
      constructor
      · intro e2
        cases e2
        exact ⟨x, (hm x).2 (.inl rfl), hx, rfl⟩
      · rintro ⟨y, hy, hw, rfl⟩
        rcases (hm y).1 hy with rfl | ⟨_, hne⟩
        · rfl
        · exact absurd hw hne
    · rw [Tt.set_other f _ e, h.mem a t]
      constructor
      · rintro ⟨y, hy, hw, ht⟩
        exact ⟨y, (hm y).2 (.inr ⟨hy, by rw [hw]; exact e⟩), hw, ht⟩
      · rintro ⟨y, hy, hw, ht⟩
        rcases (hm y).1 hy with rfl | ⟨hy, _⟩
        · rw [hx] at hw; exact absurd hw.symm e
        · exact ⟨y, hy, hw, ht⟩
theorem RIs.ins {f : Tt} {R : List Rw} (h : RIs f R) {a : Int} {i : Nat} (hA : AtIs R a i false) {x : Rw} (hx : x.who = a) : RIs (f.set a x.tx) (R.take i ++ [x] ++ R.drop i) := by
  have hn := h.none hA
  have htake : ∀ y ∈ R.take i, y.who < a := fun y hy => by
    obtain ⟨q, hq, rfl⟩ := List.getElem_of_mem hy
    rw [List.length_take] at hq
    rw [List.getElem_take]
    exact hA.lo q (by omega) (by omega)
  have hdrop : ∀ y ∈ R.drop i, a < y.who := fun y hy => by
    have hyR := List.mem_of_mem_drop hy
    have hne : y.who ≠ a := fun e => by
      have := (h.mem a y.tx).2 ⟨y, hyR, e, rfl⟩
      rw [hn] at this
      cases this
    obtain ⟨q, hq, rfl⟩ := List.getElem_of_mem hy
    rw [List.length_drop] at hq
    rw [List.getElem_drop] at hne ⊢
    have h1 := hA.hi (by omega)
    by_cases hq0 : q = 0
    · subst hq0
      simp only [Nat.add_zero] at hne ⊢
      omega
    · have := List.pairwise_iff_getElem.1 h.up i (i + q) (by omega) (by omega) (by omega)
      omega
  refine ⟨?_, fun b t => ?_⟩
  · rw [List.append_assoc]
    refine List.pairwise_append.2 ⟨h.up.sublist (List.take_sublist _ _), ?_, ?_⟩
    · exact List.pairwise_cons.2 ⟨fun y hy => by rw [hx]; exact hdrop y hy, h.up.sublist (List.drop_sublist _ _)⟩
    · intro y hy z hz
      have h1 := htake y hy
      rcases List.mem_cons.1 hz with rfl | hz
      · rw [hx]; exact h1
      · have := hdrop z hz; omega
  · have hm : ∀ y, y ∈ R.take i ++ [x] ++ R.drop i ↔ (y = x ∨ y ∈ R) := fun y => by
      have e := List.take_append_drop i R
      constructor
      · intro hy
        rcases List.mem_append.1 hy with hy | hy
        · rcases List.mem_append.1 hy with hy | hy
          · exact .inr (List.mem_of_mem_take hy)
          · exact .inl (List.mem_singleton.1 hy)
        · exact .inr (List.mem_of_mem_drop hy)
      · rintro (rfl | hy)
        · simp
        · rw [← e] at hy
          rcases List.mem_append.1 hy with hy | hy
          · exact List.mem_append.2 (.inl (List.mem_append.2 (.inl hy)))
          · exact List.mem_append.2 (.inr hy)
    by_cases e : b = a
    · subst e
      rw [Tt.set_same]
      constructor
      · intro e2
        cases e2
        exact ⟨x, (hm x).2 (.inl rfl), hx, rfl⟩
      · rintro ⟨y, hy, hw, rfl⟩
        rcases (hm y).1 hy with rfl | hy
        · rfl
        · have := (h.mem b y.tx).2 ⟨y, hy, hw, rfl⟩
          rw [hn] at this
          cases this
    · rw [Tt.set_other f _ e, h.mem b t]
      constructor
      · rintro ⟨y, hy, hw, ht⟩
        exact ⟨y, (hm y).2 (.inr hy), hw, ht⟩
      · rintro ⟨y, hy, hw, ht⟩
        rcases (hm y).1 hy with rfl | hy
        · rw [hx] at hw; exact absurd hw.symm e
        · exact ⟨y, hy, hw, ht⟩
theorem RIs.del {f : Tt} {R : List Rw} (h : RIs f R) {i : Nat} (hi : i < R.length) : RIs (f.drop R[i].who) (R.take i ++ R.drop (i + 1)) := by
  have hm : ∀ y, y ∈ R.take i ++ R.drop (i + 1) ↔ (y ∈ R ∧ y.who ≠ R[i].who) := fun y => by
    constructor
    · intro hy
      rcases List.mem_append.1 hy with hy | hy
      · refine ⟨List.mem_of_mem_take hy, ?_⟩
        obtain ⟨q, hq, rfl⟩ := List.getElem_of_mem hy
        rw [List.length_take] at hq
        rw [List.getElem_take]
        have := List.pairwise_iff_getElem.1 h.up q i (by omega) hi (by omega)
        omega
      · refine ⟨List.mem_of_mem_drop hy, ?_⟩
        obtain ⟨q, hq, rfl⟩ := List.getElem_of_mem hy
        rw [List.length_drop] at hq
        rw [List.getElem_drop]
        have := List.pairwise_iff_getElem.1 h.up i (i + 1 + q) hi (by omega) (by omega)
        omega
    · rintro ⟨hy, hne⟩
      obtain ⟨q, hq, rfl⟩ := List.getElem_of_mem hy
      rcases Nat.lt_trichotomy q i with h1 | h1 | h1
      · exact List.mem_append.2 (.inl (List.mem_iff_getElem.2 ⟨q, by rw [List.length_take]; omega, by rw [List.getElem_take]⟩))
      · subst h1; exact absurd rfl hne
      · refine List.mem_append.2 (.inr (List.mem_iff_getElem.2 ⟨q - (i + 1), by rw [List.length_drop]; omega, ?_⟩))
        rw [List.getElem_drop]
        congr 1
        omega
  refine ⟨?_, fun a t => ?_⟩
  · refine List.pairwise_append.2 ⟨h.up.sublist (List.take_sublist _ _), h.up.sublist (List.drop_sublist _ _), ?_⟩
    intro y hy z hz
    obtain ⟨p, hp, rfl⟩ := List.getElem_of_mem hy
    obtain ⟨q, hq, rfl⟩ := List.getElem_of_mem hz
    rw [List.length_take] at hp
    rw [List.length_drop] at hq
    rw [List.getElem_take, List.getElem_drop]
    exact List.pairwise_iff_getElem.1 h.up p (i + 1 + q) (by omega) (by omega) (by omega)
  · by_cases e : a = R[i].who
    · subst e
      rw [Tt.drop_same]
      constructor
      · intro e2; cases e2
      · rintro ⟨y, hy, hw, _⟩
        exact absurd hw ((hm y).1 hy).2
    · rw [Tt.drop_other f e, h.mem a t]
      constructor
      · rintro ⟨y, hy, hw, ht⟩
        exact ⟨y, (hm y).2 ⟨hy, by rw [hw]; exact e⟩, hw, ht⟩
      · rintro ⟨y, hy, hw, ht⟩
        exact ⟨y, ((hm y).1 hy).1, hw, ht⟩
/-- Where a row's list may lie. -/
def Qy (Y : Nat → Prop) (r : Nat) (ao : Option Addr) (k : Nat) : Prop := Y k ∧ k ≠ r ∧ ∀ g o s, ao = some ⟨g, o, s⟩ → k ≠ g
/-- The document's table in block r, all its blocks in Y. -/
structure Rm (w : World) (Y : Nat → Prop) (r n : Nat) (f : Tt) (ao : Option Addr) (cp : Nat) (R : List Rw) : Prop where
  c0 : w.cell? ⟨r, 0, none⟩ = some (.slice ao R.length cp)
  f0 : w.frozen? ⟨r, 0, none⟩ = false
  h : RRow w 0 (.slice ao R.length cp) R
  own : ∀ g o s, ao = some ⟨g, o, s⟩ → Y g ∧ g ≠ r
  nm : ∀ x ∈ R, Nm w (Qy Y r ao) x.s.ao x.s.act
  yr : Y r
  hi : RIs f R
  hn : R.length ≤ n
  ok : f.Ok n
def Rt (w : World) (Y : Nat → Prop) (r n : Nat) (f : Tt) : Prop := ∃ ao cp R, Rm w Y r n f ao cp R
theorem Rm.lt {w : World} {Y : Nat → Prop} {r n : Nat} {f : Tt} {ao : Option Addr} {cp : Nat} {R : List Rw} (H : Rm w Y r n f ao cp R) : r < w.heap.size := World.block_lt_of_cell? w _ H.c0
theorem Rm.ob {w : World} {Y : Nat → Prop} {r n : Nat} {f : Tt} {ao : Option Addr} {cp : Nat} {R : List Rw} (H : Rm w Y r n f ao cp R) {k : Nat} (hk : (Value.slice ao R.length cp).ownBlock = some k) : Y k ∧ k ≠ r ∧ k < w.heap.size ∧ ao = some ⟨k, 0, none⟩ := by
  have hl := (H.h.low k hk).2
  rcases GRow.head H.h with ⟨rfl, _⟩ | ⟨g, rfl, _⟩
  · cases hk
  · have : g = k := by simpa [Value.ownBlock] using hk
    subst this
    exact ⟨(H.own g 0 none rfl).1, (H.own g 0 none rfl).2, hl, rfl⟩
theorem Rm.kept {S Y : Nat → Prop} {w w' : World} {r n : Nat} {f : Tt} {ao : Option Addr} {cp : Nat} {R : List Rw} (H : Rm w Y r n f ao cp R) (ho : Only S w w') (hS : ∀ k, k < w.heap.size → Y k → ¬ S k) : Rm w' Y r n f ao cp R :=
  ⟨(ho.cell (p := ⟨r, 0, none⟩) H.lt (hS r H.lt H.yr)).trans H.c0, (ho.frozen (p := ⟨r, 0, none⟩) H.lt (hS r H.lt H.yr)).trans H.f0, H.h.kept ho (fun k hk => hS k (H.ob hk).2.2.1 (H.ob hk).1), H.own, fun x hx => (H.nm x hx).kept ho (fun k hk hq => hS k hk hq.1), H.yr, H.hi, H.hn, H.ok⟩
theorem Rm.more {Y : Nat → Prop} {w w' : World} {r n : Nat} {f : Tt} {ao : Option Addr} {cp : Nat} {R : List Rw} (H : Rm w Y r n f ao cp R) (ho : Only (fun _ => False) w w') : Rm w' Y r n f ao cp R := H.kept ho (fun _ _ _ => id)
theorem Rm.mono {Y : Nat → Prop} {w : World} {r n n' : Nat} {f : Tt} {ao : Option Addr} {cp : Nat} {R : List Rw} (H : Rm w Y r n f ao cp R) (hn : n ≤ n') : Rm w Y r n' f ao cp R := ⟨H.c0, H.f0, H.h, H.own, H.nm, H.yr, H.hi, Nat.le_trans H.hn hn, H.ok.mono hn⟩
theorem Rm.wide {Y X : Nat → Prop} {w : World} {r n : Nat} {f : Tt} {ao : Option Addr} {cp : Nat} {R : List Rw} (H : Rm w Y r n f ao cp R) (hX : ∀ k, Y k → X k) : Rm w X r n f ao cp R := ⟨H.c0, H.f0, H.h, fun g o s e => ⟨hX g (H.own g o s e).1, (H.own g o s e).2⟩, fun x hx => (H.nm x hx).mono (fun k _ hq => ⟨hX k hq.1, hq.2⟩), hX _ H.yr, H.hi, H.hn, H.ok⟩
theorem Rm.fit {Y : Nat → Prop} {w : World} {r n : Nat} {f : Tt} {ao : Option Addr} {cp : Nat} {R : List Rw} (H : Rm w Y r n f ao cp R) : Rm w (fun k => Y k ∧ k < w.heap.size) r n f ao cp R := by
  refine ⟨H.c0, H.f0, H.h, fun g o s e => ?_, fun x hx => (H.nm x hx).mono (fun k hk hq => ⟨⟨hq.1, hk⟩, hq.2⟩), ⟨H.yr, H.lt⟩, H.hi, H.hn, H.ok⟩
  have hh := H.own g o s e
  rcases GRow.head H.h with ⟨e2, _⟩ | ⟨g2, e2, _, hl, _⟩
  · rw [e] at e2; cases e2
  · rw [e] at e2
    injection e2 with e2
    injection e2 with e2
    subst e2
    exact ⟨⟨hh.1, hl⟩, hh.2⟩
/-- A row's cells. -/
theorem Rm.row {w : World} {Y : Nat → Prop} {r n : Nat} {f : Tt} {ao : Option Addr} {cp : Nat} {R : List Rw} (H : Rm w Y r n f ao cp R) {j : Nat} (hj : j < R.length) : ∃ g, ao = some ⟨g, 0, none⟩ ∧ Y g ∧ g ≠ r ∧ g < w.heap.size ∧ R.length ≤ cp ∧ w.cell? ⟨g, j * 7, none⟩ = some (.int .i64 R[j].who) ∧ w.cell? ⟨g, j * 7 + 1, none⟩ = some (.int .i64 R[j].s.nx) ∧ w.cell? ⟨g, j * 7 + 2, none⟩ = some (.slice R[j].s.ao R[j].s.act.length R[j].s.cp) ∧ w.cell? ⟨g, j * 7 + 3, none⟩ = some (.int .i64 R[j].xid) ∧ w.cell? ⟨g, j * 7 + 4, none⟩ = some (.int .i64 R[j].fst) ∧ w.cell? ⟨g, j * 7 + 5, none⟩ = some (.int .i64 R[j].lst) ∧ w.cell? ⟨g, j * 7 + 6, none⟩ = some (.int .i64 R[j].und) := by
  obtain ⟨g, rfl, _, hl, hc, q⟩ := GRow.at_ H.h hj
  have hh := H.own g 0 none rfl
  exact ⟨g, rfl, hh.1, hh.2, hl, hc, q 0 _ (by decide) rfl, q 1 _ (by decide) rfl, q 2 _ (by decide) rfl, q 3 _ (by decide) rfl, q 4 _ (by decide) rfl, q 5 _ (by decide) rfl, q 6 _ (by decide) rfl⟩
theorem rnew_any (w : World) : Calls Try.prog 9 #[] w fun e w' => ∃ r, e = .returned (.pointer (some ⟨r, 0, none⟩)) ∧ Rm w' (fun k => w.heap.size ≤ k) r 0 Tt.none none 0 [] ∧ Only (fun _ => False) w w' := by
  go_enter Try.func9, Try.ntmps9
  go_wp2
  go_ret
  refine ⟨_, rfl, ⟨?_, ?_, GRow.nil _ _, (fun g o s e => by cases e), (fun x hx => by cases hx), Nat.le_refl _, RIs.start, Nat.le_refl _, Tt.Ok.none⟩, onlyA _ _ _⟩
  · simp
  · simp
/-- Where a row stands was returned. -/
structure RA (e : Ending) (R : List Rw) (a : Int) : Prop where
  ex : ∃ (i : Nat) (has : Bool), e = .returned (.tuple #[.int .i64 (i : Int), .bool has]) ∧ AtIs R a i has
set_option maxRecDepth 100000 in
set_option maxHeartbeats 1600000 in
theorem rat_any (w : World) (Y : Nat → Prop) (r n : Nat) (f : Tt) (ao : Option Addr) (cp : Nat) (R : List Rw) (H : Rm w Y r n f ao cp R) (hn : n ≤ 4398046511104) (a : Int) : Calls Try.prog 32 #[.pointer (some ⟨r, 0, none⟩), .int .i64 a] w fun e w' => RA e R a ∧ Only (fun _ => False) w w' := by
  have c0 := H.c0
  have hlen := H.hn
  have HH := hide H
  clear H
  go_enter Try.func32, Try.ntmps32
  go_wp2_with fail
  go_loop [6] (fun y => ∃ j : Nat, j ≤ R.length ∧ y = .int .i64 (j : Int) ∧ Hid (∀ q (hq : q < R.length), q < j → R[q].who < a)) (fun y => R.length - (intOf y).toNat)
  case atStart => exact ⟨0, by omega, rfl, (fun k _ hk => by omega)⟩
  case round =>
    obtain ⟨j, hj, rfl, HQ⟩ := hrel
    by_cases hlt : j < R.length
    · obtain ⟨g, rfl, _, _, _, hcp, k0, _⟩ := HH.out.row hlt
      obtain ⟨x, hx⟩ : ∃ x, R[j].who = x := ⟨_, rfl⟩
      have HX := hide hx
      rw [hx] at k0
      have hj0 : (0 : Int) ≤ (j : Int) := by omega
      have hj1 : (j : Int) < (R.length : Int) := by omega
      clear hx
      by_cases hbl : a ≤ x
      · have HBL := hide hbl
        by_cases he : x = a
        · have hb : (x == a) = true := by simp [he]
          have HE : Hid (AtIs R a j true) := ⟨hj, HQ.out, fun _ => by rw [HX.out]; exact HBL.out, ⟨fun _ => ⟨hlt, by rw [HX.out]; exact he⟩, fun _ => rfl⟩⟩
          clear he
          go_wp2_with fail
          go_region
          go_wp2_with fail
          go_ret2
          exact ⟨⟨j, true, rfl, HE.out⟩, Only.drew _ _⟩
        · have hb : (x == a) = false := by simp [he]
          have HE : Hid (AtIs R a j false) := ⟨hj, HQ.out, fun _ => by rw [HX.out]; exact HBL.out, ⟨(fun h => by cases h), (fun ⟨_, h⟩ => by rw [HX.out] at h; exact absurd h he)⟩⟩
          clear he
          go_wp2_with fail
          go_region
          go_wp2_with fail
          go_ret2
          exact ⟨⟨j, false, rfl, HE.out⟩, Only.drew _ _⟩
      · have HBL := hide hbl
        go_wp2_with fail
        refine ⟨⟨j + 1, by omega, by go_num, ?_⟩, by simp [intOf]; omega⟩
        intro q hq hqj
        by_cases eq : q = j
        · subst eq; rw [HX.out]; have := HBL.out; omega
        · exact HQ.out q hq (by omega)
    · have HE : Hid (AtIs R a R.length false) := ⟨Nat.le_refl _, fun q hq _ => HQ.out q hq (by omega), (fun h => by omega), ⟨(fun h => by cases h), (fun ⟨h, _⟩ => by omega)⟩⟩
      go_wp2_with fail
      go_ret2
      exact ⟨⟨R.length, false, rfl, HE.out⟩, Only.refl _ _⟩
end Go.Proofs.Ytmcghpeamnmbpaa
