/- What the document's Set does. -/
import Derived.Test.YtahmmhmahglonaaERefB
namespace Go.Proofs.Ytahmmhmahglonaa
open Go.RowKit Go.Maps

theorem LIs.set {f : Kn} {L : List (Int × Int)} (h : LIs f L) {who key : Int} (hn : f who = Option.none) {j : Nat} (hj : j ≤ L.length) (h1 : ∀ q (hq : q < L.length), q < j → L[q].1 < who) (h2 : ∀ hq : j < L.length, ¬ L[j].1 < who) :
    LIs (f.set who key) (L.take j ++ [(who, key)] ++ L.drop j) := by
  have hk : ∀ p ∈ L, p.1 ≠ who := fun p hp e => by
    have := (h.mem p.1 p.2).1 hp
    rw [e, hn] at this
    cases this
  have hup := h.up
  have hdrop : ∀ p ∈ L.drop j, who < p.1 := by
    intro p hp
    have hjl : j < L.length := by
      rcases Nat.lt_or_ge j L.length with e | e
      · exact e
      · rw [List.drop_eq_nil_of_le e] at hp; cases hp
    have hj2 : who < L[j].1 := by
      have hne := hk L[j] (List.getElem_mem hjl)
      have := h2 hjl
      omega
    rw [List.drop_eq_getElem_cons hjl] at hp
    rcases List.mem_cons.1 hp with e | e
    · rw [e]; exact hj2
    · have hpw : (L.drop j).Pairwise (fun p q => p.1 < q.1) := hup.sublist (List.drop_sublist _ _)
      rw [List.drop_eq_getElem_cons hjl] at hpw
      have := (List.pairwise_cons.1 hpw).1 p e
      omega
  have htake : ∀ p ∈ L.take j, p.1 < who := by
    intro p hp
    obtain ⟨q, hq, rfl⟩ := List.getElem_of_mem hp
    rw [List.length_take] at hq
    rw [List.getElem_take]
    exact h1 q (by omega) (by omega)
  refine ⟨?_, fun k b => ?_⟩
  · rw [List.append_assoc]
    refine List.pairwise_append.2 ⟨hup.sublist (List.take_sublist _ _), ?_, ?_⟩
    · exact List.pairwise_cons.2 ⟨hdrop, hup.sublist (List.drop_sublist _ _)⟩
    · intro p hp q hq
      rcases List.mem_cons.1 hq with e | e
      · rw [e]; exact htake p hp
      · have := htake p hp
        have := hdrop q e
        omega
  · have hmem : (k, b) ∈ L.take j ++ [(who, key)] ++ L.drop j ↔ ((k, b) = (who, key) ∨ (k, b) ∈ L) := by
      have e := List.take_append_drop j L
      constructor
      · intro hm
        rcases List.mem_append.1 hm with hm | hm
        · rcases List.mem_append.1 hm with hm | hm
          · exact .inr (List.mem_of_mem_take hm)
          · exact .inl (by simpa using hm)
        · exact .inr (List.mem_of_mem_drop hm)
      · rintro (hm | hm)
        · rw [hm]; simp
        · rw [← e] at hm
          rcases List.mem_append.1 hm with hm | hm
          · exact List.mem_append.2 (.inl (List.mem_append.2 (.inl hm)))
          · exact List.mem_append.2 (.inr hm)
    rw [hmem, h.mem k b]
    simp only [Kn.set]
    by_cases e : k = who
    · subst e
      simp [hn, eq_comm]
    · simp [e]
theorem ORow.srcT {w : World} {base cp : Nat} {ao : Option Addr} {L : List (Int × Int)} (h : ORow w base (.slice ao L.length cp) L) {j : Nat} (hj : j ≤ L.length) : OSrc w ao j (L.take j) := by
  refine ⟨by rw [List.length_take]; omega, ?_⟩
  have h' := h
  rcases h.2 with ⟨e, h0⟩ | ⟨g, cap, cur, e, _⟩
  · injection e with e1 e2 e3
    subst e1
    exact .inl ⟨rfl, by omega⟩
  · injection e with e1 e2 e3
    subst e1
    refine .inr ⟨_, rfl, fun i u hu => ?_⟩
    rw [add_at, Nat.zero_add]
    refine ORow.cells h' i u ?_
    have e : ocells L = ocells (L.take j) ++ ocells (L.drop j) := by rw [← ocells_append, List.take_append_drop]
    rw [e, List.getElem?_append_left (List.getElem?_eq_some_iff.1 hu).1]
    exact hu
theorem ORow.srcD {w : World} {base cp g : Nat} {L : List (Int × Int)} (h : ORow w base (.slice (some ⟨g, 0, none⟩) L.length cp) L) {j : Nat} (hj : j ≤ L.length) {A2 : Option Addr} (hA : (if cp = j then some (⟨g, 0, none⟩ : Addr) else some ⟨g, j * 2, none⟩) = A2) : OSrc w A2 (L.length - j) (L.drop j) := by
  refine ⟨by rw [List.length_drop], ?_⟩
  have h' := h
  rcases h.2 with ⟨e, _⟩ | ⟨g', cap, cur, e, _, _, hc, _⟩
  · cases e
  · injection e with e1 e2 e3
    subst e3
    refine .inr ?_
    by_cases hcj : cp = j
    · rw [if_pos hcj] at hA
      refine ⟨_, hA.symm, fun i u hu => ?_⟩
      have : L.drop j = [] := List.drop_eq_nil_of_le (by omega)
      rw [this] at hu
      simp [ocells] at hu
    · rw [if_neg hcj] at hA
      refine ⟨_, hA.symm, fun i u hu => ?_⟩
      rw [add_at]
      refine ORow.cells h' _ u ?_
      have e : ocells L = ocells (L.take j) ++ ocells (L.drop j) := by rw [← ocells_append, List.take_append_drop]
      have hl : (ocells (L.take j)).length = j * 2 := by rw [ocells_length, List.length_take]; omega
      rw [e, List.getElem?_append_right (by omega), hl]
      rw [show j * 2 + i - j * 2 = i by omega]
      exact hu
theorem ins_run {w : World} {base cp : Nat} {ao : Option Addr} {L : List (Int × Int)} (h : ORow w base (.slice ao L.length cp) L) {j : Nat} (hj : j ≤ L.length) (hn : L.length + 1 ≤ 5864062014701) (key : Int) (who : Int) {A2 : Option Addr}
    (hA : OSrc w A2 (L.length - j) (L.drop j)) :
    ∃ v1 w2 v2 w3 a3 c3 w4, (Builtin.append_ #[44, 44] 44 #[.slice none 0 0, .slice ao j cp]).run Try.prog w = .ok v1 w2
      ∧ (Builtin.append_ #[44, 44] 44 #[v1, .slice (some ⟨w2.heap.size, 0, none⟩) 1 1]).run Try.prog (w2.alloc (.cells #[.int .i64 key, .int .i64 who] 48)) = .ok v2 w3
      ∧ (Builtin.append_ #[44, 44] 44 #[v2, .slice A2 (L.length - j) (cp - j)]).run Try.prog w3 = .ok (.slice a3 (L.take j ++ [(key, who)] ++ L.drop j).length c3) w4
      ∧ ORow w4 w.heap.size (.slice a3 (L.take j ++ [(key, who)] ++ L.drop j).length c3) (L.take j ++ [(key, who)] ++ L.drop j)
      ∧ Only (fun _ => False) w w2 ∧ Only (fun _ => False) w w3 ∧ Only (fun _ => False) w w4 := by
  obtain ⟨v1, w2, r1, q1, g1, _⟩ := orow_append (ORow.nil w w.heap.size) (h.srcT hj) (by simp; omega) (Nat.le_refl _) cp
  rw [List.nil_append] at q1
  have o1 : Only (fun _ => False) w w2 := Only.grown g1 (fun k hk => by cases hk)
  have hl1 : (L.take j).length = j := by rw [List.length_take]; omega
  obtain ⟨v2, w3, r2, q2, g2⟩ := orow_one q1 key who (by omega) o1.size 1
  have o2 : Only (fun _ => False) w w3 := o1.trans g2 (fun i hi e => by omega)
  have hA3 : OSrc w3 A2 (L.length - j) (L.drop j) := by
    obtain ⟨e1, e2 | ⟨a, ha, hc⟩⟩ := hA
    · exact ⟨e1, .inl e2⟩
    · refine ⟨e1, .inr ⟨a, ha, fun i u hu => ?_⟩⟩
      have := hc i u hu
      exact (o2.cell (p := a.add i) (World.block_lt_of_cell? w _ this) id).trans this
  obtain ⟨v3, w4, r3, q3, g3, _⟩ := orow_append q2 hA3 (by rw [List.length_append]; simp; omega) o2.size (cp - j)
  obtain ⟨a3, c3, rfl⟩ := q3.form
  exact ⟨v1, w2, v2, w3, a3, c3, w4, r1, r2, r3, q3, o1, o2, o2.trans (Only.grown (S := fun i => w.heap.size ≤ i) g3 (fun b hb => (q2.low b hb).1)) (fun i hi e => by omega)⟩
theorem Kn.drop_set (f : Kn) (p r : Int) : (f.drop p).set p r = f.set p r := by
  funext j
  simp only [Kn.drop, Kn.set]
  by_cases e : j = p
  · simp [e]
  · simp [e]
set_option maxRecDepth 100000 in
set_option maxHeartbeats 3200000 in
theorem iset_any (w : World) (r base n : Nat) (f : Kn) (ao : Option Addr) (cp : Nat) (L0 : List (Int × Int)) (H : Rm w r base n f ao cp L0) (hn : n < 5864062014700) (hb : base ≤ w.heap.size) (page room : Int) :
    Calls Try.prog 12 #[.pointer (some ⟨r, 0, none⟩), .int .i64 page, .int .i64 room] w fun e w' => e = .returned (.tuple #[]) ∧ (∃ a2 c2 L2, Rm w' r base (n + 1) (f.set page room) a2 c2 L2) ∧ Only (fun i => i = r) w w' := by
  have HQ := hide (idrop_any w r base n f ao cp L0 H (by omega) hb page)
  have HNO : Hid (f.drop page page = none) := by show f.drop page page = none; simp [Kn.drop]
  clear H
  go_enter Try.func12, Try.ntmps12
  go_wp2_with fail
  refine HQ.out.mono ?_
  rintro e w1 ⟨rfl, ⟨aH, cH, L, H1⟩, hO1⟩
  have HR1 := hide H1
  have HO1 := hide hO1
  have hs1 := hO1.size
  have hhl := H1.hn
  have hr1 := World.block_lt_of_cell? w1 _ H1.c0
  have c0 := H1.c0
  clear H1 hO1 HQ
  go_wp2_with fail
  go_loop [6] (fun y => ∃ j : Nat, j ≤ L.length ∧ y = .int .i64 (j : Int) ∧ Hid (∀ q (hq : q < L.length), q < j → L[q].1 < page)) (fun y => L.length - (intOf y).toNat)
  case atStart => exact ⟨0, by omega, rfl, (fun k _ hk => by omega)⟩
  case round =>
    obtain ⟨j, hj, rfl, HQ⟩ := hrel
    by_cases hlt : j < L.length
    · obtain ⟨g, e1, _, _, hcp, k1, k2⟩ := HR1.out.h.at_ hlt
      obtain ⟨x, hx⟩ : ∃ x, L[j].1 = x := ⟨_, rfl⟩
      have HX := hide hx
      rw [hx] at k1
      clear hx
      subst e1
      by_cases hbl : x < page
      · have HBL := hide hbl
        go_wp2_with fail
        refine ⟨⟨j + 1, by omega, by go_num, ?_⟩, by simp [intOf]; omega⟩
        intro q hq hqj
        by_cases eq : q = j
        · subst eq; rw [HX.out]; exact HBL.out
        · exact HQ.out q hq (by omega)
      · have HST : Hid (∀ hq : j < L.length, ¬ L[j].1 < page) := fun hq => by rw [HX.out]; exact hbl
        have hA2 : (if cH = j then some (⟨g, 0, none⟩ : Addr) else some ⟨g, j * 2, none⟩) = some ⟨g, j * 2, none⟩ := if_neg (by omega)
        obtain ⟨v1, w2, v2, w3, a3, c3, w4, r1, r2, r3, q3, o1, o2, o3⟩ := ins_run HR1.out.h hj (by omega) page room (HR1.out.h.srcD hj hA2)
        have HI := hide (HR1.out.hi.set (key := room) HNO.out hj HQ.out HST.out)
        have hll : (L.take j ++ [(page, room)] ++ L.drop j).length ≤ n + 1 := by
          simp only [List.length_append, List.length_take, List.length_drop, List.length_singleton]
          omega
        obtain ⟨NL, hNL⟩ : ∃ l, L.take j ++ [(page, room)] ++ L.drop j = l := ⟨_, rfl⟩
        rw [hNL] at r3 q3 HI hll
        have HA1 := hide r1
        have HA2 := hide r2
        have HA3 := hide r3
        have c02 : w2.cell? ⟨r, 0, none⟩ = some (.slice (some ⟨g, 0, none⟩) L.length cH) := (HR1.out.more o1).c0
        have c03 : w3.cell? ⟨r, 0, none⟩ = some (.slice (some ⟨g, 0, none⟩) L.length cH) := (HR1.out.more o2).c0
        have c04 : w4.cell? ⟨r, 0, none⟩ = some (.slice (some ⟨g, 0, none⟩) L.length cH) := (HR1.out.more o3).c0
        have f04 : w4.frozen? ⟨r, 0, none⟩ = false := (HR1.out.more o3).f0
        have HR4 := hide (HR1.out.more o3)
        have HQ3 := hide q3
        have HO3 := hide o3
        have hjc : (j : Int) ≤ (cH : Int) := by omega
        have hjl : (j : Int) ≤ (L.length : Int) := by omega
        have hlc : (L.length : Int) ≤ (cH : Int) := by omega
        clear r1 r2 r3 q3 o1 o2 o3 hNL
        go_upto_region 5 with fail
        go_upto_region 6 with (at_builtin; go_must (refine Lib.wpList_append_run _ rfl (.tmp 32) (.tmp 38) _ _ rfl (.slice none 0 0) (.slice (some ⟨g, 0, none⟩) j cH) rfl rfl _ _ HA1.out ?_); go_frame)
        go_upto_region 7 with (at_builtin; go_must (refine Lib.wpList_append_run _ rfl (.tmp 40) (.tmp 44) _ _ rfl v1 (.slice (some ⟨w2.heap.size, 0, none⟩) 1 1) rfl rfl _ _ HA2.out ?_); go_frame)
        go_wp2_with (at_builtin; go_must (refine Lib.wpList_append_run _ rfl (.tmp 47) (.tmp 53) _ _ rfl v2 (.slice (some ⟨g, j * 2, none⟩) (L.length - j) (cH - j)) rfl rfl _ _ HA3.out ?_); go_frame)
        refine bodyPost_end (results_none rfl _ _ _) rfl ?_
        have HS : Only (fun i => i = r) w4 (w4.setCell ⟨r, 0, none⟩ (.slice a3 NL.length c3)) := Only.setCell (S := fun i => i = r) w4 ⟨r, 0, none⟩ _ rfl
        refine ⟨rfl, ⟨a3, c3, NL, ?_⟩, (HO1.out.trans HO3.out (fun _ _ e => e.elim)).trans HS (fun _ _ e => e)⟩
        have hx := HR4.out.set (n' := n + 1) (HQ3.out.base (by omega)) HI.out hll
        rw [Kn.drop_set] at hx
        exact hx
    · have HST : Hid (∀ hq : j < L.length, ¬ L[j].1 < page) := fun hq => absurd hq hlt
      rcases HR1.out.h.2 with ⟨e, h0⟩ | ⟨g, cap, cur, e, _, _, hcp, _⟩
      · injection e with e1 e2 e3
        subst e1
        subst e3
        have hL0 : L = [] := List.eq_nil_of_length_eq_zero h0
        subst hL0
        obtain rfl : j = 0 := by simpa using hj
        obtain ⟨v1, w2, v2, w3, a3, c3, w4, r1, r2, r3, q3, o1, o2, o3⟩ := ins_run (j := 0) HR1.out.h (Nat.le_refl _) (by simp) page room (A2 := none) ⟨by simp, .inl ⟨rfl, by simp⟩⟩
        have HI := hide (HR1.out.hi.set (key := room) HNO.out hj HQ.out HST.out)
        have hll : (([] : List (Int × Int)).take 0 ++ [(page, room)] ++ ([] : List (Int × Int)).drop 0).length ≤ n + 1 := by
          simp only [List.length_append, List.length_take, List.length_drop, List.length_singleton]
          omega
        obtain ⟨NL, hNL⟩ : ∃ l, ([] : List (Int × Int)).take 0 ++ [(page, room)] ++ ([] : List (Int × Int)).drop 0 = l := ⟨_, rfl⟩
        rw [hNL] at r3 q3 HI hll
        have HA1 := hide r1
        have HA2 := hide r2
        have HA3 := hide r3
        have c02 : w2.cell? ⟨r, 0, none⟩ = some (.slice none ([] : List (Int × Int)).length 0) := (HR1.out.more o1).c0
        have c03 : w3.cell? ⟨r, 0, none⟩ = some (.slice none ([] : List (Int × Int)).length 0) := (HR1.out.more o2).c0
        have c04 : w4.cell? ⟨r, 0, none⟩ = some (.slice none ([] : List (Int × Int)).length 0) := (HR1.out.more o3).c0
        have f04 : w4.frozen? ⟨r, 0, none⟩ = false := (HR1.out.more o3).f0
        have HR4 := hide (HR1.out.more o3)
        have HQ3 := hide q3
        have HO3 := hide o3
        have hjc : (0 : Int) ≤ (0 : Int) := by omega
        have hjl : (0 : Int) ≤ (([] : List (Int × Int)).length : Int) := by omega
        have hlc : (([] : List (Int × Int)).length : Int) ≤ (0 : Int) := by omega
        clear r1 r2 r3 q3 o1 o2 o3 hNL
        go_upto_region 5 with fail
        go_upto_region 6 with (at_builtin; go_must (refine Lib.wpList_append_run _ rfl (.tmp 32) (.tmp 38) _ _ rfl (.slice none 0 0) (.slice none 0 0) rfl rfl _ _ HA1.out ?_); go_frame)
        go_upto_region 7 with (at_builtin; go_must (refine Lib.wpList_append_run _ rfl (.tmp 40) (.tmp 44) _ _ rfl v1 (.slice (some ⟨w2.heap.size, 0, none⟩) 1 1) rfl rfl _ _ HA2.out ?_); go_frame)
        go_wp2_with (at_builtin; go_must (refine Lib.wpList_append_run _ rfl (.tmp 47) (.tmp 53) _ _ rfl v2 (.slice none 0 0) rfl rfl _ _ HA3.out ?_); go_frame)
        refine bodyPost_end (results_none rfl _ _ _) rfl ?_
        have HS : Only (fun i => i = r) w4 (w4.setCell ⟨r, 0, none⟩ (.slice a3 NL.length c3)) := Only.setCell (S := fun i => i = r) w4 ⟨r, 0, none⟩ _ rfl
        refine ⟨rfl, ⟨a3, c3, NL, ?_⟩, (HO1.out.trans HO3.out (fun _ _ e => e.elim)).trans HS (fun _ _ e => e)⟩
        have hx := HR4.out.set (n' := n + 1) (HQ3.out.base (by omega)) HI.out hll
        rw [Kn.drop_set] at hx
        exact hx
      · injection e with e1 e2 e3
        subst e1
        subst e3
        have hcp : L.length ≤ cH := hcp
        clear e2
        obtain ⟨A2, hA2⟩ : ∃ A2, (if cH = j then some (⟨g, 0, none⟩ : Addr) else some ⟨g, j * 2, none⟩) = A2 := ⟨_, rfl⟩
        obtain ⟨v1, w2, v2, w3, a3, c3, w4, r1, r2, r3, q3, o1, o2, o3⟩ := ins_run HR1.out.h hj (by omega) page room (HR1.out.h.srcD hj hA2)
        have HI := hide (HR1.out.hi.set (key := room) HNO.out hj HQ.out HST.out)
        have hll : (L.take j ++ [(page, room)] ++ L.drop j).length ≤ n + 1 := by
          simp only [List.length_append, List.length_take, List.length_drop, List.length_singleton]
          omega
        obtain ⟨NL, hNL⟩ : ∃ l, L.take j ++ [(page, room)] ++ L.drop j = l := ⟨_, rfl⟩
        rw [hNL] at r3 q3 HI hll
        have HA1 := hide r1
        have HA2 := hide r2
        have HA3 := hide r3
        have c02 : w2.cell? ⟨r, 0, none⟩ = some (.slice (some ⟨g, 0, none⟩) L.length cH) := (HR1.out.more o1).c0
        have c03 : w3.cell? ⟨r, 0, none⟩ = some (.slice (some ⟨g, 0, none⟩) L.length cH) := (HR1.out.more o2).c0
        have c04 : w4.cell? ⟨r, 0, none⟩ = some (.slice (some ⟨g, 0, none⟩) L.length cH) := (HR1.out.more o3).c0
        have f04 : w4.frozen? ⟨r, 0, none⟩ = false := (HR1.out.more o3).f0
        have HR4 := hide (HR1.out.more o3)
        have HQ3 := hide q3
        have HO3 := hide o3
        have hjc : (j : Int) ≤ (cH : Int) := by omega
        have hjl : (j : Int) ≤ (L.length : Int) := by omega
        have hlc : (L.length : Int) ≤ (cH : Int) := by omega
        clear r1 r2 r3 q3 o1 o2 o3 hNL
        go_upto_region 5 with fail
        go_upto_region 6 with (at_builtin; go_must (refine Lib.wpList_append_run _ rfl (.tmp 32) (.tmp 38) _ _ rfl (.slice none 0 0) (.slice (some ⟨g, 0, none⟩) j cH) rfl rfl _ _ HA1.out ?_); go_frame)
        go_upto_region 7 with (at_builtin; go_must (refine Lib.wpList_append_run _ rfl (.tmp 40) (.tmp 44) _ _ rfl v1 (.slice (some ⟨w2.heap.size, 0, none⟩) 1 1) rfl rfl _ _ HA2.out ?_); go_frame)
        go_wp2_with (at_builtin; go_must (refine Lib.wpList_append_run _ rfl (.tmp 47) (.tmp 53) _ _ rfl v2 (.slice A2 (L.length - j) (cH - j)) rfl rfl _ _ HA3.out ?_); go_frame)
        refine bodyPost_end (results_none rfl _ _ _) rfl ?_
        have HS : Only (fun i => i = r) w4 (w4.setCell ⟨r, 0, none⟩ (.slice a3 NL.length c3)) := Only.setCell (S := fun i => i = r) w4 ⟨r, 0, none⟩ _ rfl
        refine ⟨rfl, ⟨a3, c3, NL, ?_⟩, (HO1.out.trans HO3.out (fun _ _ e => e.elim)).trans HS (fun _ _ e => e)⟩
        have hx := HR4.out.set (n' := n + 1) (HQ3.out.base (by omega)) HI.out hll
        rw [Kn.drop_set] at hx
        exact hx
end Go.Proofs.Ytahmmhmahglonaa
