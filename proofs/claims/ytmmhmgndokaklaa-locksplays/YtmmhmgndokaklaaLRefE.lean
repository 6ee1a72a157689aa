/- What the document's Try does. -/
import Derived.Test.YtmmhmgndokaklaaLRefD
namespace Go.Proofs.Ytmmhmgndokaklaa
open Go.RowKit Go.Maps

/-- Where a key belongs: all ahead of it are less, none from it on is. -/
theorem HIs.grab {T : Tb} {L : List (ByteArray × Int)} (h : HIs T L) {who : Int} {key : ByteArray} (hn : T.hold key = Option.none) {j : Nat} (hj : j ≤ L.length) (h1 : ∀ q (hq : q < L.length), q < j → bl L[q].1 key) (h2 : ∀ hq : j < L.length, ¬ bl L[j].1 key) :
    HIs (T.grab who key) (L.take j ++ [(key, who)] ++ L.drop j) := by
  have hk : ∀ p ∈ L, p.1 ≠ key := fun p hp e => by
    have := (h.mem p.1 p.2).1 hp
    rw [e, hn] at this
    cases this
  have hup := h.up
  have hdrop : ∀ p ∈ L.drop j, bl key p.1 := by
    intro p hp
    have hjl : j < L.length := by
      rcases Nat.lt_or_ge j L.length with e | e
      · exact e
      · rw [List.drop_eq_nil_of_le e] at hp; cases hp
    have hj2 : bl key L[j].1 := by
      have hne := hk L[j] (List.getElem_mem hjl)
      have := h2 hjl
      unfold bl at this ⊢
      rcases List.le_iff_lt_or_eq.1 (List.not_lt.1 this) with e | e
      · exact e
      · exact absurd (ba_inj e).symm hne
    rw [List.drop_eq_getElem_cons hjl] at hp
    rcases List.mem_cons.1 hp with e | e
    · rw [e]; exact hj2
    · have hpw : (L.drop j).Pairwise (fun p q => bl p.1 q.1) := hup.sublist (List.drop_sublist _ _)
      rw [List.drop_eq_getElem_cons hjl] at hpw
      exact bl_trans hj2 ((List.pairwise_cons.1 hpw).1 p e)
  have htake : ∀ p ∈ L.take j, bl p.1 key := by
    intro p hp
    obtain ⟨q, hq, rfl⟩ := List.getElem_of_mem hp
    rw [List.length_take] at hq
    rw [List.getElem_take]
    exact h1 q (by omega) (by omega)
  refine ⟨?_, fun k b => ?_⟩
  · rw [List.append_assoc]
    refine List.pairwise_append.2 ⟨hup.sublist (List.take_sublist _ _), ?_, ?_⟩
    · exact List.pairwise_cons.2 ⟨hdrop, hup.sublist (List.drop_sublist _ _)⟩
    · intro p hp q hq
      rcases List.mem_cons.1 hq with e | e
      · rw [e]; exact htake p hp
      · exact bl_trans (htake p hp) (hdrop q e)
  · have hmem : (k, b) ∈ L.take j ++ [(key, who)] ++ L.drop j ↔ ((k, b) = (key, who) ∨ (k, b) ∈ L) := by
      have e := List.take_append_drop j L
      constructor
      · intro hm
        rcases List.mem_append.1 hm with hm | hm
        · rcases List.mem_append.1 hm with hm | hm
          · exact .inr (List.mem_of_mem_take hm)
          · exact .inl (by simpa using hm)
        · exact .inr (List.mem_of_mem_drop hm)
      · rintro (hm | hm)
        · rw [hm]; simp
        · rw [← e] at hm
          rcases List.mem_append.1 hm with hm | hm
          · exact List.mem_append.2 (.inl (List.mem_append.2 (.inl hm)))
          · exact List.mem_append.2 (.inr hm)
    rw [hmem, h.mem k b]
    simp only [Tb.grab]
    by_cases e : k = key
    · subst e
      simp [hn, eq_comm]
    · simp [e]
theorem WIs.queue {T : Tb} {L : List (ByteArray × Int)} (h : WIs T L) {who : Int} {key : ByteArray} (hn : T.wait who = Option.none) {j : Nat} (hj : j ≤ L.length) (h1 : ∀ q (hq : q < L.length), q < j → L[q].2 < who) (h2 : ∀ hq : j < L.length, ¬ L[j].2 < who) :
    WIs (T.queue who key) (L.take j ++ [(key, who)] ++ L.drop j) := by
  have hk : ∀ p ∈ L, p.2 ≠ who := fun p hp e => by
    have := (h.mem p.1 p.2).1 hp
    rw [e, hn] at this
    cases this
  have hup := h.up
  have hdrop : ∀ p ∈ L.drop j, who < p.2 := by
    intro p hp
    have hjl : j < L.length := by
      rcases Nat.lt_or_ge j L.length with e | e
      · exact e
      · rw [List.drop_eq_nil_of_le e] at hp; cases hp
    have hj2 : who < L[j].2 := by
      have hne := hk L[j] (List.getElem_mem hjl)
      have := h2 hjl
      omega
    rw [List.drop_eq_getElem_cons hjl] at hp
    rcases List.mem_cons.1 hp with e | e
    · rw [e]; exact hj2
    · have hpw : (L.drop j).Pairwise (fun p q => p.2 < q.2) := hup.sublist (List.drop_sublist _ _)
      rw [List.drop_eq_getElem_cons hjl] at hpw
      have := (List.pairwise_cons.1 hpw).1 p e
      omega
  have htake : ∀ p ∈ L.take j, p.2 < who := by
    intro p hp
    obtain ⟨q, hq, rfl⟩ := List.getElem_of_mem hp
    rw [List.length_take] at hq
    rw [List.getElem_take]
    exact h1 q (by omega) (by omega)
  refine ⟨?_, fun k b => ?_⟩
  · rw [List.append_assoc]
    refine List.pairwise_append.2 ⟨hup.sublist (List.take_sublist _ _), ?_, ?_⟩
    · exact List.pairwise_cons.2 ⟨hdrop, hup.sublist (List.drop_sublist _ _)⟩
    · intro p hp q hq
      rcases List.mem_cons.1 hq with e | e
      · rw [e]; exact htake p hp
      · have := htake p hp
        have := hdrop q e
        omega
  · have hmem : (k, b) ∈ L.take j ++ [(key, who)] ++ L.drop j ↔ ((k, b) = (key, who) ∨ (k, b) ∈ L) := by
      have e := List.take_append_drop j L
      constructor
      · intro hm
        rcases List.mem_append.1 hm with hm | hm
        · rcases List.mem_append.1 hm with hm | hm
          · exact .inr (List.mem_of_mem_take hm)
          · exact .inl (by simpa using hm)
        · exact .inr (List.mem_of_mem_drop hm)
      · rintro (hm | hm)
        · rw [hm]; simp
        · rw [← e] at hm
          rcases List.mem_append.1 hm with hm | hm
          · exact List.mem_append.2 (.inl (List.mem_append.2 (.inl hm)))
          · exact List.mem_append.2 (.inr hm)
    rw [hmem, h.mem k b]
    simp only [Tb.queue]
    by_cases e : b = who
    · subst e
      simp [hn, eq_comm]
    · simp [e]
/-- The first part of a row, as what is appended. -/
theorem HRow.srcT {w : World} {base cp : Nat} {ao : Option Addr} {L : List (ByteArray × Int)} (h : HRow w base (.slice ao L.length cp) L) {j : Nat} (hj : j ≤ L.length) : HSrc w ao j (L.take j) := by
  refine ⟨by rw [List.length_take]; omega, ?_⟩
  have h' := h
  rcases h.2 with ⟨e, h0⟩ | ⟨g, cap, cur, e, _⟩
  · injection e with e1 e2 e3
    subst e1
    exact .inl ⟨rfl, by omega⟩
  · injection e with e1 e2 e3
    subst e1
    refine .inr ⟨_, rfl, fun i u hu => ?_⟩
    rw [add_at, Nat.zero_add]
    refine HRow.cells h' i u ?_
    have e : hcells L = hcells (L.take j) ++ hcells (L.drop j) := by rw [← hcells_append, List.take_append_drop]
    rw [e, List.getElem?_append_left (List.getElem?_eq_some_iff.1 hu).1]
    exact hu
/-- The rest of a row, as what is appended. -/
theorem HRow.srcD {w : World} {base cp g : Nat} {L : List (ByteArray × Int)} (h : HRow w base (.slice (some ⟨g, 0, none⟩) L.length cp) L) {j : Nat} (hj : j ≤ L.length) {A2 : Option Addr} (hA : (if cp = j then some (⟨g, 0, none⟩ : Addr) else some ⟨g, j * 2, none⟩) = A2) : HSrc w A2 (L.length - j) (L.drop j) := by
  refine ⟨by rw [List.length_drop], ?_⟩
  have h' := h
  rcases h.2 with ⟨e, _⟩ | ⟨g', cap, cur, e, _, _, hc, _⟩
  · cases e
  · injection e with e1 e2 e3
    subst e3
    refine .inr ?_
    by_cases hcj : cp = j
    · rw [if_pos hcj] at hA
      refine ⟨_, hA.symm, fun i u hu => ?_⟩
      have : L.drop j = [] := List.drop_eq_nil_of_le (by omega)
      rw [this] at hu
      simp [hcells] at hu
    · rw [if_neg hcj] at hA
      refine ⟨_, hA.symm, fun i u hu => ?_⟩
      rw [add_at]
      refine HRow.cells h' _ u ?_
      have e : hcells L = hcells (L.take j) ++ hcells (L.drop j) := by rw [← hcells_append, List.take_append_drop]
      have hl : (hcells (L.take j)).length = j * 2 := by rw [hcells_length, List.length_take]; omega
      rw [e, List.getElem?_append_right (by omega), hl]
      rw [show j * 2 + i - j * 2 = i by omega]
      exact hu
theorem Tb.grab_same {T : Tb} {who : Int} {key : ByteArray} (h : T.hold key = some who) : T.grab who key = T := by
  unfold Tb.grab
  have : (fun k => if k = key then some who else T.hold k) = T.hold := by
    funext k
    by_cases e : k = key
    · simp [e, h]
    · simp [e]
  rw [this]
theorem bless_yes {a b : ByteArray} (h : bl a b) : Op.bytesLess a.toList b.toList = true := by
  rw [bytesLess_eq, ByteArray.toList_eq, ByteArray.toList_eq]
  exact decide_eq_true h
theorem bless_no {a b : ByteArray} (h : ¬ bl a b) : Op.bytesLess a.toList b.toList = false := by
  rw [bytesLess_eq, ByteArray.toList_eq, ByteArray.toList_eq]
  exact decide_eq_false h
theorem ins_run {w : World} {base cp : Nat} {ao : Option Addr} {L : List (ByteArray × Int)} (h : HRow w base (.slice ao L.length cp) L) {j : Nat} (hj : j ≤ L.length) (hn : L.length + 1 ≤ 4398046511105) (key : ByteArray) (who : Int) {A2 : Option Addr}
    (hA : HSrc w A2 (L.length - j) (L.drop j)) :
    ∃ v1 w2 v2 w3 a3 c3 w4, (Builtin.append_ #[25, 25] 25 #[.slice none 0 0, .slice ao j cp]).run Try.prog w = .ok v1 w2
      ∧ (Builtin.append_ #[25, 25] 25 #[v1, .slice (some ⟨w2.heap.size, 0, none⟩) 1 1]).run Try.prog (w2.alloc (.cells #[.string key, .int .i64 who] 55)) = .ok v2 w3
      ∧ (Builtin.append_ #[25, 25] 25 #[v2, .slice A2 (L.length - j) (cp - j)]).run Try.prog w3 = .ok (.slice a3 (L.take j ++ [(key, who)] ++ L.drop j).length c3) w4
      ∧ HRow w4 w.heap.size (.slice a3 (L.take j ++ [(key, who)] ++ L.drop j).length c3) (L.take j ++ [(key, who)] ++ L.drop j)
      ∧ Only (fun _ => False) w w2 ∧ Only (fun _ => False) w w3 ∧ Only (fun _ => False) w w4 := by
  obtain ⟨v1, w2, r1, q1, g1, _⟩ := hrow_append (HRow.nil w w.heap.size) (h.srcT hj) (by simp; omega) (Nat.le_refl _) cp
  rw [List.nil_append] at q1
  have o1 : Only (fun _ => False) w w2 := Only.grown g1 (fun k hk => by cases hk)
  have hl1 : (L.take j).length = j := by rw [List.length_take]; omega
  obtain ⟨v2, w3, r2, q2, g2⟩ := hrow_one q1 key who (by omega) o1.size 1
  have o2 : Only (fun _ => False) w w3 := o1.trans g2 (fun i hi e => by omega)
  have hA3 : HSrc w3 A2 (L.length - j) (L.drop j) := by
    obtain ⟨e1, e2 | ⟨a, ha, hc⟩⟩ := hA
    · exact ⟨e1, .inl e2⟩
    · refine ⟨e1, .inr ⟨a, ha, fun i u hu => ?_⟩⟩
      have := hc i u hu
      exact (o2.cell (p := a.add i) (World.block_lt_of_cell? w _ this) id).trans this
  obtain ⟨v3, w4, r3, q3, g3, _⟩ := hrow_append q2 hA3 (by rw [List.length_append]; simp; omega) o2.size (cp - j)
  obtain ⟨a3, c3, rfl⟩ := q3.form
  exact ⟨v1, w2, v2, w3, a3, c3, w4, r1, r2, r3, q3, o1, o2, o2.trans (Only.grown (S := fun i => w.heap.size ≤ i) g3 (fun b hb => (q2.low b hb).1)) (fun i hi e => by omega)⟩
set_option maxRecDepth 100000 in
set_option maxHeartbeats 3200000 in
theorem jtry_none (w : World) (r base n : Nat) (T : Tb) (aH aW : Option Addr) (cH cW : Nat) (HL WL : List (ByteArray × Int)) (H : Rt w r base n T aH aW cH cW HL WL) (hn : n < 4398046511104) (hb : base ≤ w.heap.size) (who : Int) (key : ByteArray) (hno : T.hold key = none) :
    Calls Try.prog 13 #[.pointer (some ⟨r, 0, none⟩), .int .i64 who, .string key] w fun e w' => ∃ aH' cH' aW' cW' HL' WL', e = .returned (.tuple #[.bool true, .int .i64 0]) ∧ Rt w' r base (n + 1) ((T.quit who).grab who key) aH' aW' cH' cW' HL' WL' ∧ Only (fun i => i = r) w w' := by
  have HQ := hide (jquit_any w r base n T aH aW cH cW HL WL H (by omega) hb who)
  have HNO : Hid ((T.quit who).hold key = none) := hno
  clear H hno
  go_enter Try.func13, Try.ntmps13
  go_wp2_with fail
  refine HQ.out.mono ?_
  rintro e w1 ⟨aW1, cW1, WL1, rfl, H1, hO1⟩
  have HR1 := hide H1
  have HO1 := hide hO1
  have hs1 := hO1.size
  have hhl := H1.hn
  have hr1 := World.block_lt_of_cell? w1 _ H1.c0
  have hho := jholder_any w1 r base n _ _ _ _ _ _ _ H1 (by omega) key
  rw [HNO.out] at hho
  simp only [Option.getD_none, Option.isSome_none] at hho
  have HHO := hide hho
  have c0 := H1.c0
  clear H1 hO1 HQ hho
  go_wp2_with fail
  refine HHO.out.mono ?_
  rintro e wx ⟨rfl, hw⟩
  obtain rfl := hw.symm
  clear hw HHO
  go_wp2_with fail
  go_loop [10] (fun y => ∃ j : Nat, j ≤ HL.length ∧ y = .int .i64 (j : Int) ∧ Hid (∀ q (hq : q < HL.length), q < j → bl HL[q].1 key)) (fun y => HL.length - (intOf y).toNat)
  case atStart => exact ⟨0, by omega, rfl, (fun k _ hk => by omega)⟩
  case round =>
    obtain ⟨j, hj, rfl, HQ⟩ := hrel
    by_cases hlt : j < HL.length
    · obtain ⟨g, e1, _, _, hcp, k1, k2⟩ := HR1.out.h.at_ hlt
      obtain ⟨x, hx⟩ : ∃ x, HL[j].1 = x := ⟨_, rfl⟩
      have HX := hide hx
      rw [hx] at k1
      clear hx
      subst e1
      by_cases hbl : bl x key
      · have hbb := bless_yes hbl
        have HBL := hide hbl
        clear hbl
        go_wp2_with fail
        refine ⟨⟨j + 1, by omega, by go_num, ?_⟩, by simp [intOf]; omega⟩
        intro q hq hqj
        by_cases eq : q = j
        · subst eq; rw [HX.out]; exact HBL.out
        · exact HQ.out q hq (by omega)
      · have hbb := bless_no hbl
        have HST : Hid (∀ hq : j < HL.length, ¬ bl HL[j].1 key) := fun hq => by rw [HX.out]; exact hbl
        clear hbl
        have hA2 : (if cH = j then some (⟨g, 0, none⟩ : Addr) else some ⟨g, j * 2, none⟩) = some ⟨g, j * 2, none⟩ := if_neg (by omega)
        obtain ⟨v1, w2, v2, w3, a3, c3, w4, r1, r2, r3, q3, o1, o2, o3⟩ := ins_run HR1.out.h hj (by omega) key who (HR1.out.h.srcD hj hA2)
        have HI := hide (HR1.out.hi.grab (who := who) HNO.out hj HQ.out HST.out)
        have hll : (HL.take j ++ [(key, who)] ++ HL.drop j).length ≤ n + 1 := by
          simp only [List.length_append, List.length_take, List.length_drop, List.length_singleton]
          omega
        obtain ⟨NL, hNL⟩ : ∃ l, HL.take j ++ [(key, who)] ++ HL.drop j = l := ⟨_, rfl⟩
        rw [hNL] at r3 q3 HI hll
        have HA1 := hide r1
        have HA2 := hide r2
        have HA3 := hide r3
        have c02 : w2.cell? ⟨r, 0, none⟩ = some (.slice (some ⟨g, 0, none⟩) HL.length cH) := (HR1.out.more o1).c0
        have c03 : w3.cell? ⟨r, 0, none⟩ = some (.slice (some ⟨g, 0, none⟩) HL.length cH) := (HR1.out.more o2).c0
        have c04 : w4.cell? ⟨r, 0, none⟩ = some (.slice (some ⟨g, 0, none⟩) HL.length cH) := (HR1.out.more o3).c0
        have f04 : w4.frozen? ⟨r, 0, none⟩ = false := (HR1.out.more o3).f0
        have HR4 := hide (HR1.out.more o3)
        have HQ3 := hide q3
        have HO3 := hide o3
        have hjc : (j : Int) ≤ (cH : Int) := by omega
        have hjl : (j : Int) ≤ (HL.length : Int) := by omega
        have hlc : (HL.length : Int) ≤ (cH : Int) := by omega
        clear r1 r2 r3 q3 o1 o2 o3 hNL
        go_upto_region 10 with fail
        go_upto_region 11 with (at_builtin; go_must (refine Lib.wpList_append_run _ rfl (.tmp 52) (.tmp 58) _ _ rfl (.slice none 0 0) (.slice (some ⟨g, 0, none⟩) j cH) rfl rfl _ _ HA1.out ?_); go_frame)
        go_upto_region 12 with (at_builtin; go_must (refine Lib.wpList_append_run _ rfl (.tmp 60) (.tmp 64) _ _ rfl v1 (.slice (some ⟨w2.heap.size, 0, none⟩) 1 1) rfl rfl _ _ HA2.out ?_); go_frame)
        go_wp2_with (at_builtin; go_must (refine Lib.wpList_append_run _ rfl (.tmp 67) (.tmp 73) _ _ rfl v2 (.slice (some ⟨g, j * 2, none⟩) (HL.length - j) (cH - j)) rfl rfl _ _ HA3.out ?_); go_frame)
        go_ret2
        have HS : Only (fun i => i = r) w4 (w4.setCell ⟨r, 0, none⟩ (.slice a3 NL.length c3)) := Only.setCell (S := fun i => i = r) w4 ⟨r, 0, none⟩ _ rfl
        exact ⟨rfl, ⟨a3, c3, aW1, cW1, NL, WL1, HR4.out.setH rfl (HQ3.out.base (by omega)) HI.out (by omega) hll⟩, (HO1.out.trans HO3.out (fun _ _ e => e.elim)).trans HS (fun _ _ e => e)⟩
    · have HST : Hid (∀ hq : j < HL.length, ¬ bl HL[j].1 key) := fun hq => absurd hq hlt
      rcases HR1.out.h.2 with ⟨e, h0⟩ | ⟨g, cap, cur, e, _, _, hcp, _⟩
      · injection e with e1 e2 e3
        subst e1
        subst e3
        have hL0 : HL = [] := List.eq_nil_of_length_eq_zero h0
        subst hL0
        obtain rfl : j = 0 := by simpa using hj
        obtain ⟨v1, w2, v2, w3, a3, c3, w4, r1, r2, r3, q3, o1, o2, o3⟩ := ins_run (j := 0) HR1.out.h (Nat.le_refl _) (by simp) key who (A2 := none) ⟨by simp, .inl ⟨rfl, by simp⟩⟩
        have HI := hide (HR1.out.hi.grab (who := who) HNO.out hj HQ.out HST.out)
        have hll : (([] : List (ByteArray × Int)).take 0 ++ [(key, who)] ++ ([] : List (ByteArray × Int)).drop 0).length ≤ n + 1 := by
          simp only [List.length_append, List.length_take, List.length_drop, List.length_singleton]
          omega
        obtain ⟨NL, hNL⟩ : ∃ l, ([] : List (ByteArray × Int)).take 0 ++ [(key, who)] ++ ([] : List (ByteArray × Int)).drop 0 = l := ⟨_, rfl⟩
        rw [hNL] at r3 q3 HI hll
        have HA1 := hide r1
        have HA2 := hide r2
        have HA3 := hide r3
        have c02 : w2.cell? ⟨r, 0, none⟩ = some (.slice none ([] : List (ByteArray × Int)).length 0) := (HR1.out.more o1).c0
        have c03 : w3.cell? ⟨r, 0, none⟩ = some (.slice none ([] : List (ByteArray × Int)).length 0) := (HR1.out.more o2).c0
        have c04 : w4.cell? ⟨r, 0, none⟩ = some (.slice none ([] : List (ByteArray × Int)).length 0) := (HR1.out.more o3).c0
        have f04 : w4.frozen? ⟨r, 0, none⟩ = false := (HR1.out.more o3).f0
        have HR4 := hide (HR1.out.more o3)
        have HQ3 := hide q3
        have HO3 := hide o3
        have hjc : (0 : Int) ≤ (0 : Int) := by omega
        have hjl : (0 : Int) ≤ (([] : List (ByteArray × Int)).length : Int) := by omega
        have hlc : (([] : List (ByteArray × Int)).length : Int) ≤ (0 : Int) := by omega
        clear r1 r2 r3 q3 o1 o2 o3 hNL
        go_upto_region 10 with fail
        go_upto_region 11 with (at_builtin; go_must (refine Lib.wpList_append_run _ rfl (.tmp 52) (.tmp 58) _ _ rfl (.slice none 0 0) (.slice none 0 0) rfl rfl _ _ HA1.out ?_); go_frame)
        go_upto_region 12 with (at_builtin; go_must (refine Lib.wpList_append_run _ rfl (.tmp 60) (.tmp 64) _ _ rfl v1 (.slice (some ⟨w2.heap.size, 0, none⟩) 1 1) rfl rfl _ _ HA2.out ?_); go_frame)
        go_wp2_with (at_builtin; go_must (refine Lib.wpList_append_run _ rfl (.tmp 67) (.tmp 73) _ _ rfl v2 (.slice none 0 0) rfl rfl _ _ HA3.out ?_); go_frame)
        go_ret2
        have HS : Only (fun i => i = r) w4 (w4.setCell ⟨r, 0, none⟩ (.slice a3 NL.length c3)) := Only.setCell (S := fun i => i = r) w4 ⟨r, 0, none⟩ _ rfl
        exact ⟨rfl, ⟨a3, c3, aW1, cW1, NL, WL1, HR4.out.setH rfl (HQ3.out.base (by omega)) HI.out (by omega) hll⟩, (HO1.out.trans HO3.out (fun _ _ e => e.elim)).trans HS (fun _ _ e => e)⟩
      · injection e with e1 e2 e3
        subst e1
        subst e3
        have hcp : HL.length ≤ cH := hcp
        clear e2
        obtain ⟨A2, hA2⟩ : ∃ A2, (if cH = j then some (⟨g, 0, none⟩ : Addr) else some ⟨g, j * 2, none⟩) = A2 := ⟨_, rfl⟩
        obtain ⟨v1, w2, v2, w3, a3, c3, w4, r1, r2, r3, q3, o1, o2, o3⟩ := ins_run HR1.out.h hj (by omega) key who (HR1.out.h.srcD hj hA2)
        have HI := hide (HR1.out.hi.grab (who := who) HNO.out hj HQ.out HST.out)
        have hll : (HL.take j ++ [(key, who)] ++ HL.drop j).length ≤ n + 1 := by
          simp only [List.length_append, List.length_take, List.length_drop, List.length_singleton]
          omega
        obtain ⟨NL, hNL⟩ : ∃ l, HL.take j ++ [(key, who)] ++ HL.drop j = l := ⟨_, rfl⟩
        rw [hNL] at r3 q3 HI hll
        have HA1 := hide r1
        have HA2 := hide r2
        have HA3 := hide r3
        have c02 : w2.cell? ⟨r, 0, none⟩ = some (.slice (some ⟨g, 0, none⟩) HL.length cH) := (HR1.out.more o1).c0
        have c03 : w3.cell? ⟨r, 0, none⟩ = some (.slice (some ⟨g, 0, none⟩) HL.length cH) := (HR1.out.more o2).c0
        have c04 : w4.cell? ⟨r, 0, none⟩ = some (.slice (some ⟨g, 0, none⟩) HL.length cH) := (HR1.out.more o3).c0
        have f04 : w4.frozen? ⟨r, 0, none⟩ = false := (HR1.out.more o3).f0
        have HR4 := hide (HR1.out.more o3)
        have HQ3 := hide q3
        have HO3 := hide o3
        have hjc : (j : Int) ≤ (cH : Int) := by omega
        have hjl : (j : Int) ≤ (HL.length : Int) := by omega
        have hlc : (HL.length : Int) ≤ (cH : Int) := by omega
        clear r1 r2 r3 q3 o1 o2 o3 hNL
        go_upto_region 10 with fail
        go_upto_region 11 with (at_builtin; go_must (refine Lib.wpList_append_run _ rfl (.tmp 52) (.tmp 58) _ _ rfl (.slice none 0 0) (.slice (some ⟨g, 0, none⟩) j cH) rfl rfl _ _ HA1.out ?_); go_frame)
        go_upto_region 12 with (at_builtin; go_must (refine Lib.wpList_append_run _ rfl (.tmp 60) (.tmp 64) _ _ rfl v1 (.slice (some ⟨w2.heap.size, 0, none⟩) 1 1) rfl rfl _ _ HA2.out ?_); go_frame)
        go_wp2_with (at_builtin; go_must (refine Lib.wpList_append_run _ rfl (.tmp 67) (.tmp 73) _ _ rfl v2 (.slice A2 (HL.length - j) (cH - j)) rfl rfl _ _ HA3.out ?_); go_frame)
        go_ret2
        have HS : Only (fun i => i = r) w4 (w4.setCell ⟨r, 0, none⟩ (.slice a3 NL.length c3)) := Only.setCell (S := fun i => i = r) w4 ⟨r, 0, none⟩ _ rfl
        exact ⟨rfl, ⟨a3, c3, aW1, cW1, NL, WL1, HR4.out.setH rfl (HQ3.out.base (by omega)) HI.out (by omega) hll⟩, (HO1.out.trans HO3.out (fun _ _ e => e.elim)).trans HS (fun _ _ e => e)⟩
end Go.Proofs.Ytmmhmgndokaklaa
