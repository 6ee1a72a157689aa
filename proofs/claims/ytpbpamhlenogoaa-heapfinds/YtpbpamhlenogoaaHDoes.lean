/- What the law's own does: an Insert's record applied to a page. -/
import Derived.Test.YtpbpamhlenogoaaHIns
namespace Go.Proofs.Ytpbpamhlenogoaa
open Go.RowKit

theorem Ls_empty (w : World) : Ls (w.alloc (.cells #[] 9)) w.heap.size (.slice (some ⟨w.heap.size, 0, none⟩) 0 0) [] :=
  ⟨rfl, .inr ⟨w.heap.size, 0, #[], rfl, Nat.le_refl _, heap_alloc_new w _, Nat.zero_le _, Nat.zero_le _, rfl, rfl⟩⟩
theorem Ls.form {w : World} {base : Nat} {v : Value} {l : List ByteArray} (h : Ls w base v l) : ∃ ao cp, v = .slice ao l.length cp := by
  rcases h.2 with ⟨rfl, h0⟩ | ⟨g, cap, cur, rfl, _⟩
  · exact ⟨none, 0, by rw [h0]⟩
  · exact ⟨_, _, rfl⟩
theorem Ls.at0 {w : World} {base : Nat} {v : Value} {l : List ByteArray} (h : Ls w base v l) (h0 : 0 < l.length) : ∃ g cp, v = .slice (some ⟨g, 0, none⟩) l.length cp ∧ base ≤ g ∧ g < w.heap.size := by
  rcases h.2 with ⟨rfl, h1⟩ | ⟨g, cap, cur, rfl, hb, hh, _⟩
  · omega
  · exact ⟨_, _, rfl, hb, (Array.getElem?_eq_some_iff.1 hh).1⟩
theorem set_putL (l : List ByteArray) (i : Nat) (s : ByteArray) (h : i < l.length) : l.set i s = putL l i s := by
  unfold putL
  rw [List.set_eq_take_append_cons_drop, if_pos h]
theorem set_putL1 (l : List ByteArray) (i : Nat) (s x : ByteArray) (h : i = l.length) : (l ++ [x]).set i s = putL l i s := by
  subst h
  unfold putL
  rw [List.set_append_right _ _ (Nat.le_refl _), Nat.sub_self, List.take_of_length_le (Nat.le_refl _), List.drop_of_length_le (by omega)]
  rfl
/-- The variables of does: the page, the record, and what is answered. -/
structure Dw (w W : World) (a k v r : Int) (h : ByteArray) (sl : Value) (q : Hr) : Prop where
  pg : Pag W w.heap.size (.int .i64 a) (.int .i64 k) (.int .i64 v) (.int .i64 r) (.string h) sl
  rc : Hb W (w.heap.size + 1) q
  res : Pag W (w.heap.size + 1 + 1) (.int .i64 0) (.int .i64 0) (.int .i64 0) (.int .i64 0) (.string ⟨#[]⟩) (.slice none 0 0)
  only : Only (fun _ => False) w W
  size : w.heap.size + 1 + 1 + 1 ≤ W.heap.size
theorem Dw.new (w : World) (a k v r : Int) (h : ByteArray) (sl : Value) (q : Hr) : Dw w (((w.alloc (.cells #[.int .i64 a, .int .i64 k, .int .i64 v, .int .i64 r, .string h, sl] 24)).alloc (.cells q.cells 34)).alloc (.cells #[.int .i64 0, .int .i64 0, .int .i64 0, .int .i64 0, .string ⟨#[]⟩, .slice none 0 0] 24)) a k v r h sl q := by
  refine ⟨((Pag.new w _ _ _ _ _ _).more (onlyA _ _)).more (onlyA _ _), ?_, ?_, o2 (o2 (onlyA _ _) (onlyA _ _)) (onlyA _ _), by simp⟩
  · have := (Hb.new (w.alloc (.cells #[.int .i64 a, .int .i64 k, .int .i64 v, .int .i64 r, .string h, sl] 24)) q).more (onlyA _ (.cells #[.int .i64 0, .int .i64 0, .int .i64 0, .int .i64 0, .string ⟨#[]⟩, .slice none 0 0] 24))
    rw [World.size_alloc] at this
    exact this
  · have := Pag.new ((w.alloc (.cells #[.int .i64 a, .int .i64 k, .int .i64 v, .int .i64 r, .string h, sl] 24)).alloc (.cells q.cells 34)) (.int .i64 0) (.int .i64 0) (.int .i64 0) (.int .i64 0) (.string ⟨#[]⟩) (.slice none 0 0)
    rw [World.size_alloc, World.size_alloc] at this
    exact this
theorem Dw.kept {S : Nat → Prop} {w W W' : World} {a k v r : Int} {h : ByteArray} {sl : Value} {q : Hr} (H : Dw w W a k v r h sl q) (ho : Only S W W') (hS : ∀ j, S j → w.heap.size + 1 + 1 + 1 ≤ j) : Dw w W' a k v r h sl q :=
  ⟨H.pg.kept ho (fun e => by have := hS _ e; omega), H.rc.kept ho (fun e => by have := hS _ e; omega), H.res.kept ho (fun e => by have := hS _ e; omega), H.only.trans ho (fun i hi e => by have := hS _ e; omega), Nat.le_trans H.size ho.size⟩
theorem Dw.more {w W W' : World} {a k v r : Int} {h : ByteArray} {sl : Value} {q : Hr} (H : Dw w W a k v r h sl q) (ho : Only (fun _ => False) W W') : Dw w W' a k v r h sl q := H.kept ho (fun _ h => h.elim)
theorem Dw.set5 {w W : World} {a k v r : Int} {h : ByteArray} {sl : Value} {q : Hr} (H : Dw w W a k v r h sl q) (x : Value) : Dw w (W.setCell ⟨w.heap.size, 5, none⟩ x) a k v r h x q := by
  have ho : Only (fun j => j = w.heap.size) W (W.setCell ⟨w.heap.size, 5, none⟩ x) := Only.setCell W ⟨w.heap.size, 5, none⟩ x rfl
  exact ⟨H.pg.set5 x, H.rc.kept ho (by omega), H.res.kept ho (by omega), H.only.trans ho (fun i hi e => by omega), Nat.le_trans H.size ho.size⟩
/-- What does answers. -/
structure DoQ (w w' : World) (e : Ending) (p : Pg) : Prop where
  ex : ∃ B ao cp, e = .returned (.tuple #[pv p.lsn p.kind p.level p.right p.high ao p.items.length cp, .bool (p.out.2 == 0)]) ∧ Strs w' B ao p.items ∧ Fit ao p.items.length cp ∧ (0 < p.items.length → w.heap.size ≤ B)
  only : Only (fun _ => False) w w'
/-- A list's item is another one. -/
theorem Ls.put {W : World} {base g cap : Nat} {l : List ByteArray} (hL : Ls W base (.slice (some ⟨g, 0, none⟩) l.length cap) l) (i : Nat) (it : ByteArray) : Ls (W.setCell ⟨g, i, none⟩ (.string it)) base (.slice (some ⟨g, 0, none⟩) l.length cap) (l.set i it) := by
  have hs := (World.ownsRow.stored hL i (.string it)).1
  have e : (scells l).set i (.string it) = scells (l.set i it) := by unfold scells; rw [List.map_set]
  rw [e] at hs
  unfold Ls
  rw [List.length_set]
  exact hs
set_option maxRecDepth 100000 in
set_option maxHeartbeats 1600000 in
theorem does_lt (w : World) (a k v r : Int) (h : ByteArray) (B cp : Nat) (ao : Option Addr) (l : List ByteArray) (i : Nat) (x g0 : Int) (s : ByteArray) (hS : Strs w B ao l) (hF : Fit ao l.length cp) (hh : h.size ≤ 140737488355328) (ha : a < 9223372036854775808) (hs : s.size ≤ 140737488355328) (hl : l.length ≤ 255) (hi : i < l.length) (hz : l[i].size = 0) :
    Calls Try.prog 10 #[pv a k v r h ao l.length cp, .agg (Hr.cells ⟨1, x, g0, (i : Int), 0, 0, s⟩)] w fun e w' => DoQ w w' e ⟨a, k, v, r, h, putL l i s⟩ := by
  have HD0 := hide (Dw.new w a k v r h (.slice ao l.length cp) ⟨1, x, g0, (i : Int), 0, 0, s⟩)
  have HS := hide hS
  have HF := hide hF
  clear hS hF
  have hi0 : ¬ (i : Int) < 0 := by omega
  have hi1 : ¬ (l.length : Int) < (i : Int) := by omega
  have hi2 : (i : Int) < (l.length : Int) := by omega
  have hi3 : ((i : Int) == (l.length : Int)) = false := by simp; omega
  go_enter Try.func10, Try.ntmps10
  go_upto_region 1 with fail
  obtain ⟨W0, hW0⟩ : ∃ y, ((w.alloc (.cells #[.int .i64 a, .int .i64 k, .int .i64 v, .int .i64 r, .string h, .slice ao l.length cp] 24)).alloc (.cells (Hr.cells ⟨1, x, g0, (i : Int), 0, 0, s⟩) 34)).alloc (.cells #[.int .i64 0, .int .i64 0, .int .i64 0, .int .i64 0, .string ⟨#[]⟩, .slice none 0 0] 24) = y := ⟨_, rfl⟩
  rw [hW0] at HD0 ⊢
  clear hW0
  have hD0z := HD0.out.size
  obtain ⟨v1, w1, hr1, hl1, ho1⟩ := append_strs (W0.alloc (.cells #[] 9)) 22 W0.heap.size (.slice (some ⟨W0.heap.size, 0, none⟩) 0 0) [] (Ls_empty W0) B cp ao l ((HS.out.more HD0.out.only).more (onlyA _ _)) HF.out (by simp; omega) (by simp)
  rw [List.nil_append] at hl1
  have HD1 := hide ((HD0.out.more (onlyA W0 (.cells #[] 9))).kept ho1 (fun j hj => by omega))
  have HR1 := hide hr1
  have p5 := (HD0.out.more (onlyA W0 (.cells #[] 9))).pg.c5
  have hw1 : W0.heap.size ≤ w1.heap.size := by have := ho1.size; simp at this; omega
  clear hr1 ho1
  obtain ⟨g, cap, rfl, hg0, hg1⟩ := hl1.at0 (by omega)
  have c1 := World.ownsRow.cellAt hl1 i (by omega)
  rw [show (scells l)[i]? = some (.string ⟨#[]⟩) by
    have : l[i] = ⟨#[]⟩ := bl_inj (List.eq_nil_of_length_eq_zero (by rw [bl_len]; exact hz))
    simp [scells, hi, this]] at c1
  have c3 := HD1.out.rc.cell 3 _ rfl
  have c6 := HD1.out.rc.cell 6 _ rfl
  have c10 := HD1.out.rc.cell 10 _ rfl
  have HL1 := hide hl1
  clear hl1
  go_wp2_with (at_builtin; go_must (refine Lib.wpList_append_run _ rfl _ _ _ _ rfl _ _ rfl rfl _ _ HR1.out ?_))
  refine (ustate_any ⟨#[]⟩ _).mono ?_
  rw [show stT (bl ⟨#[]⟩) = 1 from rfl]
  rintro e w3 ⟨rfl, ho3⟩
  · have HD3 := hide (HD1.out.more ho3)
    have HL3 := hide (HL1.out.more ho3)
    have ci := World.ownsRow.cellAt HL3.out i (by omega)
    rw [show (scells l)[i]? = some (.string l[i]) by simp [scells, hi]] at ci
    have fi := World.ownsRow.frozenAt HL3.out i
    obtain ⟨si, hsi⟩ : ∃ y, l[i] = y := ⟨_, rfl⟩
    rw [hsi] at ci
    clear hsi ho3 c3 c10 c1 c6 hz p5 HL1
    have c6 := HD3.out.rc.cell 6 _ rfl
    obtain ⟨nl, hnl⟩ : ∃ nl, l.set i s = nl := ⟨_, rfl⟩
    have HPUT : Hid (Ls (w3.setCell ⟨g, i, none⟩ (.string s)) W0.heap.size (.slice (some ⟨g, 0, none⟩) l.length cap) nl) := by
      have := HL3.out.put i s
      rw [hnl] at this
      exact this
    have HNL : Hid (putL l i s = nl) := by unfold Hid; rw [← hnl]; exact (set_putL l i s hi).symm
    have HNN : Hid (nl.length = l.length) := by unfold Hid; rw [← hnl, List.length_set]
    have HSZ : Hid (∀ y ∈ nl, y.size ≤ 140737488355328) := fun y hy => by
      rw [← HNL.out] at hy
      rcases putL_mem hy with rfl | hy
      · exact hs
      · exact HS.out.size y hy
    clear hnl
    have HD4 : Hid (Dw w (w3.setCell ⟨g, i, none⟩ (.string s)) a k v r h (.slice ao l.length cp) ⟨1, x, g0, (i : Int), 0, 0, s⟩) := HD3.out.kept (Only.setCell (S := fun j => j = g) w3 ⟨g, i, none⟩ (.string s) rfl) (fun j hj => by omega)
    have HD5 := hide (HD4.out.set5 (.slice (some ⟨g, 0, none⟩) l.length cap))
    have hL5 : Ls ((w3.setCell ⟨g, i, none⟩ (.string s)).setCell ⟨w.heap.size, 5, none⟩ (.slice (some ⟨g, 0, none⟩) l.length cap)) W0.heap.size (.slice (some ⟨g, 0, none⟩) l.length cap) nl := HPUT.out.kept (Only.setCell (S := fun j => j = w.heap.size) _ ⟨w.heap.size, 5, none⟩ (.slice (some ⟨g, 0, none⟩) l.length cap) rfl) (fun j hj e => by simp [Value.ownBlock] at hj; omega)
    have hgw : ¬ g = w.heap.size := by omega
    obtain ⟨B5, ao5, cp5, hv5, hS5, hF5, hb5, hO5⟩ := hL5.strs (by rw [HNN.out]; omega) HSZ.out
    rw [HNN.out] at hv5 hF5
    simp only [Value.slice.injEq] at hv5
    obtain ⟨rfl, _, rfl⟩ := hv5
    have HS5 := hide hS5
    have HF5 := hide hF5
    have HB5 := hide hb5
    clear hS5 hF5 hO5 hL5 hb5
    obtain ⟨p0, p1, p2, p3, p4, p5, z0, z1, z2, z3, z4, z5, _⟩ := HD3.out.pg
    go_upto_region 19 with fail
    obtain ⟨w5, hw5⟩ : ∃ y, (w3.setCell ⟨g, i, none⟩ (.string s)).setCell ⟨w.heap.size, 5, none⟩ (.slice (some ⟨g, 0, none⟩) l.length cap) = y := ⟨_, rfl⟩
    rw [hw5] at HD5 HS5 ⊢
    clear hw5 p0 p1 p2 p3 p4 p5 z0 z1 z2 z3 z4 z5 ci fi c6 hgw
    obtain ⟨p0, p1, p2, p3, p4, p5, _⟩ := HD5.out.pg
    have henc := pencode_any w5 a k v r h B5 cap (some ⟨g, 0, none⟩) nl HS5.out hh ha
    rw [HNN.out] at henc
    have HENC := hide henc
    clear henc
    obtain ⟨OC, hOC⟩ : ∃ c, (Pg.out ⟨a, k, v, r, h, nl⟩).2 = c := ⟨_, rfl⟩
    rw [hOC] at HENC
    have HOC := hide hOC
    clear hOC
    go_wp2_with fail
    refine HENC.out.mono ?_
    rintro e w6 ⟨rfl, ho6⟩
    have HD6 := hide (HD5.out.more ho6)
    have HS6 := hide (HS5.out.more ho6)
    clear ho6 p0 p1 p2 p3 p4 p5
    obtain ⟨p0, p1, p2, p3, p4, p5, _⟩ := HD6.out.pg
    obtain ⟨q0, q1, q2, q3, q4, q5, t0, t1, t2, t3, t4, t5, tl⟩ := HD6.out.res
    go_wp2_with fail
    refine bodyPost_ret (results_page rfl rfl (Pag.six HD6.out.res _ _ _ _ _ _)) rfl ?_
    have ho := Only.six w6 (w.heap.size + 1 + 1) (.int .i64 a) (.int .i64 k) (.int .i64 v) (.int .i64 r) (.string h) (.slice (some ⟨g, 0, none⟩) l.length cap)
    refine ⟨⟨B5, some ⟨g, 0, none⟩, cap, ?_, ?_, ?_, ?_⟩, HD6.out.only.trans ho (fun j hj e => by omega)⟩
    · rw [HNL.out]
      show Ending.returned _ = Ending.returned (.tuple #[pv a k v r h (some ⟨g, 0, none⟩) nl.length cap, .bool ((Pg.out ⟨a, k, v, r, h, nl⟩).2 == 0)])
      rw [HNN.out, HOC.out]
      rfl
    · show Strs _ B5 _ (putL l i s)
      rw [HNL.out]
      exact HS6.out.kept ho (fun h0 => by
        have h1 := HB5.out h0
        omega)
    · show Fit _ (putL l i s).length _
      rw [HNL.out, HNN.out]
      exact HF5.out
    · intro h0
      have h1 := HB5.out (by rw [← HNL.out]; exact h0)
      omega
set_option maxRecDepth 100000 in
set_option maxHeartbeats 1600000 in
theorem does_eq (w : World) (a k v r : Int) (h : ByteArray) (B cp : Nat) (ao : Option Addr) (l : List ByteArray) (i : Nat) (x g0 : Int) (s : ByteArray) (hS : Strs w B ao l) (hF : Fit ao l.length cp) (hh : h.size ≤ 140737488355328) (ha : a < 9223372036854775808) (hs : s.size ≤ 140737488355328) (hl : l.length ≤ 255) (hi : i = l.length) :
    Calls Try.prog 10 #[pv a k v r h ao l.length cp, .agg (Hr.cells ⟨1, x, g0, (i : Int), 0, 0, s⟩)] w fun e w' => DoQ w w' e ⟨a, k, v, r, h, putL l i s⟩ := by
  have HD0 := hide (Dw.new w a k v r h (.slice ao l.length cp) ⟨1, x, g0, (i : Int), 0, 0, s⟩)
  have HS := hide hS
  have HF := hide hF
  clear hS hF
  have hi0 : ¬ (i : Int) < 0 := by omega
  have hi1 : ¬ (l.length : Int) < (i : Int) := by omega
  have hi2 : ¬ (i : Int) < (l.length : Int) := by omega
  have hi3 : ((i : Int) == (l.length : Int)) = true := by simp; omega
  have HI := hide hi
  have HILT : Hid (i < (l ++ [(⟨#[]⟩ : ByteArray)]).length) := by unfold Hid; simp; omega
  have HAL : Hid ((l ++ [(⟨#[]⟩ : ByteArray)]).length = l.length + 1) := by unfold Hid; simp
  clear hi
  go_enter Try.func10, Try.ntmps10
  go_upto_region 1 with fail
  obtain ⟨W0, hW0⟩ : ∃ y, ((w.alloc (.cells #[.int .i64 a, .int .i64 k, .int .i64 v, .int .i64 r, .string h, .slice ao l.length cp] 24)).alloc (.cells (Hr.cells ⟨1, x, g0, (i : Int), 0, 0, s⟩) 34)).alloc (.cells #[.int .i64 0, .int .i64 0, .int .i64 0, .int .i64 0, .string ⟨#[]⟩, .slice none 0 0] 24) = y := ⟨_, rfl⟩
  rw [hW0] at HD0 ⊢
  clear hW0
  have hD0z := HD0.out.size
  obtain ⟨v1, w1, hr1, hl1, ho1⟩ := append_strs (W0.alloc (.cells #[] 9)) 22 W0.heap.size (.slice (some ⟨W0.heap.size, 0, none⟩) 0 0) [] (Ls_empty W0) B cp ao l ((HS.out.more HD0.out.only).more (onlyA _ _)) HF.out (by simp; omega) (by simp)
  rw [List.nil_append] at hl1
  have HD1 := hide ((HD0.out.more (onlyA W0 (.cells #[] 9))).kept ho1 (fun j hj => by omega))
  have HR1 := hide hr1
  have p5 := (HD0.out.more (onlyA W0 (.cells #[] 9))).pg.c5
  have hw1 : W0.heap.size ≤ w1.heap.size := by have := ho1.size; simp at this; omega
  clear hr1 ho1
  obtain ⟨ao1, cp1, rfl⟩ := hl1.form
  obtain ⟨v2, w3, hr2, hl2, ho2⟩ := append_strs (w1.alloc (.cells #[.string ⟨#[]⟩] 9)) 22 W0.heap.size (.slice ao1 l.length cp1) l (hl1.more (onlyA _ _)) w1.heap.size 1 (some ⟨w1.heap.size, 0, none⟩) [⟨#[]⟩] (Strs.one w1 ⟨#[]⟩ (Nat.zero_le _)) ⟨(fun h => by cases h), Nat.le_refl _, (by unfold maxLen; omega)⟩ (by simp; omega) (by simp; omega)
  have HD3 := hide ((HD1.out.more (onlyA w1 (.cells #[.string ⟨#[]⟩] 9))).kept ho2 (fun j hj => by omega))
  have HR2 := hide hr2
  obtain ⟨g, cap, rfl, hg0, hg1⟩ := hl2.at0 (by rw [HAL.out]; omega)
  rw [HAL.out] at HR2
  have c3 := HD1.out.rc.cell 3 _ rfl
  have c6 := HD1.out.rc.cell 6 _ rfl
  have c10 := HD1.out.rc.cell 10 _ rfl
  have HL3 := hide hl2
  clear hl1 hr2 ho2 hl2
  go_upto_region 2 with (at_builtin; go_must (refine Lib.wpList_append_run _ rfl _ _ _ _ rfl _ _ rfl rfl _ _ HR1.out ?_))
  clear p5
  go_upto_region 17 with (at_builtin; go_must (refine Lib.wpList_append_run _ rfl _ _ _ _ rfl _ _ rfl rfl _ _ HR2.out ?_))
  · have ci := World.ownsRow.cellAt HL3.out i (by have := HILT.out; omega)
    rw [show (scells (l ++ [(⟨#[]⟩ : ByteArray)]))[i]? = some (.string ⟨#[]⟩) by simp [scells, HI.out]] at ci
    have fi := World.ownsRow.frozenAt HL3.out i
    clear c3 c10 c6
    have c6 := HD3.out.rc.cell 6 _ rfl
    obtain ⟨nl, hnl⟩ : ∃ nl, (l ++ [(⟨#[]⟩ : ByteArray)]).set i s = nl := ⟨_, rfl⟩
    have HPUT : Hid (Ls (w3.setCell ⟨g, i, none⟩ (.string s)) W0.heap.size (.slice (some ⟨g, 0, none⟩) (l.length + 1) cap) nl) := by
      have := HL3.out.put i s
      rw [hnl] at this
      rw [HAL.out] at this
      exact this
    have HNL : Hid (putL l i s = nl) := by unfold Hid; rw [← hnl]; exact (set_putL1 l i s _ HI.out).symm
    have HNN : Hid (nl.length = (l.length + 1)) := by unfold Hid; rw [← hnl, List.length_set]; exact HAL.out
    have HSZ : Hid (∀ y ∈ nl, y.size ≤ 140737488355328) := fun y hy => by
      rw [← HNL.out] at hy
      rcases putL_mem hy with rfl | hy
      · exact hs
      · exact HS.out.size y hy
    clear hnl
    have HD4 : Hid (Dw w (w3.setCell ⟨g, i, none⟩ (.string s)) a k v r h (.slice ao l.length cp) ⟨1, x, g0, (i : Int), 0, 0, s⟩) := HD3.out.kept (Only.setCell (S := fun j => j = g) w3 ⟨g, i, none⟩ (.string s) rfl) (fun j hj => by omega)
    have HD5 := hide (HD4.out.set5 (.slice (some ⟨g, 0, none⟩) (l.length + 1) cap))
    have hL5 : Ls ((w3.setCell ⟨g, i, none⟩ (.string s)).setCell ⟨w.heap.size, 5, none⟩ (.slice (some ⟨g, 0, none⟩) (l.length + 1) cap)) W0.heap.size (.slice (some ⟨g, 0, none⟩) (l.length + 1) cap) nl := HPUT.out.kept (Only.setCell (S := fun j => j = w.heap.size) _ ⟨w.heap.size, 5, none⟩ (.slice (some ⟨g, 0, none⟩) (l.length + 1) cap) rfl) (fun j hj e => by simp [Value.ownBlock] at hj; omega)
    have hgw : ¬ g = w.heap.size := by omega
    obtain ⟨B5, ao5, cp5, hv5, hS5, hF5, hb5, hO5⟩ := hL5.strs (by rw [HNN.out]; omega) HSZ.out
    rw [HNN.out] at hv5 hF5
    simp only [Value.slice.injEq] at hv5
    obtain ⟨rfl, _, rfl⟩ := hv5
    have HS5 := hide hS5
    have HF5 := hide hF5
    have HB5 := hide hb5
    clear hS5 hF5 hO5 hL5 hb5
    obtain ⟨p0, p1, p2, p3, p4, p5, z0, z1, z2, z3, z4, z5, _⟩ := HD3.out.pg
    go_upto_region 19 with fail
    obtain ⟨w5, hw5⟩ : ∃ y, (w3.setCell ⟨g, i, none⟩ (.string s)).setCell ⟨w.heap.size, 5, none⟩ (.slice (some ⟨g, 0, none⟩) (l.length + 1) cap) = y := ⟨_, rfl⟩
    rw [hw5] at HD5 HS5 ⊢
    clear hw5 p0 p1 p2 p3 p4 p5 z0 z1 z2 z3 z4 z5 ci fi c6 hgw
    obtain ⟨p0, p1, p2, p3, p4, p5, _⟩ := HD5.out.pg
    have henc := pencode_any w5 a k v r h B5 cap (some ⟨g, 0, none⟩) nl HS5.out hh ha
    rw [HNN.out] at henc
    have HENC := hide henc
    clear henc
    obtain ⟨OC, hOC⟩ : ∃ c, (Pg.out ⟨a, k, v, r, h, nl⟩).2 = c := ⟨_, rfl⟩
    rw [hOC] at HENC
    have HOC := hide hOC
    clear hOC
    go_wp2_with fail
    refine HENC.out.mono ?_
    rintro e w6 ⟨rfl, ho6⟩
    have HD6 := hide (HD5.out.more ho6)
    have HS6 := hide (HS5.out.more ho6)
    clear ho6 p0 p1 p2 p3 p4 p5
    obtain ⟨p0, p1, p2, p3, p4, p5, _⟩ := HD6.out.pg
    obtain ⟨q0, q1, q2, q3, q4, q5, t0, t1, t2, t3, t4, t5, tl⟩ := HD6.out.res
    go_wp2_with fail
    refine bodyPost_ret (results_page rfl rfl (Pag.six HD6.out.res _ _ _ _ _ _)) rfl ?_
    have ho := Only.six w6 (w.heap.size + 1 + 1) (.int .i64 a) (.int .i64 k) (.int .i64 v) (.int .i64 r) (.string h) (.slice (some ⟨g, 0, none⟩) (l.length + 1) cap)
    refine ⟨⟨B5, some ⟨g, 0, none⟩, cap, ?_, ?_, ?_, ?_⟩, HD6.out.only.trans ho (fun j hj e => by omega)⟩
    · rw [HNL.out]
      show Ending.returned _ = Ending.returned (.tuple #[pv a k v r h (some ⟨g, 0, none⟩) nl.length cap, .bool ((Pg.out ⟨a, k, v, r, h, nl⟩).2 == 0)])
      rw [HNN.out, HOC.out]
      rfl
    · show Strs _ B5 _ (putL l i s)
      rw [HNL.out]
      exact HS6.out.kept ho (fun h0 => by
        have h1 := HB5.out h0
        omega)
    · show Fit _ (putL l i s).length _
      rw [HNL.out, HNN.out]
      exact HF5.out
    · intro h0
      have h1 := HB5.out (by rw [← HNL.out]; exact h0)
      omega
end Go.Proofs.Ytpbpamhlenogoaa
