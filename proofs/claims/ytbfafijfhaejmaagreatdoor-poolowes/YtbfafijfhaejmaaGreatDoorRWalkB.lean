/- What inRange, tooLong and TrimRight do. -/
import Derived.Test.YtbfafijfhaejmaaGreatDoorRWalkA
import Derived.Test.YtbfafijfhaejmaaGreatDoorPDecX
namespace Go.Proofs.YtbfafijfhaejmaaGreatDoor
open Go.RowKit

theorem Zs.nine (w : World) (a b c d e f g h i : Int) : Zs (w.alloc (.cells #[.int .i64 a, .int .i64 b, .int .i64 c, .int .i64 d, .int .i64 e, .int .i64 f, .int .i64 g, .int .i64 h, .int .i64 i] 3)) w.heap.size (some ⟨w.heap.size, 0, none⟩) [a, b, c, d, e, f, g, h, i] :=
  ⟨fun _ => ⟨0, rfl, fun j hj => by
    match j, hj with
    | 0, _ => simp
    | 1, _ => simp
    | 2, _ => simp
    | 3, _ => simp
    | 4, _ => simp
    | 5, _ => simp
    | 6, _ => simp
    | 7, _ => simp
    | 8, _ => simp⟩, fun _ => by simp, by simp⟩
set_option maxRecDepth 100000 in
set_option maxHeartbeats 1600000 in
theorem rinRange_any (w : World) (r : Rc) (L : Loc) (h : RcAt w r L) :
    Calls Tryz.prog 127 #[.agg (r.cells L)] w fun e w' => RB e r.inRange ∧ Only (fun _ => False) w w' := by
  have HR := hide h
  clear h
  have HO0 := hide (onlyA w (.cells (r.cells L) 59))
  have HB := hide (Bx.new w r L)
  obtain ⟨W0, hW0⟩ : ∃ W0, w.alloc (.cells (r.cells L) 59) = W0 := ⟨_, rfl⟩
  rw [hW0] at HO0 HB
  have HW0 := hide hW0
  clear hW0
  have HZ0 : Hid (W0.heap.size = w.heap.size + 1) := by unfold Hid; rw [← HW0.out]; simp
  by_cases h1 : 1 ≤ r.lsn
  · have HZ9 := hide (Zs.nine W0 r.lsn r.prev r.next r.redo r.xid r.page r.slot r.old r.new)
    have HO9 := hide (onlyA W0 (.cells #[.int .i64 r.lsn, .int .i64 r.prev, .int .i64 r.next, .int .i64 r.redo, .int .i64 r.xid, .int .i64 r.page, .int .i64 r.slot, .int .i64 r.old, .int .i64 r.new] 3))
    rw [HZ0.out] at HZ9
    obtain ⟨W1, hW1⟩ : ∃ W1, W0.alloc (.cells #[.int .i64 r.lsn, .int .i64 r.prev, .int .i64 r.next, .int .i64 r.redo, .int .i64 r.xid, .int .i64 r.page, .int .i64 r.slot, .int .i64 r.old, .int .i64 r.new] 3) = W1 := ⟨_, rfl⟩
    rw [hW1] at HZ9 HO9
    have HW1 := hide hW1
    clear hW1
    have HO1 := hide (o2 HO0.out HO9.out)
    have HB1 := hide (HB.out.more HO9.out)
    have HR1 := hide (HR.out.go HO1.out)
    obtain ⟨T, hims⟩ := HR1.out.images
    have HI := hide hims
    clear hims
    go_enter Tryz.func127, Tryz.ntmps127
    go_wp2_with fail
    rw [HW0.out, HW1.out]
    refine (mayBe_any _ _ 9 _ _ HZ9.out).mono ?_
    rintro e w1 ⟨hb, hw1⟩
    obtain rfl := hw1.symm
    obtain ⟨c, rfl, hc⟩ := hb.ex
    have HC1 := hide hc
    clear hc hb
    cases c with
    | false =>
      go_wp2_with fail
      go_ret
      exact ⟨RB.no (fun h => by have := HC1.out.2 h.ten; simp at this), HO1.out⟩
    | true =>
      have c11 := HB1.out.c11
      go_wp2_with fail
      refine (mayBe_any _ _ _ _ _ HR1.out.slots).mono ?_
      rintro e w1 ⟨hb, hw1⟩
      obtain rfl := hw1.symm
      obtain ⟨c, rfl, hc⟩ := hb.ex
      have HC2 := hide hc
      clear hc hb
      cases c with
      | false =>
        go_wp2_with fail
        go_ret
        exact ⟨RB.no (fun h => by have := HC2.out.2 h.slots; simp at this), HO1.out⟩
      | true =>
        have c12 := HB1.out.c12
        go_wp2_with fail
        refine (mayBe_any _ _ _ _ _ HR1.out.more).mono ?_
        rintro e w1 ⟨hb, hw1⟩
        obtain rfl := hw1.symm
        obtain ⟨c, rfl, hc⟩ := hb.ex
        have HC3 := hide hc
        clear hc hb
        cases c with
        | false =>
          go_wp2_with fail
          go_ret
          exact ⟨RB.no (fun h => by have := HC3.out.2 h.more; simp at this), HO1.out⟩
        | true =>
          have c13 := HB1.out.c13
          go_wp2_with fail
          refine (cf1_any _ T _ _ _ _ HI.out).mono ?_
          rintro e w2 ⟨hb, ho2⟩
          obtain ⟨c, rfl, hc⟩ := hb.ex
          have HC4 := hide hc
          have HO2 := hide (o2 HO1.out ho2)
          have HB2 := hide (HB1.out.more ho2)
          clear hc hb ho2 c11 c12 c13
          cases c with
          | true =>
            go_wp2_with fail
            go_ret
            exact ⟨RB.no (fun h => by obtain ⟨i, hi, hn⟩ := HC4.out.1 (by trivial); exact hn (h.images i hi)), HO2.out⟩
          | false =>
            have c14 := HB2.out.c14
            go_wp2_with fail
            refine (cf2_any _ _ _ _ _ (HR.out.go HO2.out).pages).mono ?_
            rintro e w3 ⟨hb, ho3⟩
            obtain ⟨c, rfl, hc⟩ := hb.ex
            have HC5 := hide hc
            have HO3 := hide (o2 HO2.out ho3)
            have HB3 := hide (HB2.out.more ho3)
            clear hc hb ho3 c14
            cases c with
            | true =>
              go_wp2_with fail
              go_ret
              exact ⟨RB.no (fun h => by obtain ⟨i, hi, hn⟩ := HC5.out.1 (by trivial); exact hn (h.pages i hi)), HO3.out⟩
            | false =>
              have c15 := HB3.out.c15
              go_wp2_with fail
              refine (cf3_any _ _ _ _ _ (HR.out.go HO3.out).txns).mono ?_
              rintro e w4 ⟨hb, ho4⟩
              obtain ⟨c, rfl, hc⟩ := hb.ex
              have HC6 := hide hc
              have HO4 := hide (o2 HO3.out ho4)
              clear hc hb ho4 c15
              cases c with
              | true =>
                go_wp2_with fail
                go_ret
                exact ⟨RB.no (fun h => by obtain ⟨i, hi, hn⟩ := HC6.out.1 (by trivial); exact hn (h.txns i hi)), HO4.out⟩
              | false =>
                go_wp2_with fail
                go_ret
                refine ⟨RB.yes ⟨h1, HC1.out.1 (by trivial), HC2.out.1 (by trivial), HC3.out.1 (by trivial), fun i hi => Classical.byContradiction fun hn => ?_, fun i hi => Classical.byContradiction fun hn => ?_, fun i hi => Classical.byContradiction fun hn => ?_⟩, HO4.out⟩
                · have := HC4.out.2 ⟨i, hi, hn⟩; simp at this
                · have := HC5.out.2 ⟨i, hi, hn⟩; simp at this
                · have := HC6.out.2 ⟨i, hi, hn⟩; simp at this
  · go_enter Tryz.func127, Tryz.ntmps127
    go_wp2_with fail
    rw [HW0.out]
    go_ret
    exact ⟨RB.no (fun h => by have := h.one; omega), HO0.out⟩
set_option maxRecDepth 100000 in
set_option maxHeartbeats 1600000 in
theorem rtooLong_any (w : World) (r : Rc) (L : Loc) :
    Calls Tryz.prog 128 #[.agg (r.cells L)] w fun e w' => RB e (¬ r.short) ∧ Only (fun _ => False) w w' := by
  have HO0 := hide (onlyA w (.cells (r.cells L) 59))
  by_cases h1 : r.data.size ≤ 512
  · have h1' : ¬ (512 : Int) < (r.data.size : Int) := by omega
    by_cases h2 : r.slots.length ≤ 255
    · have h2' : ¬ (255 : Int) < (r.slots.length : Int) := by omega
      by_cases h3 : r.more.length ≤ 255
      · have h3' : ¬ (255 : Int) < (r.more.length : Int) := by omega
        by_cases h4 : r.images.length ≤ 4
        · have h4' : ¬ (4 : Int) < (r.images.length : Int) := by omega
          by_cases h5 : r.pages.length ≤ 8192
          · have h5' : ¬ (8192 : Int) < (r.pages.length : Int) := by omega
            by_cases h6 : r.txns.length ≤ 1024
            · have h6' : ¬ (1024 : Int) < (r.txns.length : Int) := by omega
              go_enter Tryz.func128, Tryz.ntmps128
              go_wp2_with fail
              go_ret
              exact ⟨RB.of_false (by simp) (fun h => h ⟨h1, h2, h3, h4, h5, h6⟩), HO0.out⟩
            · have h6' : (1024 : Int) < (r.txns.length : Int) := by omega
              go_enter Tryz.func128, Tryz.ntmps128
              go_wp2_with fail
              go_ret
              exact ⟨RB.of_true (by simp) (fun h => h6 h.txns), HO0.out⟩
          · have h5' : (8192 : Int) < (r.pages.length : Int) := by omega
            go_enter Tryz.func128, Tryz.ntmps128
            go_wp2_with fail
            go_ret
            exact ⟨RB.of_true (by simp) (fun h => h5 h.pages), HO0.out⟩
        · have h4' : (4 : Int) < (r.images.length : Int) := by omega
          go_enter Tryz.func128, Tryz.ntmps128
          go_wp2_with fail
          go_ret
          exact ⟨RB.of_true (by simp) (fun h => h4 h.images), HO0.out⟩
      · have h3' : (255 : Int) < (r.more.length : Int) := by omega
        go_enter Tryz.func128, Tryz.ntmps128
        go_wp2_with fail
        go_ret
        exact ⟨RB.of_true (by simp) (fun h => h3 h.more), HO0.out⟩
    · have h2' : (255 : Int) < (r.slots.length : Int) := by omega
      go_enter Tryz.func128, Tryz.ntmps128
      go_wp2_with fail
      go_ret
      exact ⟨RB.of_true (by simp) (fun h => h2 h.slots), HO0.out⟩
  · have h1' : (512 : Int) < (r.data.size : Int) := by omega
    go_enter Tryz.func128, Tryz.ntmps128
    go_wp2_with fail
    go_ret
    exact ⟨RB.of_true (by simp) (fun h => h1 h.data), HO0.out⟩

/-- The last byte off, while it is a nought. -/
theorem bare_snoc (l : List UInt8) (a : UInt8) : bare (l ++ [a]) = if a = 0 then bare l else l ++ [a] := by
  unfold bare
  rw [List.reverse_append]
  by_cases h : a = 0
  · subst h; simp
  · simp [h]
set_option maxRecDepth 100000 in
set_option maxHeartbeats 800000 in
theorem trb_any (w : World) (s : ByteArray) (hs : s.size ≤ 512) : Calls Tryz.prog 116 #[.string s, .int .u8 0] w fun e w' => e = .returned (.string (str (bare (bl s)))) ∧ w' = w := by
  obtain ⟨R, hR⟩ : ∃ R, bare (bl s) = R := ⟨_, rfl⟩
  rw [hR]
  have HR := hide hR
  clear hR
  go_enter Tryz.func116, Tryz.ntmps116
  go_wp2_with fail
  go_loop [0] (fun x => ∃ t : ByteArray, x = .string t ∧ t.size ≤ 512 ∧ Hid (bare (bl t) = R)) (fun x => match x with | .string t => t.size | _ => 0)
  case atStart => exact ⟨s, rfl, hs, HR⟩
  case round =>
    obtain ⟨t, rfl, ht, HT⟩ := hrel
    by_cases h0 : 0 < t.size
    · obtain ⟨m, hm⟩ : ∃ m, t.size = m + 1 := ⟨t.size - 1, by omega⟩
      have hlast : bl t = (bl t).take m ++ [t[m]] := by
        have h1 : (bl t).length = m + 1 := by rw [bl_len]; exact hm
        have h2 := List.take_succ_eq_append_getElem (l := bl t) (i := m) (by omega)
        rw [List.take_of_length_le (by omega)] at h2
        exact h2
      have HL := hide hlast
      have HE : Hid (bl (t.extract 0 m) = (bl t).take m) := by unfold Hid; rw [ext_bl, List.drop_zero]
      have HZ : Hid ((t.extract 0 m).size = m) := by unfold Hid; rw [← bl_len, HE.out, List.length_take, bl_len]; omega
      clear hlast
      go_wp2_with fail
      · rename_i h9
        have hb : t[m] = 0 := by
          have h2 : (t[m].toNat : Int) = 0 := by simpa using h9
          exact UInt8.toNat_inj.1 (by simpa using h2)
        refine ⟨⟨t.extract 0 m, rfl, by have := HZ.out; omega, ?_⟩, ?_⟩
        · have h3 := HT.out
          rw [HL.out, bare_snoc, if_pos hb] at h3
          unfold Hid
          rw [HE.out]
          exact h3
        · show (t.extract 0 m).size < t.size
          have := HZ.out; omega
      · rename_i h9
        have hb : t[m] ≠ 0 := by
          intro h
          rw [h] at h9
          simp at h9
        have HF : Hid (R = bl t) := by
          have h3 := HT.out
          rw [HL.out, bare_snoc, if_neg hb, ← HL.out] at h3
          exact h3.symm
        go_ret
        rw [HF.out, str_bl]
        exact ⟨rfl, rfl⟩
    · have HF : Hid (R = bl t) := by
        have h1 : bl t = [] := List.eq_nil_of_length_eq_zero (by rw [bl_len]; omega)
        have h3 := HT.out
        rw [h1] at h3 ⊢
        exact h3.symm
      go_wp2_with fail
      go_ret
      rw [HF.out, str_bl]
      exact ⟨rfl, rfl⟩
set_option maxRecDepth 100000 in
theorem tr_any (w : World) (s : ByteArray) (h0 : 0 < s.size) (hs : s.size ≤ 512) : Calls Tryz.prog 158 #[.string s, .string ⟨#[0]⟩] w fun e w' => e = .returned (.string (str (bare (bl s)))) ∧ w' = w := by
  have hne : ¬ s.toList = [] := by
    intro h
    have h2 : s.toList.length = 0 := by rw [h]; rfl
    rw [ByteArray.toList_eq] at h2
    have h3 : (bl s).length = 0 := h2
    rw [bl_len] at h3
    omega
  have hne2 : s.toList.isEmpty = false := by simpa using hne
  have hc : ((⟨#[0]⟩ : ByteArray)[0]'(by decide)).toNat = 0 := rfl
  go_enter Tryz.func158, Tryz.ntmps158
  go_wp2_with fail
  refine (trb_any _ s hs).mono ?_
  rintro e w1 ⟨rfl, rfl⟩
  go_wp2_with fail
  go_ret
  exact ⟨rfl, rfl⟩
end Go.Proofs.YtbfafijfhaejmaaGreatDoor
