/- The steps of the document's body. -/
import Derived.Test.YtebijheonkagfaaGreatDoorKRd
import Derived.Test.YtebijheonkagfaaGreatDoorKPRefE
import Derived.Lib.FrozenHead
import Derived.Laws.IdiomStrings
import Derived.Lib.AppendZeros
namespace Go.Proofs.YtebijheonkagfaaGreatDoor
open Go.RowKit
set_option maxRecDepth 100000 in
theorem zwithin_any (w : World) (n : Int) : Calls Tryz.prog 152 #[.int .i64 n] w fun e w' => e = .returned (.bool (decide (0 ≤ n ∧ n ≤ 4611686018427387904))) ∧ w' = w := by
  go_enter Tryz.func152, Tryz.ntmps152
  go_wp2_with fail
  all_goals go_ret
  all_goals exact ⟨ret_bool (by rw [Bool.eq_iff_iff]; first | (simp; done) | (simp; omega)), rfl⟩
theorem zyes (w : World) (n : Int) (h : mb n) : Calls Tryz.prog 152 #[.int .i64 n] w fun e w' => e = .returned (.bool true) ∧ w' = w := by
  have h1 := zwithin_any w n; rw [decide_eq_true (show 0 ≤ n ∧ n ≤ 4611686018427387904 from h)] at h1
  exact h1
theorem zno (w : World) (n : Int) (h : ¬ mb n) : Calls Tryz.prog 152 #[.int .i64 n] w fun e w' => e = .returned (.bool false) ∧ w' = w := by
  have h1 := zwithin_any w n; rw [decide_eq_false (show ¬ (0 ≤ n ∧ n ≤ 4611686018427387904) from h)] at h1
  exact h1
set_option maxRecDepth 100000 in
set_option maxHeartbeats 800000 in
theorem zlists_any (w : World) (B cp : Nat) (ao : Option Addr) (l : List Int) (h : Zs w B ao l) :
    Calls Tryz.prog 151 #[.slice ao l.length cp] w fun e w' => RB e (∀ n ∈ l, mb n) ∧ w' = w := by
  have hlen := h.len; have HS := hide h; clear h
  go_enter Tryz.func151, Tryz.ntmps151
  go_wp2_with fail
  go_loop [3] (fun y => ∃ j : Nat, j ≤ l.length ∧ y = .int .i64 (j : Int) ∧ Hid (∀ n ∈ l.take j, mb n)) (fun y => l.length - (intOf y).toNat)
  case atStart => exact ⟨0, by omega, rfl, (fun n hn => by simp at hn)⟩
  case round =>
    obtain ⟨j, hj, rfl, HQ⟩ := hrel
    by_cases hlt : j < l.length
    · obtain ⟨o, e1, c1⟩ := HS.out.at_ (by omega)
      have k1 := c1 j hlt
      have hj1 : (j : Int) < (l.length : Int) := by omega
      obtain ⟨z, hz⟩ : ∃ z, l[j] = z := ⟨_, rfl⟩
      have hmem : z ∈ l := by rw [← hz]; exact List.getElem_mem hlt
      have HM := hide hmem
      have HT : Hid (l.take (j + 1) = l.take j ++ [z]) := by unfold Hid; rw [List.take_succ_eq_append_getElem hlt, hz]
      rw [hz] at k1; clear c1 hz hmem; subst e1
      by_cases hm : mb z
      · have HY := hide (fun W => zyes W z hm)
        have HMB := hide hm; clear hm
        go_wp2_with fail
        refine (HY.out _).mono ?_; rintro e w1 ⟨rfl, rfl⟩
        go_wp2_with fail
        go_round
        case rel =>
          refine ⟨j + 1, by omega, by go_num, ?_⟩; unfold Hid; rw [HT.out]; intro n hn
          rcases List.mem_append.1 hn with hn | hn
          · exact HQ.out n hn
          · simp at hn; subst hn; exact HMB.out
        case measure => simp [intOf]; omega
      · have HY := hide (fun W => zno W z hm)
        have HMB := hide hm; clear hm
        go_wp2_with fail
        refine (HY.out _).mono ?_; rintro e w1 ⟨rfl, rfl⟩
        go_wp2_with fail
        go_ret
        exact ⟨RB.no (fun h => HMB.out (h z HM.out)), rfl⟩
    · have e : l.take j = l := List.take_of_length_le (by omega)
      rw [e] at HQ
      go_wp2_with fail
      go_ret
      exact ⟨RB.yes HQ.out, rfl⟩
set_option maxRecDepth 100000 in
set_option maxHeartbeats 3200000 in
theorem zranges_any (w : World) (r : Rc) (L : Loc) (h : RcAt w r L) :
    Calls Tryz.prog 114 #[.agg (r.cells L)] w fun e w' => RB e r.inRange ∧ Only (fun _ => False) w w' := by
  have HR := hide h
  have l13 : r.images.length ≤ 17592186043904 := by obtain ⟨T, hi⟩ := h.images; exact hi.len
  have l14 := h.pages.len; have l15 := h.txns.len; clear h; have HO0 := hide (onlyA w (.cells (r.cells L) 59)); have HB := hide (Bx.new w r L); obtain ⟨W0, hW0⟩ : ∃ W0, w.alloc (.cells (r.cells L) 59) = W0 := ⟨_, rfl⟩; rw [hW0] at HO0 HB; have HW0 := hide hW0; clear hW0
  have HZ0 : Hid (W0.heap.size = w.heap.size + 1) := by unfold Hid; rw [← HW0.out]; simp
  by_cases h1 : 1 ≤ r.lsn
  · have HZ9 := hide (Zs.nine W0 r.lsn r.prev r.next r.redo r.xid r.page r.slot r.old r.new)
    have HO9 := hide (onlyA W0 (.cells #[.int .i64 r.lsn, .int .i64 r.prev, .int .i64 r.next, .int .i64 r.redo, .int .i64 r.xid, .int .i64 r.page, .int .i64 r.slot, .int .i64 r.old, .int .i64 r.new] 3)); rw [HZ0.out] at HZ9; obtain ⟨W1, hW1⟩ : ∃ W1, W0.alloc (.cells #[.int .i64 r.lsn, .int .i64 r.prev, .int .i64 r.next, .int .i64 r.redo, .int .i64 r.xid, .int .i64 r.page, .int .i64 r.slot, .int .i64 r.old, .int .i64 r.new] 3) = W1 := ⟨_, rfl⟩; rw [hW1] at HZ9 HO9; have HW1 := hide hW1; clear hW1; have HO1 := hide (o2 HO0.out HO9.out); have HB1 := hide (HB.out.more HO9.out); have HR1 := hide (HR.out.go HO1.out); obtain ⟨T, hims⟩ := HR1.out.images; have HI := hide hims; clear hims
    go_enter Tryz.func114, Tryz.ntmps114
    go_wp2_with fail
    rw [HW0.out, HW1.out]; refine (zlists_any _ _ 9 _ _ HZ9.out).mono ?_; rintro e w1 ⟨hb, hw1⟩; obtain rfl := hw1.symm; obtain ⟨c, rfl, hc⟩ := hb.ex; have HC1 := hide hc; clear hc hb
    cases c with
    | false =>
      go_wp2_with fail
      go_ret
      exact ⟨RB.no (fun h => by have := HC1.out.2 h.ten; simp at this), HO1.out⟩
    | true =>
      have c11 := HB1.out.c11
      go_wp2_with fail
      refine (zlists_any _ _ _ _ _ HR1.out.slots).mono ?_; rintro e w1 ⟨hb, hw1⟩; obtain rfl := hw1.symm; obtain ⟨c, rfl, hc⟩ := hb.ex; have HC2 := hide hc; clear hc hb
      cases c with
      | false =>
        go_wp2_with fail
        go_ret
        exact ⟨RB.no (fun h => by have := HC2.out.2 h.slots; simp at this), HO1.out⟩
      | true =>
        have c12 := HB1.out.c12
        go_wp2_with fail
        refine (zlists_any _ _ _ _ _ HR1.out.more).mono ?_; rintro e w1 ⟨hb, hw1⟩; obtain rfl := hw1.symm; obtain ⟨c, rfl, hc⟩ := hb.ex; have HC3 := hide hc; clear hc hb
        cases c with
        | false =>
          go_wp2_with fail
          go_ret
          exact ⟨RB.no (fun h => by have := HC3.out.2 h.more; simp at this), HO1.out⟩
        | true =>
          have c13 := HB1.out.c13; have c14 := HB1.out.c14; have c15 := HB1.out.c15; clear c11 c12
          go_wp2_with fail
          go_loop [3] (fun y => ∃ j : Nat, j ≤ r.images.length ∧ y = .int .i64 (j : Int) ∧ Hid (∀ n ∈ r.images.take j, mb n.page)) (fun y => r.images.length - (intOf y).toNat)
          case atStart => exact ⟨0, by omega, rfl, (fun n hn => by simp at hn)⟩
          case round =>
            obtain ⟨j, hj, rfl, HQ3⟩ := hrel
            by_cases hlt : j < r.images.length
            · have hj1 : (j : Int) < (r.images.length : Int) := by omega
              have hmem := List.getElem_mem hlt; have HT : Hid (r.images.take (j + 1) = r.images.take j ++ [r.images[j]]) := List.take_succ_eq_append_getElem hlt; obtain ⟨o, e1, c1⟩ := HI.out.at_ (by omega); obtain ⟨D, aa, cc, k1, _⟩ := c1 j hlt; have k0 := k1.c0; obtain ⟨z, hz⟩ : ∃ z, r.images[j] = z := ⟨_, rfl⟩; rw [hz] at k0 hmem HT; have HM := hide hmem; rw [e1] at c13; clear c1 k1 hz hmem
              by_cases hm : mb z.page
              · have HY := hide (fun W => zyes W z.page hm)
                have HMB := hide hm; clear hm
                go_wp2_with fail
                refine (HY.out _).mono ?_; rintro e w1 ⟨rfl, rfl⟩
                go_wp2_with fail
                go_round
                case rel =>
                  refine ⟨j + 1, by omega, by go_num, ?_⟩; unfold Hid; rw [HT.out]; intro n hn
                  rcases List.mem_append.1 hn with hn | hn
                  · exact HQ3.out n hn
                  · simp at hn; subst hn; exact HMB.out
                case measure => simp [intOf]; omega
              · have HY := hide (fun W => zno W z.page hm)
                have HMB := hide hm; clear hm
                go_wp2_with fail
                refine (HY.out _).mono ?_; rintro e w1 ⟨rfl, rfl⟩
                go_wp2_with fail
                go_ret
                exact ⟨RB.no (fun h => HMB.out (h.images z HM.out)), HO1.out⟩
            · have hj1 : ¬ (j : Int) < (r.images.length : Int) := by omega
              have e : r.images.take j = r.images := List.take_of_length_le (by omega); rw [e] at HQ3
              go_wp2_with fail
              clear hj1 e
              go_loop [4] (fun y => ∃ j : Nat, j ≤ r.pages.length ∧ y = .int .i64 (j : Int) ∧ Hid (∀ n ∈ r.pages.take j, mb n.1 ∧ mb n.2)) (fun y => r.pages.length - (intOf y).toNat)
              case atStart => exact ⟨0, by omega, rfl, (fun n hn => by simp at hn)⟩
              case round =>
                obtain ⟨j, hj, rfl, HQ4⟩ := hrel
                by_cases hlt : j < r.pages.length
                · have hj1 : (j : Int) < (r.pages.length : Int) := by omega
                  have hmem := List.getElem_mem hlt; have HT : Hid (r.pages.take (j + 1) = r.pages.take j ++ [r.pages[j]]) := List.take_succ_eq_append_getElem hlt; obtain ⟨o, e1, c1⟩ := (HR1.out.pages).at_ (by omega); obtain ⟨k0, k1⟩ := c1 j hlt; obtain ⟨z, hz⟩ : ∃ z, r.pages[j] = z := ⟨_, rfl⟩; rw [hz] at k0 k1 hmem HT; have HM := hide hmem; rw [e1] at c14; clear c1 hz hmem
                  by_cases hm : mb z.1
                  · have HY := hide (fun W => zyes W z.1 hm)
                    have HMB := hide hm; clear hm
                    go_wp2_with fail
                    refine (HY.out _).mono ?_; rintro e w1 ⟨rfl, rfl⟩
                    by_cases hm2 : mb z.2
                    · have HY2 := hide (fun W => zyes W z.2 hm2)
                      have HMB2 := hide hm2; clear hm2
                      go_wp2_with fail
                      refine (HY2.out _).mono ?_; rintro e w2 ⟨rfl, rfl⟩
                      go_wp2_with fail
                      go_round
                      case rel =>
                        refine ⟨j + 1, by omega, by go_num, ?_⟩; unfold Hid; rw [HT.out]; intro n hn
                        rcases List.mem_append.1 hn with hn | hn
                        · exact HQ4.out n hn
                        · simp at hn; subst hn; exact ⟨HMB.out, HMB2.out⟩
                      case measure => simp [intOf]; omega
                    · have HY2 := hide (fun W => zno W z.2 hm2)
                      have HMB2 := hide hm2; clear hm2
                      go_wp2_with fail
                      refine (HY2.out _).mono ?_; rintro e w2 ⟨rfl, rfl⟩
                      go_wp2_with fail
                      go_ret
                      exact ⟨RB.no (fun h => HMB2.out (h.pages z HM.out).2), HO1.out⟩
                  · have HY := hide (fun W => zno W z.1 hm)
                    have HMB := hide hm; clear hm
                    go_wp2_with fail
                    refine (HY.out _).mono ?_; rintro e w1 ⟨rfl, rfl⟩
                    go_wp2_with fail
                    go_ret
                    exact ⟨RB.no (fun h => HMB.out (h.pages z HM.out).1), HO1.out⟩
                · have hj1 : ¬ (j : Int) < (r.pages.length : Int) := by omega
                  have e : r.pages.take j = r.pages := List.take_of_length_le (by omega); rw [e] at HQ4
                  go_wp2_with fail
                  clear hj1 e
                  go_loop [5] (fun y => ∃ j : Nat, j ≤ r.txns.length ∧ y = .int .i64 (j : Int) ∧ Hid (∀ n ∈ r.txns.take j, mb n.1 ∧ mb n.2)) (fun y => r.txns.length - (intOf y).toNat)
                  case atStart => exact ⟨0, by omega, rfl, (fun n hn => by simp at hn)⟩
                  case round =>
                    obtain ⟨j, hj, rfl, HQ5⟩ := hrel
                    by_cases hlt : j < r.txns.length
                    · have hj1 : (j : Int) < (r.txns.length : Int) := by omega
                      have hmem := List.getElem_mem hlt; have HT : Hid (r.txns.take (j + 1) = r.txns.take j ++ [r.txns[j]]) := List.take_succ_eq_append_getElem hlt; obtain ⟨o, e1, c1⟩ := (HR1.out.txns).at_ (by omega); obtain ⟨k0, k1⟩ := c1 j hlt; obtain ⟨z, hz⟩ : ∃ z, r.txns[j] = z := ⟨_, rfl⟩; rw [hz] at k0 k1 hmem HT; have HM := hide hmem; rw [e1] at c15; clear c1 hz hmem
                      by_cases hm : mb z.1
                      · have HY := hide (fun W => zyes W z.1 hm)
                        have HMB := hide hm; clear hm
                        go_wp2_with fail
                        refine (HY.out _).mono ?_; rintro e w1 ⟨rfl, rfl⟩
                        by_cases hm2 : mb z.2
                        · have HY2 := hide (fun W => zyes W z.2 hm2)
                          have HMB2 := hide hm2; clear hm2
                          go_wp2_with fail
                          refine (HY2.out _).mono ?_; rintro e w2 ⟨rfl, rfl⟩
                          go_wp2_with fail
                          go_round
                          case rel =>
                            refine ⟨j + 1, by omega, by go_num, ?_⟩; unfold Hid; rw [HT.out]; intro n hn
                            rcases List.mem_append.1 hn with hn | hn
                            · exact HQ5.out n hn
                            · simp at hn; subst hn; exact ⟨HMB.out, HMB2.out⟩
                          case measure => simp [intOf]; omega
                        · have HY2 := hide (fun W => zno W z.2 hm2)
                          have HMB2 := hide hm2; clear hm2
                          go_wp2_with fail
                          refine (HY2.out _).mono ?_; rintro e w2 ⟨rfl, rfl⟩
                          go_wp2_with fail
                          go_ret
                          exact ⟨RB.no (fun h => HMB2.out (h.txns z HM.out).2), HO1.out⟩
                      · have HY := hide (fun W => zno W z.1 hm)
                        have HMB := hide hm; clear hm
                        go_wp2_with fail
                        refine (HY.out _).mono ?_; rintro e w1 ⟨rfl, rfl⟩
                        go_wp2_with fail
                        go_ret
                        exact ⟨RB.no (fun h => HMB.out (h.txns z HM.out).1), HO1.out⟩
                    · have hj1 : ¬ (j : Int) < (r.txns.length : Int) := by omega
                      have e : r.txns.take j = r.txns := List.take_of_length_le (by omega); rw [e] at HQ5
                      go_wp2_with fail
                      go_ret
                      exact ⟨RB.yes ⟨h1, HC1.out.1 (by trivial), HC2.out.1 (by trivial), HC3.out.1 (by trivial), HQ3.out, HQ4.out, HQ5.out⟩, HO1.out⟩
  · go_enter Tryz.func114, Tryz.ntmps114
    go_wp2_with fail
    rw [HW0.out]
    go_ret
    exact ⟨RB.no (fun h => by have := h.one; omega), HO0.out⟩
theorem only_row {w wr w1 : World} {v : Value} {row : Option Nat} {l : List UInt8} (ho : Only (fun _ => False) w wr) (hr : Row wr w.heap.size v row l) {o : Obj} (h1 : Only (fun k => some k = row) (wr.alloc o) w1) : Only (fun _ => False) w w1 := by
  refine (ho.trans (Only.alloc (fun _ => False) wr o) (fun _ _ h => h)).trans h1 ?_; intro i hi e; have := (hr.lt i e.symm).1
  omega
theorem refNum_none (w : World) (ao : Option Addr) (c : Nat) : Calls Tryz.prog 115 #[.slice ao 0 c] w fun e w' => e = .returned (.string ⟨#[]⟩) ∧ Only (fun _ => False) w w' := by
  have hcv := bytes_back w w.heap.size (.slice none 0 0) none [] ⟨World.ownsRow_nil _ _ _ _, rfl⟩
  go_enter Tryz.func115, Tryz.ntmps115
  go_wp2
  refine wp_loop_rounds 1 ?_; rw [rounds_succ]
  go_wp2
  go_ret
  exact ⟨rfl, Only.refl _ _⟩
set_option maxRecDepth 100000 in
set_option maxHeartbeats 1600000 in
theorem refNum_any (w : World) (zs : List Int) (g off cap : Nat) (hc : ∀ k, k < zs.length → w.cell? ⟨g, off + k, none⟩ = some (.int .i64 (zs.getD k 0))) (hz : ∀ k, k < zs.length → zs.getD k 0 < 9223372036854775808) (hgl : g < w.heap.size) (hl : 10 * zs.length + 20 ≤ 158329674399744) :
    Calls Tryz.prog 115 #[.slice (some ⟨g, off, none⟩) zs.length cap] w fun e w' => e = .returned (.string ⟨(nums zs).toArray⟩) ∧ Only (fun _ => False) w w' := by
  obtain ⟨i0, hi, hz0, hz1, hz2⟩ := info_parts Tryz.infoByte; have HC := hide hc; have HZ := hide hz; clear hc hz
  go_enter Tryz.func115, Tryz.ntmps115
  go_wp2
  go_loopw [3, 4, 5] (fun v i _ wr => ∃ (k : Nat) (row : Option Nat), k ≤ zs.length ∧ i = .int .i64 k ∧ Hid (Row wr w.heap.size v row (nums (zs.take k))) ∧ Hid (Only (fun _ => False) w wr))
    (fun _ i _ _ => zs.length - (intOf i).toNat)
  case atStart => exact ⟨0, none, Nat.zero_le _, rfl, ⟨World.ownsRow_nil _ _ _ _, rfl⟩, Only.refl _ _⟩
  case round =>
    obtain ⟨k, row, hk, rfl, HR, HO⟩ := hrel
    by_cases hlt : k < zs.length
    · have hck : wr.cell? ⟨g, off + k, none⟩ = some (.int .i64 (zs.getD k 0)) := (HO.out.cell (p := ⟨g, off + k, none⟩) hgl (fun h => h)).trans (HC.out k hlt)
      have hzk := HZ.out k hlt; have hnl := nums_len (zs.take k); have hnl2 : (zs.take k).length ≤ k := List.length_take_le _ _; have HN := hide (nums_snoc zs k hlt); obtain ⟨z, hzz⟩ : ∃ z, zs.getD k 0 = z := ⟨_, rfl⟩; rw [hzz] at hck hzk HN; clear hzz
      generalize nums (zs.take k) = l at *
      have hll : l.length ≤ 10 * k := by omega
      by_cases hneg : z < 0
      all_goals
        go_wp2
        go_loopw [3, 5] (fun v n wq => ∃ (q f : Nat) (row' : Option Nat) (l' : List UInt8), n = .int .i64 q ∧ Hid (Row wq w.heap.size v row' l') ∧ f ≤ 9 ∧ q < 9223372036854775808 ∧ Hid (q < 128 ^ f) ∧ Hid (l' ++ sevF f q = l ++ sev z.toNat) ∧ Hid (Only (fun _ => False) w wq) ∧ l'.length + f ≤ l.length + 9)
          (fun _ n _ => (intOf n).toNat)
        case atStart => exact ⟨z.toNat, 9, row, l, by go_num, HR, by omega, by omega, (by unfold Hid; omega), (by unfold Hid; rfl), HO, by omega⟩
        case round =>
          obtain ⟨q, f, row', l', rfl, HR1, hf, hq, Hq, HL, HO1, hlen⟩ := hrel
          by_cases h128 : (128 : Int) ≤ q
          · have HD : Hid (∀ o : World, o = wr.alloc (.cells #[.int .u8 ((q : Int) % 128 + 128)] 5) → o.cell? ⟨wr.heap.size, 0, none⟩ = some (.int .u8 (((UInt8.ofNat (q % 128 + 128)).toNat : Nat) : Int))) := by
              intro o ho; subst ho; rw [byte_nat (by omega)]
              simp
            go_wp2_with (at_builtin; go_must (refine wpList_byte _ rfl (.tmp 19) (.tmp 24) 80 rfl w.heap.size i0 Tryz.underlying80 hi hz0 hz1 hz2 _ row' l' rfl (HR1.out.alloc _) ⟨wr.heap.size, 0, none⟩ 1 (UInt8.ofNat (q % 128 + 128)) rfl (HD.out _ rfl) (by omega) (by have := HO1.out.size; simp; omega) ?_); intro v1 w1 row1 hr1 ho1 hrow1; clear hrow1; have HR2 := hide (And.intro hr1 (only_row HO1.out HR1.out ho1)); clear hr1 ho1)
            obtain ⟨f', hf', HL', Hq'⟩ := sevF_step HL.out Hq.out (by omega)
            go_roundw
            case rel => exact ⟨q / 128, f', row1, l' ++ [UInt8.ofNat (q % 128 + 128)], by go_num, HR2.out.1, by omega, by omega, Hq', HL', HR2.out.2, by simp; omega⟩
            case measure => simp [intOf]; omega
          · have HD : Hid (∀ o : World, o = wr.alloc (.cells #[.int .u8 (q : Int)] 5) → o.cell? ⟨wr.heap.size, 0, none⟩ = some (.int .u8 (((UInt8.ofNat q).toNat : Nat) : Int))) := by
              intro o ho; subst ho; rw [byte_nat (by omega)]
              simp
            have HL2 : Hid (l ++ sev z.toNat = l' ++ [UInt8.ofNat q]) := by unfold Hid; rw [← HL.out, sevF_end (by omega)]
            go_wp2_with (at_builtin; go_must (refine wpList_byte _ rfl (.tmp 28) (.tmp 31) 80 rfl w.heap.size i0 Tryz.underlying80 hi hz0 hz1 hz2 _ row' l' rfl (HR1.out.alloc _) ⟨wr.heap.size, 0, none⟩ 1 (UInt8.ofNat q) rfl (HD.out _ rfl) (by omega) (by have := HO1.out.size; simp; omega) ?_); intro v1 w1 row1 hr1 ho1 hrow1; clear hrow1; have HR2 := hide (And.intro hr1 (only_row HO1.out HR1.out ho1)); clear hr1 ho1)
            go_roundw
            case rel => exact ⟨k + 1, row1, by omega, by go_num, by rw [HN.out, HL2.out]; exact HR2.out.1, HR2.out.2⟩
            case measure => simp [intOf]; omega
    · have HT : Hid (zs.take k = zs) := List.take_of_length_le (by omega)
      have hR := HR.out; rw [HT.out] at hR; have hcv := bytes_back wr _ _ _ _ hR; clear hR
      go_wp2
      go_ret
      exact ⟨rfl, HO.out⟩
theorem refNum_one (w : World) (z : Int) (hz : z < 9223372036854775808) :
    Calls Tryz.prog 115 #[.slice (some ⟨w.heap.size, 0, none⟩) 1 1] (w.alloc (.cells #[.int .i64 z] 3)) fun e w' => e = .returned (.string ⟨(sev z.toNat).toArray⟩) ∧ Only (fun _ => False) w w' := by
  have h := refNum_any (w.alloc (.cells #[.int .i64 z] 3)) [z] w.heap.size 0 1
    (by intro k hk; have e : k = 0 := by simpa using hk
        subst e; simp)
    (by intro k hk; have e : k = 0 := by simpa using hk
        subst e; simpa using hz)
    (by simp) (by simp)
  refine Calls.mono h ?_; rintro e w' ⟨he, h2⟩
  exact ⟨by rw [he]; simp [nums], (Only.alloc (fun _ => False) w _).trans h2 (fun _ _ h => h)⟩
theorem ret_txt {a b : ByteArray} (h : a = b) : Ending.returned (.string a) = .returned (.string b) := by rw [h]
set_option maxRecDepth 100000 in
theorem refText_any (w : World) (s : ByteArray) (hs : s.size + 30 ≤ 158329674399744) :
    Calls Tryz.prog 116 #[.string s] w fun e w' => e = .returned (.string ⟨(sev s.size ++ s.data.toList).toArray⟩) ∧ Only (fun _ => False) w w' := by
  go_enter Tryz.func116, Tryz.ntmps116
  go_wp2_with fail
  refine (refNum_one w (s.size : Int) (by omega)).mono ?_; rintro e w1 ⟨rfl, ho1⟩; rw [Int.toNat_natCast]; have hsl : (sev s.size).length ≤ 10 := sevF_len 9 s.size
  go_wp2_with fail
  go_ret
  exact ⟨ret_txt (cat_eq _ _), ho1⟩
theorem bare_nil : bare [] = [] := rfl
theorem last_get (s : ByteArray) (k : Nat) (h : k < s.size) (he : k + 1 = s.size) : ∃ t, bl s = t ++ [s[k]] ∧ bl (s.extract 0 k) = t := by
  refine ⟨(bl s).take k, ?_, ?_⟩
  · have h' : k < (bl s).length := by rw [bl_len]; exact h
    have e : (bl s).take (k + 1) = (bl s).take k ++ [(bl s)[k]] := List.take_succ_eq_append_getElem h'; rw [List.take_of_length_le (by rw [bl_len]; omega)] at e
    exact e
  · rw [ext_bl, List.drop_zero]
set_option maxRecDepth 100000 in
set_option maxHeartbeats 1600000 in
theorem zbare_any (w : World) (a k v r : Int) (h : ByteArray) (B cp : Nat) (ao : Option Addr) (l : List ByteArray) (hS : Strs w B ao l) (hh : h.size ≤ 140737488355328) (ha : a < 9223372036854775808) (hok : (Pg.out ⟨a, k, v, r, h, l⟩).2 = 0) :
    Calls Tryz.prog 117 #[.agg #[.int .i64 a, .int .i64 k, .int .i64 v, .int .i64 r, .string h, .slice ao l.length cp]] w fun e w' => e = .returned (.string (str (bare (Pg.enc ⟨a, k, v, r, h, l⟩)))) ∧ Only (fun _ => False) w w' := by
  have HO0 := hide (onlyA w (.cells #[.int .i64 a, .int .i64 k, .int .i64 v, .int .i64 r, .string h, .slice ao l.length cp] 45)); obtain ⟨hout, hfit⟩ := out_zero hok; have hel := enc_len _ hfit.2.2; have he := yencode_any _ a k v r h B cp ao l (hS.more HO0.out) hh ha; rw [hout] at he; obtain ⟨E, hE⟩ : ∃ E, Pg.enc ⟨a, k, v, r, h, l⟩ = E := ⟨_, rfl⟩; rw [hE] at he hel ⊢; obtain ⟨X0, hX0⟩ : ∃ X0, str E = X0 := ⟨_, rfl⟩
  have hX0s : X0.size ≤ 512 := by rw [← hX0, str_size]; omega
  have hX0b : bl X0 = E := by rw [← hX0]; rfl
  simp only [hX0] at he; have HE := hide he; have HX0 := hide hX0b; clear he hout hfit hok hel hE hX0 hX0b hS
  go_enter Tryz.func117, Tryz.ntmps117
  go_wp2_with fail
  refine HE.out.mono ?_; rintro e w1 ⟨rfl, ho1⟩; have HO1 := hide (o2 HO0.out ho1); clear ho1
  go_wp2_with fail
  go_loop [3] (fun x => ∃ X : ByteArray, x = .string X ∧ X.size ≤ 512 ∧ Hid (bare (bl X) = bare E)) (fun x => match x with | .string s => s.size | _ => 0)
  case atStart => exact ⟨X0, rfl, hX0s, by unfold Hid; rw [HX0.out]⟩
  case round =>
    obtain ⟨X, rfl, hXs, HX⟩ := hrel
    by_cases hlt : 0 < X.size
    · have hl1 : (0 : Int) < (X.size : Int) := by omega
      obtain ⟨j, hj⟩ : ∃ j : Nat, X.size = j + 1 := ⟨X.size - 1, by omega⟩
      have hjI : (X.size : Int) - 1 = (j : Int) := by omega
      have hjl : j < X.size := by omega
      have hj0 : (0 : Int) ≤ (j : Int) := by omega
      have hj1 : (j : Int) < (X.size : Int) := by omega
      have hj2 : (j : Int) ≤ (X.size : Int) := by omega
      obtain ⟨t, ht, htk⟩ := last_get X j hjl hj.symm; obtain ⟨y, hy⟩ : ∃ y, X[j]'hjl = y := ⟨_, rfl⟩; rw [hy] at ht; have hbs := bare_snoc t y; rw [← ht] at hbs; have HBS := hide hbs; have HT := hide ht; have HTK := hide htk; have HJ := hide hj; clear hbs ht htk hj
      by_cases hz : y = 0
      · have hz' : ((y.toNat : Int) == 0) = true := by rw [hz]; rfl
        obtain ⟨Y, hY⟩ : ∃ Y, X.extract 0 j = Y := ⟨_, rfl⟩
        have HY : Hid (bare (bl Y) = bare E ∧ Y.size = j) := by
          have h1 := HBS.out; rw [if_pos hz] at h1; refine ⟨?_, ?_⟩
          · rw [← hY, HTK.out, ← h1]; exact HX.out
          · rw [← bl_len, ← hY, HTK.out]
            have h2 := congrArg List.length HT.out; rw [bl_len, HJ.out] at h2
            simp at h2
            omega
        clear hz
        go_wp2_with fail
        go_round
        case rel => exact ⟨Y, rfl, by have := HY.out.2; omega, HY.out.1⟩
        case measure => show Y.size < X.size; have := HY.out.2; omega
      · have hz' : ((y.toNat : Int) == 0) = false := by
          have : y.toNat ≠ 0 := fun e => hz (UInt8.toNat_inj.1 (by simpa using e))
          simp
          omega
        have HF : Hid (X = str (bare E)) := by
          have h1 := HBS.out; rw [if_neg hz] at h1; unfold Hid; rw [← HX.out, h1, str_bl]
        clear hz
        go_wp2_with fail
        go_ret
        rw [← HF.out]
        exact ⟨rfl, HO1.out⟩
    · have hl1 : ¬ (0 : Int) < (X.size : Int) := by omega
      have HF : Hid (X = str (bare E)) := by
        have h1 : bl X = [] := List.eq_nil_of_length_eq_zero (by rw [bl_len]; omega); have h2 := HX.out; rw [h1, bare_nil] at h2; unfold Hid; rw [← h2, ← str_bl X, h1]
      go_wp2_with fail
      go_ret
      rw [← HF.out]
      exact ⟨rfl, HO1.out⟩
theorem store_G (P : Program) (g o : Nat) (t : TypeId) (fz : Nat × Nat) : ∀ (vs : List Value) (i : Nat) (cur : Array Value) (w : World), w.heap[g]? = some (.cells cur t fz) → (fz.2 = 0 ∨ cur.size ≤ fz.1) → o + i + vs.length ≤ cur.size → (∀ v ∈ vs, v.oneCell' = true) →
    (storeCells ⟨g, o, none⟩ vs i).run P w = .ok () (w.setRow g (cur.toList.take (o + i) ++ vs ++ cur.toList.drop (o + i + vs.length)).toArray)
  | [], i, cur, w, hg, _, _, _ => by
    simp only [storeCells, List.append_nil, List.length_nil, Nat.add_zero, List.take_append_drop, Array.toArray_toList]; rw [setRow_self w g cur t fz hg]
    rfl
  | v :: rest, i, cur, w, hg, hfz, hl, h1 => by
    have hi : o + i < cur.size := by simp at hl; omega
    have hadd : (⟨g, o, none⟩ : Addr).add i = ⟨g, o + i, none⟩ := by unfold Addr.add; split <;> simp_all
    have hcell : w.cell? ⟨g, o + i, none⟩ = some cur[o + i] := by simp [World.cell?, hg, hi]
    have hfro : w.frozen? ⟨g, o + i, none⟩ = false := by
      obtain ⟨lo, hi'⟩ := fz; simp only [World.frozen?, hg, Bool.and_eq_false_iff, decide_eq_false_iff_not]
      simp only at hfz
      omega
    have hst : (store ((⟨g, o, none⟩ : Addr).add i) v).run P w = .ok () (w.setRow g (cur.setIfInBounds (o + i) v)) := by
      rw [hadd, run_store P w _ v _ (h1 v (by simp)), hcell]
      simp [hfro, setCell_eq_setRow w g (o + i) cur t fz v hg]
    have ih := store_G P g o t fz rest (i + 1) (cur.setIfInBounds (o + i) v) (w.setRow g (cur.setIfInBounds (o + i) v)) (setRow_heap w g cur _ t _ hg) (by simpa using hfz) (by simp at hl ⊢; omega) (fun x hx => h1 x (by simp [hx])); simp only [storeCells, Sem.run_bind, hst, Result.andThen_ok, ih, setRow_setRow]
    congr 3
    have e := list_seg_step cur.toList (o + i) v rest (by simp at hl ⊢; omega)
    simpa [Array.toList_setIfInBounds, Nat.add_assoc] using e
theorem room_G {P : Program} (w : World) (t u ty e : TypeId) (i : TypeInfo) (ht : P.underlying t = some (.slice e)) (hu : P.underlying u = some .string) (hi : P.info? e = some i) (hs1 : i.size = 1)
    (g sLen sCap : Nat) (cur : Array Value) (fz : Nat × Nat) (hg : w.heap[g]? = some (.cells cur e fz)) (hfz : fz.2 = 0 ∨ cur.size ≤ fz.1) (s : ByteArray)
    (hroom : sLen + s.size ≤ sCap) (hfit : sLen + s.size ≤ cur.size) :
    (Builtin.append_ #[t, u] ty #[.slice (some ⟨g, 0, none⟩) sLen sCap, .string s]).run P w =
      .ok (.slice (some ⟨g, 0, none⟩) (sLen + s.size) sCap) (w.setRow g (cur.toList.take sLen ++ Lib.strCells s ++ cur.toList.drop (sLen + s.size)).toArray) := by
  have hf := Lib.run_firstCells_string (P := P) w 1 s; have hst := store_G P g sLen e fz (Lib.strCells s) 0 cur w hg hfz (by simpa [Lib.strCells_length] using hfit) (Lib.strCells_oneCell s); simp only [Nat.add_zero, Lib.strCells_length] at hst
  simp [Builtin.append_, run_underlying ht, run_underlying hu, sizeOf, typeInfo, hi, hs1, Builtin.lenOf, hroom, hf, Addr.add_lit, hst]
structure RowG (w : World) (base : Nat) (v : Value) (l : List UInt8) : Prop where
  ex : ∃ g cap cur fz, v = .slice (some ⟨g, 0, none⟩) l.length cap ∧ base ≤ g ∧ w.heap[g]? = some (.cells cur 5 fz) ∧ (fz.2 = 0 ∨ cur.size ≤ fz.1) ∧ l.length ≤ cap ∧ cap ≤ maxLen ∧ cur.size = cap ∧ cur.toList.take l.length = cells l
theorem RowG.kept {w w' : World} {base : Nat} {v : Value} {l : List UInt8} (h : RowG w base v l) (ho : Only (fun _ => False) w w') : RowG w' base v l := by
  obtain ⟨g, cap, cur, fz, hv, hb, hh, r⟩ := h.ex
  exact ⟨g, cap, cur, fz, hv, hb, by rw [ho.block g (Array.getElem?_eq_some_iff.1 hh).1 (fun h => h)]; exact hh, r⟩
theorem RowG.parts {w : World} {base : Nat} {v : Value} {l : List UInt8} (h : RowG w base v l) : ∃ g cap, v = .slice (some ⟨g, 0, none⟩) l.length cap ∧ base ≤ g ∧ g < w.heap.size ∧ ∀ j (hj : j < l.length), w.cell? ((⟨g, 0, none⟩ : Addr).add j) = some (.int .u8 (l[j].toNat : Int)) := by
  obtain ⟨g, cap, cur, fz, hv, hb, hh, hfz, hn, hcm, hcs, htk⟩ := h.ex; refine ⟨g, cap, hv, hb, (Array.getElem?_eq_some_iff.1 hh).1, fun j hj => ?_⟩
  have hadd : (⟨g, 0, none⟩ : Addr).add j = ⟨g, j, none⟩ := by unfold Addr.add; split <;> simp_all
  rw [hadd, cell_of_row w g j cur 5 fz hh]
  have h1 : (cells l)[j]? = some (.int .u8 (l[j].toNat : Int)) := by
    unfold cells; rw [List.getElem?_map, List.getElem?_eq_getElem hj]
    rfl
  rw [← htk, List.getElem?_take, if_pos hj] at h1
  simpa using h1
theorem RowG.back {w : World} {base : Nat} {v : Value} {l : List UInt8} (h : RowG w base v l) : (convert 80 9 v).run Tryz.prog w = .ok (.string (str l)) w := by
  obtain ⟨g, cap, rfl, _, _, hc⟩ := h.parts
  exact run_convert_bytes_back w 80 9 5 ⟨g, 0, none⟩ cap l Tryz.underlying80 Tryz.underlying5 Tryz.underlying9 hc
structure LayG (W0 w : World) (v : Value) (l : List UInt8) : Prop where
  row : RowG w W0.heap.size v l
  only : Only (fun k => W0.heap.size ≤ k) W0 w
theorem LayG.text {W0 w : World} {v : Value} {l : List UInt8} (h : LayG W0 w v l) (s : ByteArray) (hn : l.length + s.size ≤ 140737488355328) :
    ∃ v' w', (Builtin.append_ #[80, 9] 80 #[v, .string s]).run Tryz.prog w = .ok v' w' ∧ LayG W0 w' v' (l ++ bl s) := by
  obtain ⟨i0, hi, hz0, hz1, hz2⟩ := info_parts Tryz.infoByte; obtain ⟨g, cap, cur, fz, rfl, hb, hg, hfz, hnc, hcm, hcs, htake⟩ := h.row.ex
  have hl2 : (l ++ bl s).length = l.length + s.size := by simp
  have hcl : (cells l).length = l.length := by simp [cells]
  have hcc : cells (l ++ bl s) = cells l ++ Lib.strCells s := cells_append l (bl s)
  have hml : l.length + s.size ≤ maxLen := by unfold maxLen; omega
  by_cases hroom : l.length + s.size ≤ cap
  · have hr := room_G (P := Tryz.prog) w 80 9 80 5 i0 Tryz.underlying80 Tryz.underlying9 hi hz1 g l.length cap cur fz hg hfz s hroom (by omega)
    refine ⟨_, _, hr, ⟨⟨g, cap, _, fz, by rw [hl2], hb, setRow_heap w g cur _ 5 _ hg, ?_, by omega, hcm, ?_, ?_⟩⟩, ?_⟩
    · have : (cur.toList.take l.length ++ Lib.strCells s ++ cur.toList.drop (l.length + s.size)).toArray.size = cur.size := by
        simp only [List.size_toArray, List.length_append, List.length_take, List.length_drop, Array.length_toList, Lib.strCells_length]
        omega
      rw [this]
      exact hfz
    · simp only [List.size_toArray, List.length_append, List.length_take, List.length_drop, Array.length_toList, Lib.strCells_length]
      omega
    · rw [htake, hcc]
      have e : (l ++ bl s).length = (cells l ++ Lib.strCells s).length := by rw [hl2]; simp only [List.length_append, hcl, Lib.strCells_length]
      rw [e]
      exact List.take_left
    · refine h.only.trans (S := fun k => W0.heap.size ≤ k) (Only.grown (row := some g) ⟨rfl, rfl, rfl, by simp, fun k _ hk => setRow_other w g k _ (fun e => hk (by rw [e]))⟩ (fun k hk => by cases hk; exact hb)) (fun _ _ h => h)
  · have holds : ∀ j u, (cells l)[j]? = some u → w.cell? ((⟨g, 0, none⟩ : Addr).add j) = some u := fun j u hu => by
      have hadd : (⟨g, 0, none⟩ : Addr).add j = ⟨g, j, none⟩ := by unfold Addr.add; split <;> simp_all
      rw [hadd, cell_of_row w g j cur 5 fz hg]; rw [← htake, List.getElem?_take] at hu
      split at hu
      · simpa using hu
      · cases hu
    have hr := Lib.run_append_grow_string (P := Tryz.prog) w 80 9 80 5 i0 (.int .u8 0) Tryz.underlying80 Tryz.underlying9 hi hz0 ⟨g, 0, none⟩ l.length cap (cells l) (by rw [hz1]; simpa using hcl) holds s (by omega) (by omega) (by rw [hz2]; exact growslice_fits (by omega) (by omega)); have hge := grownCap_ge w (l.length + s.size) cap 5; have hcm2 : grownCap w (l.length + s.size) cap 5 ≤ maxLen := grownCap_le_maxLen w (l.length + s.size) cap 5 hml; refine ⟨_, _, hr, ⟨⟨w.heap.size, _, _, (0, 0), by rw [hl2], h.only.size, heap_alloc_new w.drew _, .inl rfl, by omega, hcm2, ?_, ?_⟩⟩, ?_⟩
    · have hz1 : (Value.int IntKind.u8 0).cells.size = 1 := rfl
      simp only [Array.size_append, List.size_toArray, size_zeroCells, hz1, hcl, Lib.strCells_length]
      omega
    · rw [hcc]
      have e : (l ++ bl s).length = (cells l ++ Lib.strCells s).length := by rw [hl2]; simp only [List.length_append, hcl, Lib.strCells_length]
      simp only [Array.toList_append, List.append_assoc]; rw [← List.append_assoc, e]
      exact List.take_left
    · exact h.only.trans (S := fun k => W0.heap.size ≤ k) (Only.grown (row := none) ⟨rfl, rfl, rfl, by simp, fun k hk _ => heap_alloc_old w.drew _ hk⟩ (fun k hk => by cases hk)) (fun _ _ h => h)
theorem layG_of_text {W0 w : World} (s : ByteArray) (ho : Only (fun _ => False) W0 w) (hn : s.size ≤ 140737488355328) :
    ∃ v' w', (convert 9 80 (.string s)).run Tryz.prog w = .ok v' w' ∧ LayG W0 w' v' (bl s) := by
  refine ⟨_, _, run_bytes_of_string w 9 80 5 s Tryz.underlying9 Tryz.underlying80 Tryz.underlying5, ⟨⟨w.heap.size, _, _, _, by rw [bl_len], ho.size, heap_alloc_new w.drew _, .inr (Nat.le_refl _), by rw [bl_len]; exact grownCap_ge w s.size 0 5, grownCap_le_maxLen w s.size 0 5 (by unfold maxLen; omega), ?_, ?_⟩⟩, ?_⟩
  · have := grownCap_ge w s.size 0 5
    unfold bytesRow; simp only [Array.size_append, Array.size_map, Array.size_replicate]
    show s.size + _ = _
    omega
  · unfold bytesRow
    rw [Array.toList_append, Array.toList_map]
    have e : (bl s).length = (s.data.toList.map (fun b => Value.int .u8 (b.toNat : Int))).length := by rw [List.length_map]
    rw [e, List.take_left]
    rfl
  · exact ((ho.mono (T := fun k => W0.heap.size ≤ k) (fun _ _ h => h.elim)).trans (Only.grown (row := none) ⟨rfl, rfl, rfl, by simp, fun k hk _ => heap_alloc_old w.drew _ hk⟩ (fun k hk => by cases hk)) (fun _ _ h => h))
structure LN (W0 w : World) (v : Value) (l : List UInt8) (N : Nat) : Prop where
  row : RowG w W0.heap.size v l
  only : Only (fun _ => False) W0 w
  len : l.length ≤ N
theorem only_low {W0 w : World} (h : Only (fun k => W0.heap.size ≤ k) W0 w) : Only (fun _ => False) W0 w :=
  h.mono (fun _ hi hk => Nat.lt_irrefl _ (Nat.lt_of_lt_of_le hi hk))
theorem LN.more {W0 w w' : World} {v : Value} {l : List UInt8} {N : Nat} (h : LN W0 w v l N) (ho : Only (fun _ => False) w w') : LN W0 w' v l N := ⟨h.row.kept ho, o2 h.only ho, h.len⟩
theorem LN.le {W0 w : World} {v : Value} {l : List UInt8} {N N' : Nat} (h : LN W0 w v l N) (hN : N ≤ N') : LN W0 w v l N' := ⟨h.row, h.only, Nat.le_trans h.len hN⟩
theorem LN.text {W0 w : World} {v : Value} {l : List UInt8} {N : Nat} (h : LN W0 w v l N) (m : List UInt8) (M : Nat) (hm : m.length ≤ M) (hN : N + M ≤ 1000000000) :
    ∃ v' w', (Builtin.append_ #[80, 9] 80 #[v, .string (str m)]).run Tryz.prog w = .ok v' w' ∧ LN W0 w' v' (l ++ m) (N + M) := by
  have hl := h.len; obtain ⟨v', w', hr, h2⟩ := LayG.text ⟨h.row, h.only.mono (fun _ _ h => h.elim)⟩ (str m) (by rw [str_size]; omega); rw [bl_str] at h2
  exact ⟨v', w', hr, h2.row, only_low h2.only, by rw [List.length_append]; omega⟩
theorem ln_new {W0 w : World} (m : List UInt8) (M : Nat) (hm : m.length ≤ M) (hM : M ≤ 1000000000) (ho : Only (fun _ => False) W0 w) :
    ∃ v' w', (convert 9 80 (.string (str m))).run Tryz.prog w = .ok v' w' ∧ LN W0 w' v' m M := by
  obtain ⟨v', w', hr, h2⟩ := layG_of_text (W0 := W0) (w := w) (str m) ho (by rw [str_size]; omega); rw [bl_str] at h2
  exact ⟨v', w', hr, h2.row, only_low h2.only, hm⟩
theorem LN.back {W0 w : World} {v : Value} {l : List UInt8} {N : Nat} (h : LN W0 w v l N) : (convert 80 9 v).run Tryz.prog w = .ok (.string (str l)) w := h.row.back
theorem znum_one (w : World) (z : Int) (hz : z ≤ top) :
    Calls Tryz.prog 115 #[.slice (some ⟨w.heap.size, 0, none⟩) 1 1] (w.alloc (.cells #[.int .i64 z] 3)) fun e w' => e = .returned (.string (str (sev z.toNat))) ∧ Only (fun _ => False) w w' :=
  refNum_one w z (by unfold top at hz; omega)
theorem znum_zs (w : World) (B cp : Nat) (ao : Option Addr) (l : List Int) (h : Zs w B ao l) (hb : ∀ z ∈ l, z ≤ top) (hl : l.length ≤ 1000) :
    Calls Tryz.prog 115 #[.slice ao l.length cp] w fun e w' => e = .returned (.string (str (nums l))) ∧ Only (fun _ => False) w w' := by
  by_cases h0 : l = []
  · subst h0
    exact refNum_none w ao cp
  · have hp : 0 < l.length := by cases l with
      | nil => exact absurd rfl h0
      | cons x t => simp
    obtain ⟨o, rfl, hc⟩ := h.at_ hp
    have e : ∀ k (hk : k < l.length), l.getD k 0 = l[k] := fun k hk => by simp [List.getD, List.getElem?_eq_getElem hk]
    exact refNum_any w l B o cp (fun k hk => by rw [e k hk]; exact hc k hk) (fun k hk => by rw [e k hk]; have := hb _ (List.getElem_mem hk); unfold top at this; omega) (h.lt hp) (by omega)
theorem znum_oneX (W X : World) (z : Int) (ho : Only (fun _ => False) (W.alloc (.cells #[.int .i64 z] 3)) X) (hz : z ≤ top) :
    Calls Tryz.prog 115 #[.slice (some ⟨W.heap.size, 0, none⟩) 1 1] X fun e w' => e = .returned (.string (str (sev z.toNat))) ∧ Only (fun _ => False) W w' := by
  have hZ : Zs (W.alloc (.cells #[.int .i64 z] 3)) W.heap.size (some ⟨W.heap.size, 0, none⟩) [z] := by
    refine ⟨fun _ => ⟨0, rfl, fun j hj => ?_⟩, fun _ => by simp, by simp⟩
    match j, hj with
    | 0, _ => simp
  have h := znum_zs X _ 1 _ _ (hZ.more ho) (by intro y hy; simp at hy; subst hy; exact hz) (by simp)
  have e : nums [z] = sev z.toNat := by simp [nums]
  rw [e] at h
  exact h.mono (fun _ _ h => ⟨h.1, o2 (onlyA _ _) (o2 ho h.2)⟩)
theorem znum_tenX (W X : World) (a0 a1 a2 a3 a4 a5 a6 a7 a8 a9 : Int) (ho : Only (fun _ => False) (W.alloc (.cells #[.int .i64 a0, .int .i64 a1, .int .i64 a2, .int .i64 a3, .int .i64 a4, .int .i64 a5, .int .i64 a6, .int .i64 a7, .int .i64 a8, .int .i64 a9] 3)) X) (hb : ∀ z ∈ [a0, a1, a2, a3, a4, a5, a6, a7, a8, a9], z ≤ top) :
    Calls Tryz.prog 115 #[.slice (some ⟨W.heap.size, 0, none⟩) 10 10] X fun e w' => e = .returned (.string (str (nums [a0, a1, a2, a3, a4, a5, a6, a7, a8, a9]))) ∧ Only (fun _ => False) W w' :=
  (znum_zs X _ 10 _ _ ((Zs.ten W a0 a1 a2 a3 a4 a5 a6 a7 a8 a9).more ho) hb (by simp)).mono (fun _ _ h => ⟨h.1, o2 (onlyA _ _) (o2 ho h.2)⟩)
theorem znum_twoX (W X : World) (a b : Int) (ho : Only (fun _ => False) (W.alloc (.cells #[.int .i64 a, .int .i64 b] 3)) X) (ha : a ≤ top) (hb : b ≤ top) :
    Calls Tryz.prog 115 #[.slice (some ⟨W.heap.size, 0, none⟩) 2 2] X fun e w' => e = .returned (.string (str (prL (a, b)))) ∧ Only (fun _ => False) W w' := by
  have hZ : Zs (W.alloc (.cells #[.int .i64 a, .int .i64 b] 3)) W.heap.size (some ⟨W.heap.size, 0, none⟩) [a, b] := by
    refine ⟨fun _ => ⟨0, rfl, fun j hj => ?_⟩, fun _ => by simp, by simp⟩
    match j, hj with
    | 0, _ => simp
    | 1, _ => simp
  have h := znum_zs X _ 2 _ _ (hZ.more ho) (by intro z hz; simp at hz; rcases hz with rfl | rfl <;> assumption) (by simp)
  have e : nums [a, b] = prL (a, b) := by simp [nums, prL]
  rw [e] at h
  exact h.mono (fun _ _ h => ⟨h.1, o2 (onlyA _ _) (o2 ho h.2)⟩)
theorem ztext_any (w : World) (s : ByteArray) (hs : s.size ≤ 512) :
    Calls Tryz.prog 116 #[.string s] w fun e w' => e = .returned (.string (str (textL s))) ∧ Only (fun _ => False) w w' :=
  refText_any w s (by omega)
theorem load_im {w : World} {b k : Nat} {i : Im} {D : Nat} {ao : Option Addr} {cp : Nat} (h : ImAt w b k i D ao cp) : (loadVar 45 ⟨b, k + 1, none⟩).run Tryz.prog w = .ok (.agg #[.int .i64 i.body.lsn, .int .i64 i.body.kind, .int .i64 i.body.level, .int .i64 i.body.right, .string i.body.high, .slice ao i.body.items.length cp]) w := by
  have c1 := h.c1; have c2 := h.c2; have c3 := h.c3; have c4 := h.c4; have c5 := h.c5; have c6 := h.c6
  go_simp
theorem yieldsIf_load_im {ops : Array Oper} {S : World → Prop} {op : Oper} {a : Act} {b k : Nat} {i : Im} {D : Nat} {ao : Option Addr} {cp : Nat} (hw : Region.wanted op (yielded ops a.tmps) = true) (x : Operand) (ho : op.op = .load 45 x)
    (hx : a.eval x = .pointer (some ⟨b, k + 1, none⟩)) (hS : ∀ w, S w → ImAt w b k i D ao cp) : YieldsIf Tryz.prog ops S op (.agg #[.int .i64 i.body.lsn, .int .i64 i.body.kind, .int .i64 i.body.level, .int .i64 i.body.right, .string i.body.high, .slice ao i.body.items.length cp]) a :=
  .inl ⟨hw, fun w hw' => by
    unfold execOp
    simp only [ho, hx, Instr.loadAt, Instr.sureAddr, Sem.run_bind, Sem.run_pure, Result.andThen_ok, load_im (hS w hw')]⟩
theorem ld_kind {w : World} {p : Addr} {v : Value} (h : w.cell? p = some v) : (loadVar 53 p).run Tryz.prog w = .ok v w := by simp [loadVar, go_sem, h]
theorem ld_images {w : World} {p : Addr} {v : Value} (h : w.cell? p = some v) : (loadVar 55 p).run Tryz.prog w = .ok v w := by simp [loadVar, go_sem, h]
theorem ld_oweds {w : World} {p : Addr} {v : Value} (h : w.cell? p = some v) : (loadVar 56 p).run Tryz.prog w = .ok v w := by simp [loadVar, go_sem, h]
theorem ld_beguns {w : World} {p : Addr} {v : Value} (h : w.cell? p = some v) : (loadVar 57 p).run Tryz.prog w = .ok v w := by simp [loadVar, go_sem, h]
end Go.Proofs.YtebijheonkagfaaGreatDoor
