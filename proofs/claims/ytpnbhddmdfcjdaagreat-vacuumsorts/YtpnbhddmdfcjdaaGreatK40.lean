/- Parts. -/
import Derived.Test.YtpnbhddmdfcjdaaGreatK39
import Derived.Lib.SlicesCompact
set_option maxRecDepth 100000

namespace Go.Proofs.YtpnbhddmdfcjdaaGreat
open Go.RowKit Go.Lib
/-- All pages that a record names, one behind the other. -/
def touL (R : Rc) : List Int := R.images.map Im.page ++ (if ownK R.kind = true then [R.page] else [])
/-- What Touches answers: rising, each once. -/
def touS (R : Rc) : List Int := compact ((touL R).mergeSort fun x y => decide (x ≤ y))
theorem comp_upto (s : List Int) (hs : s.Pairwise (· ≤ ·)) (m : Nat) (hm : m ≤ s.length) : (compactUpTo s.toArray m).Pairwise (· < ·) ∧ ∀ x, x ∈ compactUpTo s.toArray m ↔ x ∈ s.take m := by
  induction m with
  | zero => exact ⟨by simp [compactUpTo], fun x => by simp [compactUpTo]⟩
  | succ m ih =>
    obtain ⟨h1, h2⟩ := ih (by omega)
    have hm' : m < s.length := by omega
    have e1 : s.toArray[m]! = s[m] := by simp [hm']
    have e3 : ∀ x, x ∈ s.take (m + 1) ↔ x ∈ s.take m ∨ x = s[m] := by
      intro x
      rw [List.take_succ_eq_append_getElem hm', List.mem_append, List.mem_singleton]
    rw [compactUpTo_succ]
    by_cases hk : keeps s.toArray m = true
    · rw [if_pos hk, e1]
      refine ⟨?_, fun x => by rw [e3, List.mem_append, h2]; simp⟩
      rw [List.pairwise_append]
      refine ⟨h1, List.pairwise_singleton _ _, fun x hx y hy => ?_⟩
      simp only [List.mem_singleton] at hy
      subst hy
      obtain ⟨i, hi, hx2⟩ := List.mem_take_iff_getElem.1 ((h2 x).1 hx)
      have hi' : i < m := by omega
      have hm0 : 0 < m := by omega
      have e2 : s.toArray[m - 1]! = s[m - 1] := by simp [show m - 1 < s.length by omega]
      have hne : s[m] ≠ s[m - 1] := by
        have := hk
        unfold keeps at this
        rw [e1, e2, decide_eq_true_iff] at this
        rcases this with h | h
        · omega
        · exact h
      have hle : ∀ i j (hi : i < s.length) (hj : j < s.length), i ≤ j → s[i] ≤ s[j] := by
        intro i j hi hj hij
        by_cases e : i = j
        · subst e; exact Int.le_refl _
        · exact List.pairwise_iff_getElem.1 hs i j hi hj (by omega)
      have l1 := hle i (m - 1) (by omega) (by omega) (by omega)
      have l2 := hle (m - 1) m (by omega) hm' (by omega)
      rw [← hx2]
      omega
    · rw [if_neg hk, List.append_nil]
      refine ⟨h1, fun x => ?_⟩
      rw [e3, h2]
      refine ⟨.inl, fun h => h.elim id (fun e => ?_)⟩
      have hm0 : ¬ m = 0 := fun e0 => hk (by rw [e0]; simp [keeps])
      have e2 : s.toArray[m - 1]! = s[m - 1] := by simp [show m - 1 < s.length by omega]
      have he : s[m] = s[m - 1] := by
        refine Classical.byContradiction fun h => hk ?_
        unfold keeps
        rw [e1, e2, decide_eq_true_iff]
        exact .inr h
      rw [e, he]
      exact List.mem_take_iff_getElem.2 ⟨m - 1, by omega, rfl⟩
theorem touS_rise (R : Rc) : (touS R).Pairwise (· < ·) ∧ ∀ x, x ∈ touS R ↔ x ∈ touL R := by
  have hs : ((touL R).mergeSort fun x y => decide (x ≤ y)).Pairwise (· ≤ ·) := by
    have := List.pairwise_mergeSort (le := fun x y : Int => decide (x ≤ y)) (fun a b c h1 h2 => by simp at *; omega) (fun a b => by simp; omega) (touL R)
    exact this.imp (fun h => by simpa using h)
  obtain ⟨h1, h2⟩ := comp_upto _ hs _ (Nat.le_refl _)
  refine ⟨h1, fun x => ?_⟩
  show x ∈ compactUpTo _ _ ↔ _
  rw [h2, List.take_length, List.mem_mergeSort]
theorem touS_len (R : Rc) : (touS R).length ≤ (touL R).length := by
  unfold touS compact compactUpTo
  rw [List.length_map]
  refine Nat.le_trans (List.length_filter_le _ _) ?_
  rw [List.length_range, List.length_mergeSort]
  exact Nat.le_refl _
end Go.Proofs.YtpnbhddmdfcjdaaGreat
namespace Go.Proofs.YtpnbhddmdfcjdaaGreat
open Go.RowKit
set_option maxRecDepth 100000 in
set_option maxHeartbeats 1600000 in
theorem nstatus_any (w : World) (V : Vw) (q : Lo) (x : Int) (h : Sn w V q) (hx : I64 x) :
    Calls Tryz.prog 65 #[.agg #[.int .i64 V.m, .int .i64 V.next, .slice q.aA V.act.length q.cA, .int .i64 V.own, .slice q.aR V.run.length q.cR, .int .i64 V.pg.lsn, .int .i64 V.pg.kind, .int .i64 V.pg.level, .int .i64 V.pg.right, .string V.pg.high, .slice q.aP V.pg.items.length q.cP], .int .i64 x] w fun e w' => e = .returned (.int .u8 (vsi V x)) ∧ Only (fun _ => False) w w' := by
  have C0 := hide (fun W (h : Sn W V q) => quiet_only (nin_any W q.bR q.cR q.aR V.run x h.run))
  have C1 := hide (fun W (h : Sn W V q) => kget_any W V.m V.pg.lsn V.pg.kind V.pg.level V.pg.right x V.pg.high q.cP q.bP q.aP V.pg.items h.m hx h.pg)
  have HN := hide h
  clear h hx
  have HB := hide (VB.new w (.int .i64 V.m) (.int .i64 V.next) (.slice q.aA V.act.length q.cA) (.int .i64 V.own) (.slice q.aR V.run.length q.cR) (.int .i64 V.pg.lsn) (.int .i64 V.pg.kind) (.int .i64 V.pg.level) (.int .i64 V.pg.right) (.string V.pg.high) (.slice q.aP V.pg.items.length q.cP))
  have HO := hide (onlyA w (.cells #[.int .i64 V.m, .int .i64 V.next, .slice q.aA V.act.length q.cA, .int .i64 V.own, .slice q.aR V.run.length q.cR, .int .i64 V.pg.lsn, .int .i64 V.pg.kind, .int .i64 V.pg.level, .int .i64 V.pg.right, .string V.pg.high, .slice q.aP V.pg.items.length q.cP] 32))
  by_cases hr : x ∈ V.run
  ·
    rw [decide_eq_true hr] at C0
    have hv : vsi V x = 1 := by unfold vsi; rw [if_pos hr]
    rw [hv]
    clear hr hv
    go_enter Tryz.func65, Tryz.ntmps65
    go_upto_region 1 with fail
    obtain ⟨W0, hW0⟩ : ∃ W, w.alloc (.cells #[.int .i64 V.m, .int .i64 V.next, .slice q.aA V.act.length q.cA, .int .i64 V.own, .slice q.aR V.run.length q.cR, .int .i64 V.pg.lsn, .int .i64 V.pg.kind, .int .i64 V.pg.level, .int .i64 V.pg.right, .string V.pg.high, .slice q.aP V.pg.items.length q.cP] 32) = W := ⟨_, rfl⟩
    rw [hW0] at HB HO ⊢
    clear hW0
    obtain ⟨vc0, vc1, vc2, vc3, vc4, vc5, vc6, vc7, vc8, vc9, vc10, vf0, vf1, vf2, vf3, vf4, vf5, vf6, vf7, vf8, vf9, vf10, vlt⟩ := HB.out
    clear vf0 vf1 vf2 vf3 vf4 vf5 vf6 vf7 vf8 vf9 vf10
    go_wp2_with fail
    refine (C0.out _ (HN.out.more HO.out)).mono ?_
    rintro e w1 ⟨rfl, ho⟩
    clear vc0 vc1 vc2 vc3 vc4 vc5 vc6 vc7 vc8 vc9 vc10 vlt
    have HB := hide (HB.out.more ho)
    have HO := hide (o2 HO.out ho)
    clear ho
    obtain ⟨vc0, vc1, vc2, vc3, vc4, vc5, vc6, vc7, vc8, vc9, vc10, vf0, vf1, vf2, vf3, vf4, vf5, vf6, vf7, vf8, vf9, vf10, vlt⟩ := HB.out
    clear vf0 vf1 vf2 vf3 vf4 vf5 vf6 vf7 vf8 vf9 vf10
    go_wp2_with fail
    go_ret
    exact ⟨rfl, HO.out⟩
  ·
    rw [decide_eq_false hr] at C0
    have hv : vsi V x = (gst V.m V.pg x : Int) := by unfold vsi; rw [if_neg hr]
    rw [hv]
    clear hr hv
    by_cases hc : cid V.m V.pg x = 0
    ·
      rw [hc] at C1
      clear hc
      go_enter Tryz.func65, Tryz.ntmps65
      go_upto_region 1 with fail
      obtain ⟨W0, hW0⟩ : ∃ W, w.alloc (.cells #[.int .i64 V.m, .int .i64 V.next, .slice q.aA V.act.length q.cA, .int .i64 V.own, .slice q.aR V.run.length q.cR, .int .i64 V.pg.lsn, .int .i64 V.pg.kind, .int .i64 V.pg.level, .int .i64 V.pg.right, .string V.pg.high, .slice q.aP V.pg.items.length q.cP] 32) = W := ⟨_, rfl⟩
      rw [hW0] at HB HO ⊢
      clear hW0
      obtain ⟨vc0, vc1, vc2, vc3, vc4, vc5, vc6, vc7, vc8, vc9, vc10, vf0, vf1, vf2, vf3, vf4, vf5, vf6, vf7, vf8, vf9, vf10, vlt⟩ := HB.out
      clear vf0 vf1 vf2 vf3 vf4 vf5 vf6 vf7 vf8 vf9 vf10
      go_wp2_with fail
      refine (C0.out _ (HN.out.more HO.out)).mono ?_
      rintro e w2 ⟨rfl, ho⟩
      clear vc0 vc1 vc2 vc3 vc4 vc5 vc6 vc7 vc8 vc9 vc10 vlt
      have HB := hide (HB.out.more ho)
      have HO := hide (o2 HO.out ho)
      clear ho
      obtain ⟨vc0, vc1, vc2, vc3, vc4, vc5, vc6, vc7, vc8, vc9, vc10, vf0, vf1, vf2, vf3, vf4, vf5, vf6, vf7, vf8, vf9, vf10, vlt⟩ := HB.out
      clear vf0 vf1 vf2 vf3 vf4 vf5 vf6 vf7 vf8 vf9 vf10
      go_wp2_with fail
      refine (C1.out _ (HN.out.more HO.out)).mono ?_
      rintro e w3 ⟨rfl, ho⟩
      clear vc0 vc1 vc2 vc3 vc4 vc5 vc6 vc7 vc8 vc9 vc10 vlt
      have HB := hide (HB.out.more ho)
      have HO := hide (o2 HO.out ho)
      clear ho
      obtain ⟨vc0, vc1, vc2, vc3, vc4, vc5, vc6, vc7, vc8, vc9, vc10, vf0, vf1, vf2, vf3, vf4, vf5, vf6, vf7, vf8, vf9, vf10, vlt⟩ := HB.out
      clear vf0 vf1 vf2 vf3 vf4 vf5 vf6 vf7 vf8 vf9 vf10
      go_wp2_with fail
      go_ret
      exact ⟨rfl, HO.out⟩
    ·
      have hg : gst V.m V.pg x = 0 := by unfold gst; rw [if_neg hc]
      rw [hg] at C1 ⊢
      obtain ⟨c, hcc⟩ : ∃ c, cid V.m V.pg x = c := ⟨_, rfl⟩
      rw [hcc] at C1 hc
      have g1 : (c != 0) = true := by simp [hc]
      clear hc hg hcc
      go_enter Tryz.func65, Tryz.ntmps65
      go_upto_region 1 with fail
      obtain ⟨W0, hW0⟩ : ∃ W, w.alloc (.cells #[.int .i64 V.m, .int .i64 V.next, .slice q.aA V.act.length q.cA, .int .i64 V.own, .slice q.aR V.run.length q.cR, .int .i64 V.pg.lsn, .int .i64 V.pg.kind, .int .i64 V.pg.level, .int .i64 V.pg.right, .string V.pg.high, .slice q.aP V.pg.items.length q.cP] 32) = W := ⟨_, rfl⟩
      rw [hW0] at HB HO ⊢
      clear hW0
      obtain ⟨vc0, vc1, vc2, vc3, vc4, vc5, vc6, vc7, vc8, vc9, vc10, vf0, vf1, vf2, vf3, vf4, vf5, vf6, vf7, vf8, vf9, vf10, vlt⟩ := HB.out
      clear vf0 vf1 vf2 vf3 vf4 vf5 vf6 vf7 vf8 vf9 vf10
      go_wp2_with fail
      refine (C0.out _ (HN.out.more HO.out)).mono ?_
      rintro e w4 ⟨rfl, ho⟩
      clear vc0 vc1 vc2 vc3 vc4 vc5 vc6 vc7 vc8 vc9 vc10 vlt
      have HB := hide (HB.out.more ho)
      have HO := hide (o2 HO.out ho)
      clear ho
      obtain ⟨vc0, vc1, vc2, vc3, vc4, vc5, vc6, vc7, vc8, vc9, vc10, vf0, vf1, vf2, vf3, vf4, vf5, vf6, vf7, vf8, vf9, vf10, vlt⟩ := HB.out
      clear vf0 vf1 vf2 vf3 vf4 vf5 vf6 vf7 vf8 vf9 vf10
      go_wp2_with fail
      refine (C1.out _ (HN.out.more HO.out)).mono ?_
      rintro e w5 ⟨rfl, ho⟩
      clear vc0 vc1 vc2 vc3 vc4 vc5 vc6 vc7 vc8 vc9 vc10 vlt
      have HB := hide (HB.out.more ho)
      have HO := hide (o2 HO.out ho)
      clear ho
      obtain ⟨vc0, vc1, vc2, vc3, vc4, vc5, vc6, vc7, vc8, vc9, vc10, vf0, vf1, vf2, vf3, vf4, vf5, vf6, vf7, vf8, vf9, vf10, vlt⟩ := HB.out
      clear vf0 vf1 vf2 vf3 vf4 vf5 vf6 vf7 vf8 vf9 vf10
      go_wp2_with fail
      go_ret
      exact ⟨rfl, HO.out⟩
theorem ret_tenc (t : Tu) (h0 : -9223372036854775808 ≤ t.xmin ∧ t.xmin < 9223372036854775808) (h1 : -9223372036854775808 ≤ t.xmax ∧ t.xmax < 9223372036854775808) : Ret 63 #[.agg #[.int .i64 t.xmin, .int .i64 t.xmax, .bool t.frozen, .string t.key, .string t.value]] (.tuple #[.string (str t.out), .int .i64 t.err]) := fun W => tencode_any t W h0 h1
end Go.Proofs.YtpnbhddmdfcjdaaGreat
namespace Go.Proofs.YtpnbhddmdfcjdaaGreat
open Go.RowKit Go.Maps
set_option maxRecDepth 100000 in
set_option maxHeartbeats 800000 in
theorem sameIntsI_eq (w : World) (b1 b2 : Nat) (a1 a2 : Option Addr) (c1 c2 k : Nat) (L : List Int) (hk : L.length = k) (h1 : IRw w b1 (.slice a1 k c1) L) (h2 : IRw w b2 (.slice a2 k c2) L) (hlen : k ≤ 4398046511104) :
    Calls Tryz.prog 35 #[.slice a1 k c1, .slice a2 k c2] w fun e w' => e = .returned (.bool true) ∧ Only (fun _ => False) w w' := by
  subst hk
  have H1 := hide h1
  have H2 := hide h2
  clear h1 h2
  go_enter Tryz.func35, Tryz.ntmps35
  go_wp2_with fail
  go_loopw [5] (fun y wr => ∃ (j : Nat), j ≤ L.length ∧ y = .int .i64 (j : Int) ∧ Hid (Only (fun _ => False) w wr)) (fun y _ => L.length - (intOf y).toNat)
  case atStart => exact ⟨0, by omega, rfl, hide (Only.refl _ _)⟩
  case round =>
    obtain ⟨j, hj, rfl, HO⟩ := hrel
    by_cases hlt : j < L.length
    · obtain ⟨g1, e1, _, _, _, q1⟩ := (H1.out.more HO.out).at_ hlt
      obtain ⟨g2, e2, _, _, _, q2⟩ := (H2.out.more HO.out).at_ hlt
      have k1 : wr.cell? ⟨g1, j * 1 + 0, none⟩ = some (.int .i64 L[j]) := q1 0 (.int .i64 L[j]) (by decide) rfl
      have k2 : wr.cell? ⟨g2, j * 1 + 0, none⟩ = some (.int .i64 L[j]) := q2 0 (.int .i64 L[j]) (by decide) rfl
      rw [Nat.mul_one, Nat.add_zero] at k1 k2
      obtain ⟨z, hz⟩ : ∃ z, L[j] = z := ⟨_, rfl⟩
      rw [hz] at k1 k2
      have hj0 : (0 : Int) ≤ (j : Int) := by omega
      have hj1 : (j : Int) < (L.length : Int) := by omega
      have z1 : wr.cell? ⟨g1, 0 + j, none⟩ = some (.int .i64 z) := by rw [Nat.zero_add]; exact k1
      have z2 : wr.cell? ⟨g2, 0 + j, none⟩ = some (.int .i64 z) := by rw [Nat.zero_add]; exact k2
      clear q1 q2 hz
      subst e1
      subst e2
      go_wp2_with fail
      go_region
      go_wp2_with fail
      go_roundw
      case rel => exact ⟨j + 1, by omega, by go_num, hide (HO.out.trans (Only.drew _ _) (fun _ _ h => h))⟩
      case measure => simp [intOf]; omega
    · go_wp2_with fail
      go_ret
      exact ⟨rfl, HO.out⟩
theorem neqE_run (k : ByteArray) (x y : Int) (W : World) : (binOp .neq 74 (.agg #[.string k, .int .i64 x, .int .i64 y]) (.agg #[.string k, .int .i64 x, .int .i64 y])).run Tryz.prog W = .ok (.bool false) W := by
  simp [go_sem]
/-- Two of the law's works that are the same. -/
theorem wk_new (w : World) (u0 u1 u2 v0 v1 v2 : Value) : WB ((w.alloc (.cells #[u0, u1, u2] 39)).alloc (.cells #[v0, v1, v2] 39)) w.heap.size u0 u1 u2 ∧ WB ((w.alloc (.cells #[u0, u1, u2] 39)).alloc (.cells #[v0, v1, v2] 39)) (w.heap.size + 1) v0 v1 v2 ∧ Only (fun _ => False) w ((w.alloc (.cells #[u0, u1, u2] 39)).alloc (.cells #[v0, v1, v2] 39)) := by
  refine ⟨(WB.new w 39 u0 u1 u2).more (onlyA _ _), ?_, o2 (onlyA _ _) (onlyA _ _)⟩
  have h := WB.new (w.alloc (.cells #[u0, u1, u2] 39)) 39 v0 v1 v2
  rw [World.size_alloc] at h
  exact h
set_option maxRecDepth 100000 in
set_option maxHeartbeats 1600000 in
theorem vsame_eq (w : World) (b1 b2 : Nat) (u0 u1 u2 v0 v1 v2 : Value) (K : Wk) (h1 : WkAt w b1 u0 u1 u2 K) (h2 : WkAt w b2 v0 v1 v2 K) (hl : K.fr.length ≤ 4398046511104 ∧ K.of.length ≤ 4398046511104 ∧ K.gn.length ≤ 4398046511104) :
    Calls Tryz.prog 9 #[.agg #[u0, u1, u2], .agg #[v0, v1, v2]] w fun e w' => e = .returned (.bool true) ∧ Only (fun _ => False) w w' := by
  obtain ⟨fr, of, gn⟩ := K
  simp only [] at hl
  obtain ⟨a0, c0, rfl⟩ := h1.fr.form
  obtain ⟨a1, c1, rfl⟩ := h1.of.form
  obtain ⟨a2, c2, rfl⟩ := h1.gn.form
  obtain ⟨d0, e0, rfl⟩ := h2.fr.form
  obtain ⟨d1, e1, rfl⟩ := h2.of.form
  obtain ⟨d2, e2, rfl⟩ := h2.gn.form
  simp only [] at h1 h2 ⊢
  have HN := hide (wk_new w (.slice a0 fr.length c0) (.slice a1 of.length c1) (.slice a2 gn.length c2) (.slice d0 fr.length e0) (.slice d1 of.length e1) (.slice d2 gn.length e2))
  have HF1 := hide h1.fr
  have HF2 := hide h2.fr
  have HO1 := hide h1.of
  have HO2 := hide h2.of
  have HG1 := hide h1.gn
  have HG2 := hide h2.gn
  have HL := hide hl
  clear h1 h2 hl
  go_enter Tryz.func9, Tryz.ntmps9
  go_upto_region 1 with fail
  obtain ⟨W0, hW0⟩ : ∃ x, (w.alloc (.cells #[.slice a0 fr.length c0, .slice a1 of.length c1, .slice a2 gn.length c2] 39)).alloc (.cells #[.slice d0 fr.length e0, .slice d1 of.length e1, .slice d2 gn.length e2] 39) = x := ⟨_, rfl⟩
  rw [hW0] at HN ⊢
  clear hW0
  obtain ⟨p, hp⟩ : ∃ b, w.heap.size = b := ⟨_, rfl⟩
  rw [hp] at HN ⊢
  clear hp
  obtain ⟨x0, x1, x2, _, _, _, _⟩ := HN.out.1
  obtain ⟨y0, y1, y2, _, _, _, _⟩ := HN.out.2.1
  go_wp2_with fail
  go_loopw [5] (fun y wr => ∃ (j : Nat), j ≤ gn.length ∧ y = .int .i64 (j : Int) ∧ Hid (Only (fun _ => False) W0 wr)) (fun y _ => gn.length - (intOf y).toNat)
  case atStart => exact ⟨0, by omega, rfl, hide (Only.refl _ _)⟩
  case round =>
    obtain ⟨j, hj, rfl, HO⟩ := hrel
    clear x0 x1 x2 y0 y1 y2
    obtain ⟨x0, x1, x2, _, _, _, _⟩ := HN.out.1.more HO.out
    obtain ⟨y0, y1, y2, _, _, _, _⟩ := HN.out.2.1.more HO.out
    by_cases hlt : j < gn.length
    · have HOW := o2 HN.out.2.2 HO.out
      obtain ⟨g1, r1, _, _, _, q1⟩ := (HG1.out.more HOW).at_ hlt
      obtain ⟨g2, r2, _, _, _, q2⟩ := (HG2.out.more HOW).at_ hlt
      have k0 : wr.cell? ⟨g1, j * 3 + 0, none⟩ = some (.string gn[j].key) := q1 0 (.string gn[j].key) (by decide) rfl
      have k1 : wr.cell? ⟨g1, j * 3 + 1, none⟩ = some (.int .i64 gn[j].page) := q1 1 (.int .i64 gn[j].page) (by decide) rfl
      have k2 : wr.cell? ⟨g1, j * 3 + 2, none⟩ = some (.int .i64 gn[j].slot) := q1 2 (.int .i64 gn[j].slot) (by decide) rfl
      have m0 : wr.cell? ⟨g2, j * 3 + 0, none⟩ = some (.string gn[j].key) := q2 0 (.string gn[j].key) (by decide) rfl
      have m1 : wr.cell? ⟨g2, j * 3 + 1, none⟩ = some (.int .i64 gn[j].page) := q2 1 (.int .i64 gn[j].page) (by decide) rfl
      have m2 : wr.cell? ⟨g2, j * 3 + 2, none⟩ = some (.int .i64 gn[j].slot) := q2 2 (.int .i64 gn[j].slot) (by decide) rfl
      rw [Nat.add_zero] at k0 m0
      obtain ⟨kk, hkk⟩ : ∃ z, gn[j].key = z := ⟨_, rfl⟩
      obtain ⟨pp, hpp⟩ : ∃ z, gn[j].page = z := ⟨_, rfl⟩
      obtain ⟨ss, hss⟩ : ∃ z, gn[j].slot = z := ⟨_, rfl⟩
      rw [hkk] at k0 m0
      rw [hpp] at k1 m1
      rw [hss] at k2 m2
      have hq := fun W => neqE_run kk pp ss W
      have hj0 : (0 : Int) ≤ (j : Int) := by omega
      have hj1 : (j : Int) < (gn.length : Int) := by omega
      clear q1 q2 hkk hpp hss HOW
      have HLT := hide hlt
      have hlb := HL.out.2.2
      subst r1
      subst r2
      go_wp2_with fail
      go_region
      go_wp2_with fail
      go_roundw
      case rel => exact ⟨j + 1, HLT.out, by go_num, hide (HO.out.trans (Only.drew _ _) (fun _ _ h => h))⟩
      case measure => have := HLT.out; simp [intOf]; omega
    · have HS1 : Hid (∀ W, Only (fun _ => False) W0 W → Calls Tryz.prog 35 #[.slice a0 fr.length c0, .slice d0 fr.length e0] W fun e w' => e = .returned (.bool true) ∧ Only (fun _ => False) W w') := fun W ho =>
        sameIntsI_eq W b1 b2 a0 d0 c0 e0 _ fr rfl (HF1.out.more (o2 HN.out.2.2 ho)) (HF2.out.more (o2 HN.out.2.2 ho)) HL.out.1
      have HS2 : Hid (∀ W, Only (fun _ => False) W0 W → Calls Tryz.prog 35 #[.slice a1 of.length c1, .slice d1 of.length e1] W fun e w' => e = .returned (.bool true) ∧ Only (fun _ => False) W w') := fun W ho =>
        sameIntsI_eq W b1 b2 a1 d1 c1 e1 _ of rfl (HO1.out.more (o2 HN.out.2.2 ho)) (HO2.out.more (o2 HN.out.2.2 ho)) HL.out.2.1
      go_wp2_with fail
      refine (HS1.out _ HO.out).mono ?_
      rintro e w1 ⟨rfl, ho1⟩
      have HO3 := hide (o2 HO.out ho1)
      obtain ⟨x0b, x1b, x2b, _, _, _, _⟩ := HN.out.1.more HO3.out
      obtain ⟨y0b, y1b, y2b, _, _, _, _⟩ := HN.out.2.1.more HO3.out
      clear ho1
      go_wp2_with fail
      refine (HS2.out _ HO3.out).mono ?_
      rintro e w2 ⟨rfl, ho2⟩
      have HO4 := hide (o2 HN.out.2.2 (o2 HO3.out ho2))
      clear ho2
      go_wp2_with fail
      go_ret
      exact ⟨rfl, HO4.out⟩
end Go.Proofs.YtpnbhddmdfcjdaaGreat
