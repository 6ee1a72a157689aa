/- Parts. -/
import Derived.Test.YtpnbhddmdfcjdaaGreatK34
import Derived.Test.YtpnbhddmdfcjdaaGreatK02
import Derived.Test.YtpnbhddmdfcjdaaGreatK43
import Derived.Lib.SlicesCompact
import Derived.Test.YtpnbhddmdfcjdaaGreatK03
import Derived.Shelf.Sort.Plain
import Derived.Sort.OwnSortedInts
import Derived.Test.YtpnbhddmdfcjdaaGreatK44
import Derived.Test.YtpnbhddmdfcjdaaGreatK45
set_option maxRecDepth 100000
namespace Go.Proofs.YtpnbhddmdfcjdaaGreat
open Go.RowKit
def nlL : Loc := ⟨Option.none, Option.none, Option.none, Option.none, Option.none, 0, 0, 0, 0, 0, 0, 0, 0, 0, 0⟩
/-- A record that freezes, and takes off; one that cleans. -/
def frR (pg : Int) (K : Wk) : Rc := ⟨0, 0, 0, 10, 0, pg, 0, 0, 0, 0, ⟨#[]⟩, K.fr, K.of, [], [], []⟩
def clR (pg : Int) (G : List Int) : Rc := ⟨0, 0, 0, 9, 0, pg, 0, 0, 0, 0, ⟨#[]⟩, G, [], [], [], []⟩
theorem run_build_r0 (w : World) : (Instr.build 47 #[]).run Tryz.prog w = .ok (.agg (Rc.none.cells nlL)) w := run_build w 47 #[] _ (by kernel_rfl)
theorem run_build_r9 (w : World) (p : Int) (va : Option Addr) (vn vc : Nat) : (Instr.build 47 #[(3, .int .u8 9), (5, .int .i64 p), (11, .slice va vn vc)]).run Tryz.prog w = .ok (.agg #[.int .i64 0, .int .i64 0, .int .i64 0, .int .u8 9, .int .i64 0, .int .i64 p, .int .i64 0, .int .i64 0, .int .i64 0, .int .i64 0, .string ⟨#[]⟩, .slice va vn vc, .slice none 0 0, .slice none 0 0, .slice none 0 0, .slice none 0 0]) w := run_build w 47 _ _ (by kernel_rfl)
section
variable {ops : Array Oper} {rest : List Oper} {o : Oper} {a : Act} {w : World} {Q : Exit → Act → World → Prop}
theorem wpList_build_r0 (hg : o.guard = none) (hop : o.op = .build 47 #[]) (h : wpList Tryz.prog ops Q rest (a.put o.dst (.agg (Rc.none.cells nlL))) w) : wpList Tryz.prog ops Q (o :: rest) a w := by
  refine wpList_plain hg fun K hK => ?_
  unfold Oper.wp execOp
  simp only [hop, Array.map_empty, Sem.run_bind, Sem.run_pure, Result.andThen_ok, run_build_r0]
  exact hK _ _ h
theorem wpList_build_r9 (hg : o.guard = none) (a5 a11 : Operand) (hop : o.op = .build 47 #[(3, .const (.int .u8 9)), (5, a5), (11, a11)]) (p : Int) (va : Option Addr) (vn vc : Nat) (h5 : a.eval a5 = .int .i64 p) (h11 : a.eval a11 = .slice va vn vc)
    (h : wpList Tryz.prog ops Q rest (a.put o.dst (.agg #[.int .i64 0, .int .i64 0, .int .i64 0, .int .u8 9, .int .i64 0, .int .i64 p, .int .i64 0, .int .i64 0, .int .i64 0, .int .i64 0, .string ⟨#[]⟩, .slice va vn vc, .slice none 0 0, .slice none 0 0, .slice none 0 0, .slice none 0 0])) w) : wpList Tryz.prog ops Q (o :: rest) a w := by
  refine wpList_plain hg fun K hK => ?_
  unfold Oper.wp execOp
  have e : (#[(3, Operand.const (.int .u8 9)), (5, a5), (11, a11)] : Array (Nat × Operand)).map (fun x => (x.1, a.eval x.2)) = #[(3, .int .u8 9), (5, .int .i64 p), (11, .slice va vn vc)] := by
    simp only [List.map_toArray, List.map_cons, List.map_nil, h5, h11]
    rfl
  simp only [hop, e, Sem.run_bind, Sem.run_pure, Result.andThen_ok, run_build_r9]
  exact hK _ _ h
end
theorem results_rcI {fn : Func} {p u : Tmp} (h : fn.results = #[.cell p 47, .tmp u]) {tmps : Array Value} {w : World} {b : Nat} {r : Rc} {L : Loc} (hp : tmps.getD p undef = .pointer (some ⟨b, 0, none⟩)) (hP : Rb w b r L) :
    (results fn tmps).run Tryz.prog w = .ok (.tuple #[.agg (r.cells L), tmps.getD u undef]) w := by
  have e : (asAddr (.pointer (some ⟨b, 0, none⟩))).run Tryz.prog w = .ok ⟨b, 0, none⟩ w := rfl
  have hl : (loadVar 47 ⟨b, 0, none⟩).run Tryz.prog w = .ok (.agg (r.cells L)) w := run_loadVar_mid (P := Tryz.prog) w b 0 47 (r.cl L) _ hP.range Tryz.underlying47 rfl Tryz.sizeRecY
  rw [results_cell_tmp h, hp, e]
  simp only [Result.andThen, hl]
theorem fm_int (L : List Int) : L.flatMap EIi.e = L.map (Value.int .i64) := by
  induction L with
  | nil => rfl
  | cons x L ih => rw [List.flatMap_cons, ih]; rfl
/-- A row that is owned, as numbers in memory. -/
theorem GRow.zs {w : World} {base cp : Nat} {ao : Option Addr} {L : List Int} (h : IRw w base (.slice ao L.length cp) L) (hl : L.length ≤ 4398046511104) : ∃ B, Zs w B ao L ∧ Fit ao L.length cp ∧ (0 < L.length → base ≤ B) := by
  rcases h.head with ⟨e1, e2, e3⟩ | ⟨g, e, h1, h2, h3, h4, _, h5⟩
  · subst e1 e2 e3
    exact ⟨0, Zs.nil _ _ _, ⟨fun _ => rfl, by simp, by simp⟩, fun q => absurd q (by simp)⟩
  · subst e
    refine ⟨g, ⟨fun _ => ⟨0, rfl, fun j hj => ?_⟩, fun _ => h2, by omega⟩, ⟨(fun q => by cases q), h3, h4⟩, fun _ => h1⟩
    have := h5 (j * 1 + 0) (.int .i64 L[j]) (by show (L.flatMap EIi.e)[j * EIi.c + 0]? = _; rw [EIi.get hj (by decide)]; rfl)
    rw [Nat.mul_one, Nat.add_zero] at this
    rw [Nat.zero_add]
    exact this
/-- A row of numbers, copied. -/
theorem iclone_any (w : World) (base cp : Nat) (ao : Option Addr) (L : List Int) (h : IRw w base (.slice ao L.length cp) L) (hl : L.length ≤ 4398046511104) :
    Calls Tryz.prog 36 #[.slice ao L.length cp] w fun e w' => ∃ B a2 c2, e = .returned (.slice a2 L.length c2) ∧ Zs w' B a2 L ∧ Fit a2 L.length c2 ∧ (0 < L.length → w.heap.size ≤ B) ∧ Only (fun _ => False) w w' := by
  have hO : ∀ w', Below w.heap.size w w' → Only (fun _ => False) w w' := fun w' ⟨b1, b2, b3, b4, b5⟩ => ⟨b1, b2, b3, b4, fun k hk _ => b5 k hk⟩
  rcases h.head with ⟨rfl, rfl, rfl⟩ | ⟨g, rfl, hb, hg, _, _, _, hc⟩
  · refine (Tryz.slices_Clone_int_nil 0 0 w).mono ?_
    rintro e w' ⟨rfl, rfl⟩
    exact ⟨0, none, 0, rfl, Zs.nil _ _ _, ⟨fun _ => rfl, by simp, by simp⟩, fun q => absurd q (by simp), Only.refl _ _⟩
  · refine (Tryz.slices_Clone_int g 0 L.length cp L w (Nat.le_refl _) (by omega) (fun j hj => ?_)).mono ?_
    · have := hc (j * 1 + 0) (.int .i64 L[j]) (by show (L.flatMap EIi.e)[j * EIi.c + 0]? = _; rw [EIi.get hj (by decide)]; rfl)
      rw [Nat.mul_one, Nat.add_zero] at this
      rw [Nat.zero_add, this]
      simp [List.getD_eq_getElem?_getD, hj]
    · rintro e w' ⟨v', rfl, hr, _, hbl⟩
      rw [List.take_length] at hr
      have hI : IRw w' w.heap.size v' L := by unfold IRw GRow; rw [fm_int]; exact hr
      obtain ⟨a2, c2, rfl⟩ := hI.form
      obtain ⟨B, h1, h2, h3⟩ := hI.zs hl
      exact ⟨B, a2, c2, rfl, h1, h2, h3, hO _ hbl⟩
theorem frz_new (w : World) (v0 v1 v2 : Value) : WB ((w.alloc (.cells #[v0, v1, v2] 39)).alloc (.cells (Rc.none.cells nlL) 47)) w.heap.size v0 v1 v2 ∧ Rb ((w.alloc (.cells #[v0, v1, v2] 39)).alloc (.cells (Rc.none.cells nlL) 47)) (w.heap.size + 1) Rc.none nlL ∧ Only (fun _ => False) w ((w.alloc (.cells #[v0, v1, v2] 39)).alloc (.cells (Rc.none.cells nlL) 47)) := by
  refine ⟨(WB.new w 39 v0 v1 v2).more (onlyA _ _), ?_, o2 (onlyA _ _) (onlyA _ _)⟩
  have h := Rb.new (w.alloc (.cells #[v0, v1, v2] 39)) Rc.none nlL
  rw [World.size_alloc] at h
  exact h
/-- Nothing to freeze. -/
theorem frz_cells (w : World) (v0 v1 v2 : Value) : (w.alloc (.cells #[v0, v1, v2] 39)).alloc (.cells #[.int .i64 0, .int .i64 0, .int .i64 0, .int .u8 0, .int .i64 0, .int .i64 0, .int .i64 0, .int .i64 0, .int .i64 0, .int .i64 0, .string ⟨#[]⟩, .slice none 0 0, .slice none 0 0, .slice none 0 0, .slice none 0 0, .slice none 0 0] 47) = (w.alloc (.cells #[v0, v1, v2] 39)).alloc (.cells (Rc.none.cells nlL) 47) := rfl
set_option maxRecDepth 100000 in
set_option maxHeartbeats 3200000 in
theorem vfreeze_no (w : World) (pg : Int) (a0 a1 a2 : Option Addr) (c0 c1 n2 c2 : Nat) :
    Calls Tryz.prog 10 #[.int .i64 pg, .agg #[.slice a0 0 c0, .slice a1 0 c1, .slice a2 n2 c2]] w fun e w' => e = .returned (.tuple #[.agg (Rc.none.cells nlL), .bool false]) ∧ Only (fun _ => False) w w' := by
  have HN := hide (frz_new w (.slice a0 0 c0) (.slice a1 0 c1) (.slice a2 n2 c2))
  go_enter Tryz.func10, Tryz.ntmps10
  go_upto_region 1 with fail
  rw [frz_cells]
  obtain ⟨W0, hW0⟩ : ∃ x, (w.alloc (.cells #[.slice a0 0 c0, .slice a1 0 c1, .slice a2 n2 c2] 39)).alloc (.cells (Rc.none.cells nlL) 47) = x := ⟨_, rfl⟩
  rw [hW0] at HN ⊢
  clear hW0
  obtain ⟨b4, hb4⟩ : ∃ b, w.heap.size + 1 = b := ⟨_, rfl⟩
  have HBK := hide hb4
  rw [hb4] at HN ⊢
  clear hb4
  obtain ⟨x0, x1, x2, _, _, _, _⟩ := HN.out.1
  have HRB := hide HN.out.2.1
  go_wp2_with (first
    | (refine wpList_build_r0 rfl rfl ?_; go_frame)
    | (refine wpList_put_rc rfl (.tmp 4) (.tmp 16) rfl b4 rfl Rc.none Rc.none nlL nlL rfl HRB.out (fun W HS => ?_); go_frame))
  refine bodyPost_ret (results_rcI rfl rfl HS.out.1) rfl ?_
  have hbk := HBK.out
  exact ⟨rfl, HN.out.2.2.trans HS.out.2 (fun i hi e => by omega)⟩
/-- What the records' lists are where they were copied. -/
theorem rcAt_frz {w : World} {pg : Int} {K : Wk} {B1 B2 c1 c2 : Nat} {a1 a2 : Option Addr} (h1 : Zs w B1 a1 K.fr) (f1 : Fit a1 K.fr.length c1) (h2 : Zs w B2 a2 K.of) (f2 : Fit a2 K.of.length c2) : RcAt w (frR pg K) ⟨a1, a2, Option.none, Option.none, Option.none, c1, c2, 0, 0, 0, B1, B2, 0, 0, 0⟩ :=
  ⟨h1, h2, ⟨fun _ => False, Ims.nil _ _ _ _⟩, Prs.nil _ _ _, Prs.nil _ _ _, f1, f2, Nat.zero_le _, ⟨by show (0 : Int) ≤ 10; decide, by show (10 : Int) ≤ 255; decide⟩⟩
theorem rcAt_cln {w : World} {pg : Int} {G : List Int} {B1 c1 : Nat} {a1 : Option Addr} (h1 : Zs w B1 a1 G) (f1 : Fit a1 G.length c1) : RcAt w (clR pg G) ⟨a1, Option.none, Option.none, Option.none, Option.none, c1, 0, 0, 0, 0, B1, 0, 0, 0, 0⟩ :=
  ⟨h1, Zs.nil _ _ _, ⟨fun _ => False, Ims.nil _ _ _ _⟩, Prs.nil _ _ _, Prs.nil _ _ _, f1, ⟨fun _ => rfl, by simp [clR], by simp⟩, Nat.zero_le _, ⟨by show (0 : Int) ≤ 9; decide, by show (9 : Int) ≤ 255; decide⟩⟩
end Go.Proofs.YtpnbhddmdfcjdaaGreat
namespace Go.Proofs.YtpnbhddmdfcjdaaGreat
open Go.RowKit Go.Lib
/-- All pages that a record names, one behind the other. -/
def touL (R : Rc) : List Int := R.images.map Im.page ++ (if ownK R.kind = true then [R.page] else [])
/-- What Touches answers: rising, each once. -/
def touS (R : Rc) : List Int := compact ((touL R).mergeSort fun x y => decide (x ≤ y))
theorem comp_upto (s : List Int) (hs : s.Pairwise (· ≤ ·)) (m : Nat) (hm : m ≤ s.length) : (compactUpTo s.toArray m).Pairwise (· < ·) ∧ ∀ x, x ∈ compactUpTo s.toArray m ↔ x ∈ s.take m := by
  induction m with
  | zero => exact ⟨by simp [compactUpTo], fun x => by simp [compactUpTo]⟩
  | succ m ih =>
    obtain ⟨h1, h2⟩ := ih (by omega)
    have hm' : m < s.length := by omega
    have e1 : s.toArray[m]! = s[m] := by simp [hm']
    have e3 : ∀ x, x ∈ s.take (m + 1) ↔ x ∈ s.take m ∨ x = s[m] := by
      intro x
      rw [List.take_succ_eq_append_getElem hm', List.mem_append, List.mem_singleton]
    rw [compactUpTo_succ]
    by_cases hk : keeps s.toArray m = true
    · rw [if_pos hk, e1]
      refine ⟨?_, fun x => by rw [e3, List.mem_append, h2]; simp⟩
      rw [List.pairwise_append]
      refine ⟨h1, List.pairwise_singleton _ _, fun x hx y hy => ?_⟩
      simp only [List.mem_singleton] at hy
      subst hy
      obtain ⟨i, hi, hx2⟩ := List.mem_take_iff_getElem.1 ((h2 x).1 hx)
      have hi' : i < m := by omega
      have hm0 : 0 < m := by omega
      have e2 : s.toArray[m - 1]! = s[m - 1] := by simp [show m - 1 < s.length by omega]
      have hne : s[m] ≠ s[m - 1] := by
        have := hk
        unfold keeps at this
        rw [e1, e2, decide_eq_true_iff] at this
        rcases this with h | h
        · omega
        · exact h
      have hle : ∀ i j (hi : i < s.length) (hj : j < s.length), i ≤ j → s[i] ≤ s[j] := by
        intro i j hi hj hij
        by_cases e : i = j
        · subst e; exact Int.le_refl _
        · exact List.pairwise_iff_getElem.1 hs i j hi hj (by omega)
      have l1 := hle i (m - 1) (by omega) (by omega) (by omega)
      have l2 := hle (m - 1) m (by omega) hm' (by omega)
      rw [← hx2]
      omega
    · rw [if_neg hk, List.append_nil]
      refine ⟨h1, fun x => ?_⟩
      rw [e3, h2]
      refine ⟨.inl, fun h => h.elim id (fun e => ?_)⟩
      have hm0 : ¬ m = 0 := fun e0 => hk (by rw [e0]; simp [keeps])
      have e2 : s.toArray[m - 1]! = s[m - 1] := by simp [show m - 1 < s.length by omega]
      have he : s[m] = s[m - 1] := by
        refine Classical.byContradiction fun h => hk ?_
        unfold keeps
        rw [e1, e2, decide_eq_true_iff]
        exact .inr h
      rw [e, he]
      exact List.mem_take_iff_getElem.2 ⟨m - 1, by omega, rfl⟩
theorem touS_rise (R : Rc) : (touS R).Pairwise (· < ·) ∧ ∀ x, x ∈ touS R ↔ x ∈ touL R := by
  have hs : ((touL R).mergeSort fun x y => decide (x ≤ y)).Pairwise (· ≤ ·) := by
    have := List.pairwise_mergeSort (le := fun x y : Int => decide (x ≤ y)) (fun a b c h1 h2 => by simp at *; omega) (fun a b => by simp; omega) (touL R)
    exact this.imp (fun h => by simpa using h)
  obtain ⟨h1, h2⟩ := comp_upto _ hs _ (Nat.le_refl _)
  refine ⟨h1, fun x => ?_⟩
  show x ∈ compactUpTo _ _ ↔ _
  rw [h2, List.take_length, List.mem_mergeSort]
theorem touS_len (R : Rc) : (touS R).length ≤ (touL R).length := by
  unfold touS compact compactUpTo
  rw [List.length_map]
  refine Nat.le_trans (List.length_filter_le _ _) ?_
  rw [List.length_range, List.length_mergeSort]
  exact Nat.le_refl _
end Go.Proofs.YtpnbhddmdfcjdaaGreat
namespace Go.Proofs.YtpnbhddmdfcjdaaGreat
open Go.Shelf Go.Sort Go.RowKit
theorem sort_any (blk off cap : Nat) (zs : List Int) (w : World) (hH : Holds (Value.int .i64) w blk off zs.toArray) (hblk : blk < w.heap.size) (hsz : zs.length < 4611686018427387904) :
    Calls Tryz.prog 67 #[.slice (some ⟨blk, off, none⟩) zs.length cap] w fun e w' =>
      e = .returned (.tuple #[]) ∧ ∃ n os, w' = grow (putRow (Value.int .i64) (Sort.ahead w n) blk off (zs.mergeSort fun x y => decide (x ≤ y)).toArray) os :=
  Any.slices_Sort_int Tryz.lays189 blk off cap zs w hH hblk hsz
end Go.Proofs.YtpnbhddmdfcjdaaGreat
namespace Go.Proofs.YtpnbhddmdfcjdaaGreat
open Go.RowKit
theorem id16 {x : Int} (h1 : 1 ≤ x) (h2 : x ≤ 16) : Idd 16 x := ⟨⟨by omega, by omega, by decide⟩, h1, h2⟩
def sX : Nat → Int := fun j => (j : Int) + 1
def sS : Nat → Nat := fun j => if j = 1 then 3 else 2
def sP (b : UInt8) : Pg := ⟨0, 1, 0, 0, ⟨#[]⟩, [⟨#[1]⟩, ⟨#[b, 0, 0, 0]⟩]⟩
theorem setC_ok {m x : Int} {p : Pg} {s : Nat} (hp : OkP m p) (hx : Idd m x) (hs : s ≤ 3) : setC m p x s = 0 := by
  unfold setC
  rw [if_pos (cid_ok hx hp), if_pos hs]
theorem sP0 : blankP 16 1 = sP 0 := rfl
theorem sok0 : OkP 16 (sP 0) := by have := OkP.blank (id16 (x := 1) (by omega) (by omega)); rw [sP0] at this; exact this
theorem sP1 : setP (sP 0) 1 2 = sP 2 := rfl
theorem sP2 : setP (sP 2) 2 3 = sP 14 := rfl
theorem sP3 : setP (sP 14) 3 2 = sP 46 := rfl
theorem sok1 : OkP 16 (sP 2) := by have := sok0.set (id16 (x := 1) (by omega) (by omega)) (show 2 < 4 by omega); rw [sP1] at this; exact this
theorem sok2 : OkP 16 (sP 14) := by have := sok1.set (id16 (x := 2) (by omega) (by omega)) (show 3 < 4 by omega); rw [sP2] at this; exact this
theorem sok3 : OkP 16 (sP 46) := by have := sok2.set (id16 (x := 3) (by omega) (by omega)) (show 2 < 4 by omega); rw [sP3] at this; exact this
theorem say_step {m f : Int} {X : Nat → Int} {S : Nat → Nat} {k : Nat} {p q : Pg} {x : Int} {s : Nat} (h : sayP m f X S k = p) (hx : X k = x) (hs : S k = s) (hp : OkP m p) (hi : Idd m x) (h3 : s ≤ 3) (hq : setP p x s = q) : sayP m f X S (k + 1) = q := by
  rw [sayP, h, hx, hs, if_pos (setC_ok hp hi h3)]
  unfold setR
  rw [if_pos (setC_ok hp hi h3), hq]
theorem say3 : sayP 16 1 sX sS 3 = sP 46 :=
  say_step (say_step (say_step sP0 rfl rfl sok0 (id16 (x := 1) (by omega) (by omega)) (by decide) sP1) rfl rfl sok1 (id16 (x := 2) (by omega) (by omega)) (by decide) sP2) rfl rfl sok2 (id16 (x := 3) (by omega) (by omega)) (by decide) sP3
def sV : Vw := ⟨16, 4, [3], 0, [4], sP 46⟩
theorem sg (x : Int) (h1 : 1 ≤ x) (h2 : x ≤ 16) : gst 16 (sP 46) x = stAt (bl ⟨#[46, 0, 0, 0]⟩) (x - 1).toNat := by
  unfold gst
  rw [if_pos (cid_ok (id16 h1 h2) sok3)]
  rfl
theorem sv1 : vsi sV 1 = 2 := by unfold vsi; rw [if_neg (by simp [sV])]; show ((gst 16 (sP 46) 1 : Nat) : Int) = 2; rw [sg 1 (by omega) (by omega)]; rfl
theorem sv2 : vsi sV 2 = 3 := by unfold vsi; rw [if_neg (by simp [sV])]; show ((gst 16 (sP 46) 2 : Nat) : Int) = 3; rw [sg 2 (by omega) (by omega)]; rfl
theorem xb16 (a b : Int) (h1 : 1 ≤ a) (h2 : a ≤ 16) (h3 : 1 ≤ b) (h4 : b ≤ 16) : xbef 16 a b = decide (1 ≤ (if a ≤ b then b - a else b - a + 16) ∧ (if a ≤ b then b - a else b - a + 16) ≤ 7) := by
  unfold xbef
  rw [ring_gap (id16 h1 h2) (id16 h3 h4)]
  rfl
theorem i64 {n : Int} (h : 0 ≤ n) (k : n ≤ 1024) : I64 n := ⟨by omega, by omega⟩
theorem Sds.lit (w : World) : Sds (w.alloc (.cells #[.int .i64 1, .int .u8 2, .int .i64 2, .int .u8 3, .int .i64 3, .int .u8 2] 60)) w.heap.size (some ⟨w.heap.size, 0, none⟩) 3 sX sS :=
  ⟨fun _ => ⟨0, rfl, fun j hj => by
    match j, hj with
    | 0, _ => exact ⟨by simp [sX], by simp [sS]⟩
    | 1, _ => exact ⟨by simp [sX], by simp [sS]⟩
    | 2, _ => exact ⟨by simp [sX], by simp [sS]⟩⟩, fun j hj => by
    match j, hj with
    | 0, _ => exact ⟨i64 (by simp [sX]) (by simp [sX]), by simp [sS]⟩
    | 1, _ => exact ⟨i64 (by simp [sX]) (by simp [sX]), by simp [sS]⟩
    | 2, _ => exact ⟨i64 (by simp [sX]) (by simp [sX]), by simp [sS]⟩, fun _ => by simp, by omega⟩
def tA1 : Tu := ⟨1, 0, false, ⟨#[97]⟩, ⟨#[]⟩⟩
def tA2 : Tu := ⟨2, 0, false, ⟨#[98]⟩, ⟨#[]⟩⟩
def tA3 : Tu := ⟨1, 2, false, ⟨#[99]⟩, ⟨#[]⟩⟩
def tAk : Tu := ⟨0, 0, false, ⟨#[107]⟩, ⟨#[]⟩⟩
def lA : List Sv := [⟨2, tA1, ⟨#[]⟩⟩, ⟨2, tA2, ⟨#[]⟩⟩, ⟨0, noT, ⟨#[]⟩⟩, ⟨1, tAk, ⟨#[]⟩⟩, ⟨2, tA3, ⟨#[]⟩⟩]
def kA : Wk := ⟨[0, 4], [4], [⟨⟨#[98]⟩, 7, 1⟩, ⟨⟨#[107]⟩, 7, 3⟩]⟩
theorem item_lv {t : Tu} (h : t.ok = true) (r : ByteArray) : Sv.item ⟨2, t, r⟩ = str t.enc := by
  unfold Sv.item
  rw [if_neg (show ¬ (2 : Int) = 0 by decide), if_neg (show ¬ (2 : Int) = 1 by decide), if_pos ⟨rfl, h⟩]
theorem item_dd {t : Tu} (h : okK t.key = true) (r : ByteArray) : Sv.item ⟨1, t, r⟩ = str (dlay t.key) := by
  unfold Sv.item dOut
  rw [if_neg (show ¬ (1 : Int) = 0 by decide), if_pos rfl, if_pos h]
theorem dec_lv {t : Tu} (h : t.ok = true) : decT (bl (str t.enc)) = some t := by rw [bl_str]; exact dec_encT h
theorem xb14 : xbef 16 1 4 = true := by rw [xb16 1 4 (by omega) (by omega) (by omega) (by omega)]; decide
theorem a1_gn : gnS sV 4 (str tA1.enc) = false := by
  unfold gnS
  rw [stT_lv (dec_lv (t := tA1) (by decide)), dec_lv (t := tA1) (by decide)]
  show (false || vgone sV ⟨1, 0, false, ⟨#[97]⟩, ⟨#[]⟩⟩ 4) = false
  unfold vgone vnever vabo
  simp only [sv1]
  decide
theorem a1_fz : fzS sV 4 (str tA1.enc) = true := by
  unfold fzS
  rw [dec_lv (t := tA1) (by decide)]
  show vold sV ⟨1, 0, false, ⟨#[97]⟩, ⟨#[]⟩⟩ 4 = true
  unfold vold vpast vcom
  simp only [sv1]
  rw [show sV.m = 16 from rfl, xb14]
  decide
theorem a1_of : ofS sV (str tA1.enc) = false := by
  unfold ofS
  rw [dec_lv (t := tA1) (by decide)]
  rfl
theorem a2_gn : gnS sV 4 (str tA2.enc) = true := by
  refine gnS_lv (dec_lv (t := tA2) (by decide)) ?_
  show vgone sV ⟨2, 0, false, ⟨#[98]⟩, ⟨#[]⟩⟩ 4 = true
  unfold vgone vnever vabo
  simp only [sv2]
  decide
theorem a3_gn : gnS sV 4 (str tA3.enc) = false := by
  unfold gnS
  rw [stT_lv (dec_lv (t := tA3) (by decide)), dec_lv (t := tA3) (by decide)]
  show (false || vgone sV ⟨1, 2, false, ⟨#[99]⟩, ⟨#[]⟩⟩ 4) = false
  unfold vgone vnever vabo vpast vcom
  simp only [sv1, sv2]
  simp
theorem a3_fz : fzS sV 4 (str tA3.enc) = true := by
  unfold fzS
  rw [dec_lv (t := tA3) (by decide)]
  show vold sV ⟨1, 2, false, ⟨#[99]⟩, ⟨#[]⟩⟩ 4 = true
  unfold vold vpast vcom
  simp only [sv1]
  rw [show sV.m = 16 from rfl, xb14]
  decide
theorem a3_of : ofS sV (str tA3.enc) = true := by
  unfold ofS
  rw [dec_lv (t := tA3) (by decide)]
  show voff sV ⟨1, 2, false, ⟨#[99]⟩, ⟨#[]⟩⟩ = true
  unfold voff vabo
  simp only [sv2]
  decide
theorem a0_no : decT (bl ⟨#[]⟩) = none ∧ (stT (bl ⟨#[]⟩) == 2) = false := ⟨by decide, by decide⟩
theorem ad_dead : deadK (bl (str (dlay ⟨#[107]⟩))) = some ⟨#[107]⟩ := by rw [bl_str]; exact dead_lay (by decide)
theorem ad_st : (stT (bl (str (dlay ⟨#[107]⟩))) == 2) = true := by
  unfold stT
  rw [dead_dec ad_dead, ad_dead]
  rfl
theorem ad_key : keyB (str (dlay ⟨#[107]⟩)) = ⟨#[107]⟩ := by
  unfold keyB keyT
  rw [dead_dec ad_dead, ad_dead]
  rfl
theorem a2_key : keyB (str tA2.enc) = ⟨#[98]⟩ := by
  unfold keyB keyT
  rw [dec_lv (t := tA2) (by decide)]
  rfl
theorem items_A : lA.map Sv.item = [str tA1.enc, str tA2.enc, ⟨#[]⟩, str (dlay ⟨#[107]⟩), str tA3.enc] := by
  show [Sv.item ⟨2, tA1, ⟨#[]⟩⟩, Sv.item ⟨2, tA2, ⟨#[]⟩⟩, Sv.item ⟨0, noT, ⟨#[]⟩⟩, Sv.item ⟨1, tAk, ⟨#[]⟩⟩, Sv.item ⟨2, tA3, ⟨#[]⟩⟩] = _
  rw [item_lv (t := tA1) (by decide), item_lv (t := tA2) (by decide), item_dd (t := tAk) (by decide), item_lv (t := tA3) (by decide)]
  rfl
theorem wk_A (l : List ByteArray) (hl : l = [str tA1.enc, str tA2.enc, ⟨#[]⟩, str (dlay ⟨#[107]⟩), str tA3.enc]) : wkN sV 4 7 l l.length = kA := by
  have s0 : wkN sV 4 7 l 0 = ⟨[], [], []⟩ := rfl
  have s1 : wkN sV 4 7 l 1 = ⟨[0], [], []⟩ := by
    rw [wkN_step (by rw [hl]; decide), s0]
    have e : l[0]'(by rw [hl]; decide) = str tA1.enc := by subst hl; rfl
    rw [e]
    unfold Wk.step
    rw [if_neg (by rw [a1_gn]; decide), a1_fz, a1_of]
    rfl
  have s2 : wkN sV 4 7 l 2 = ⟨[0], [], [⟨⟨#[98]⟩, 7, 1⟩]⟩ := by
    rw [wkN_step (by rw [hl]; decide), s1]
    have e : l[1]'(by rw [hl]; decide) = str tA2.enc := by subst hl; rfl
    rw [e, Wk.step_gn a2_gn, a2_key]
    rfl
  have s3 : wkN sV 4 7 l 3 = ⟨[0], [], [⟨⟨#[98]⟩, 7, 1⟩]⟩ := by
    rw [wkN_step (by rw [hl]; decide), s2]
    have e : l[2]'(by rw [hl]; decide) = ⟨#[]⟩ := by subst hl; rfl
    rw [e, Wk.step_no a0_no.1 a0_no.2]
  have s4 : wkN sV 4 7 l 4 = ⟨[0], [], [⟨⟨#[98]⟩, 7, 1⟩, ⟨⟨#[107]⟩, 7, 3⟩]⟩ := by
    rw [wkN_step (by rw [hl]; decide), s3]
    have e : l[3]'(by rw [hl]; decide) = str (dlay ⟨#[107]⟩) := by subst hl; rfl
    rw [e, Wk.step_gn (gnS_dead ad_st), ad_key]
    rfl
  have e5 : l.length = 5 := by rw [hl]; rfl
  rw [e5, wkN_step (by rw [hl]; decide), s4]
  have e : l[4]'(by rw [hl]; decide) = str tA3.enc := by subst hl; rfl
  rw [e]
  unfold Wk.step
  rw [if_neg (by rw [a3_gn]; decide), a3_fz, a3_of]
  rfl
/-- A row of its own, laid out at once. -/
theorem GRow.lit {α : Type} {E : Lyt α} {ty : TypeId} (w : World) (base : Nat) (L : List α) (hL : L.length ≤ maxLen) (hb : base ≤ w.heap.size) : GRow E ty (w.alloc (.cells (L.flatMap E.e).toArray ty)) base (.slice (some ⟨w.heap.size, 0, none⟩) L.length L.length) L := by
  refine ⟨E.length L, .inr ⟨w.heap.size, L.length, (L.flatMap E.e).toArray, rfl, hb, heap_alloc_new w _, Nat.le_refl _, hL, ?_, ?_⟩⟩
  · rw [List.size_toArray, E.length]
  · show ((L.flatMap E.e).toArray.toList).take (L.length * E.c) = _
    rw [← E.length L]
    exact List.take_length
def ESl : Lyt Sv := ⟨7, Sv.cl, fun _ => rfl, fun x u hu => by simp [Sv.cl] at hu; rcases hu with rfl | rfl | rfl | rfl | rfl | rfl | rfl <;> rfl⟩
theorem Svs.lit (w : World) : Svs (w.alloc (.cells (lA.flatMap Sv.cl).toArray 64)) w.heap.size (some ⟨w.heap.size, 0, none⟩) lA := by
  refine ⟨fun _ => ⟨0, rfl, fun j hj i v hv => ?_⟩, fun _ => by simp, fun z hz => ?_, by decide⟩
  · have hi : i < 7 := (List.getElem?_eq_some_iff.1 hv).1
    have key : (lA.flatMap Sv.cl)[0 + j * 7 + i]? = some v := by rw [Nat.zero_add]; exact (ESl.get hj hi).trans hv
    simp only [World.cell?, World.alloc]
    simpa using key
  · simp only [lA, List.mem_cons, List.not_mem_nil, or_false] at hz
    rcases hz with rfl | rfl | rfl | rfl | rfl <;> exact ⟨⟨by decide, by decide⟩, ⟨by decide, by decide⟩, ⟨by decide, by decide⟩, by decide⟩
end Go.Proofs.YtpnbhddmdfcjdaaGreat
namespace Go.Proofs.YtpnbhddmdfcjdaaGreat
open Go.RowKit Go.Maps
set_option maxRecDepth 100000 in
set_option maxHeartbeats 800000 in
theorem sameIntsI_eq (w : World) (b1 b2 : Nat) (a1 a2 : Option Addr) (c1 c2 k : Nat) (L : List Int) (hk : L.length = k) (h1 : IRw w b1 (.slice a1 k c1) L) (h2 : IRw w b2 (.slice a2 k c2) L) (hlen : k ≤ 4398046511104) :
    Calls Tryz.prog 35 #[.slice a1 k c1, .slice a2 k c2] w fun e w' => e = .returned (.bool true) ∧ Only (fun _ => False) w w' := by
  subst hk
  have H1 := hide h1
  have H2 := hide h2
  clear h1 h2
  go_enter Tryz.func35, Tryz.ntmps35
  go_wp2_with fail
  go_loopw [5] (fun y wr => ∃ (j : Nat), j ≤ L.length ∧ y = .int .i64 (j : Int) ∧ Hid (Only (fun _ => False) w wr)) (fun y _ => L.length - (intOf y).toNat)
  case atStart => exact ⟨0, by omega, rfl, hide (Only.refl _ _)⟩
  case round =>
    obtain ⟨j, hj, rfl, HO⟩ := hrel
    by_cases hlt : j < L.length
    · obtain ⟨g1, e1, _, _, _, q1⟩ := (H1.out.more HO.out).at_ hlt
      obtain ⟨g2, e2, _, _, _, q2⟩ := (H2.out.more HO.out).at_ hlt
      have k1 : wr.cell? ⟨g1, j * 1 + 0, none⟩ = some (.int .i64 L[j]) := q1 0 (.int .i64 L[j]) (by decide) rfl
      have k2 : wr.cell? ⟨g2, j * 1 + 0, none⟩ = some (.int .i64 L[j]) := q2 0 (.int .i64 L[j]) (by decide) rfl
      rw [Nat.mul_one, Nat.add_zero] at k1 k2
      obtain ⟨z, hz⟩ : ∃ z, L[j] = z := ⟨_, rfl⟩
      rw [hz] at k1 k2
      have hj0 : (0 : Int) ≤ (j : Int) := by omega
      have hj1 : (j : Int) < (L.length : Int) := by omega
      have z1 : wr.cell? ⟨g1, 0 + j, none⟩ = some (.int .i64 z) := by rw [Nat.zero_add]; exact k1
      have z2 : wr.cell? ⟨g2, 0 + j, none⟩ = some (.int .i64 z) := by rw [Nat.zero_add]; exact k2
      clear q1 q2 hz
      subst e1
      subst e2
      go_wp2_with fail
      go_region
      go_wp2_with fail
      go_roundw
      case rel => exact ⟨j + 1, by omega, by go_num, hide (HO.out.trans (Only.drew _ _) (fun _ _ h => h))⟩
      case measure => simp [intOf]; omega
    · go_wp2_with fail
      go_ret
      exact ⟨rfl, HO.out⟩
theorem neqE_run (k : ByteArray) (x y : Int) (W : World) : (binOp .neq 74 (.agg #[.string k, .int .i64 x, .int .i64 y]) (.agg #[.string k, .int .i64 x, .int .i64 y])).run Tryz.prog W = .ok (.bool false) W := by
  simp [go_sem]
/-- Two of the law's works that are the same. -/
theorem wk_new (w : World) (u0 u1 u2 v0 v1 v2 : Value) : WB ((w.alloc (.cells #[u0, u1, u2] 39)).alloc (.cells #[v0, v1, v2] 39)) w.heap.size u0 u1 u2 ∧ WB ((w.alloc (.cells #[u0, u1, u2] 39)).alloc (.cells #[v0, v1, v2] 39)) (w.heap.size + 1) v0 v1 v2 ∧ Only (fun _ => False) w ((w.alloc (.cells #[u0, u1, u2] 39)).alloc (.cells #[v0, v1, v2] 39)) := by
  refine ⟨(WB.new w 39 u0 u1 u2).more (onlyA _ _), ?_, o2 (onlyA _ _) (onlyA _ _)⟩
  have h := WB.new (w.alloc (.cells #[u0, u1, u2] 39)) 39 v0 v1 v2
  rw [World.size_alloc] at h
  exact h
set_option maxRecDepth 100000 in
set_option maxHeartbeats 1600000 in
theorem vsame_eq (w : World) (b1 b2 : Nat) (u0 u1 u2 v0 v1 v2 : Value) (K : Wk) (h1 : WkAt w b1 u0 u1 u2 K) (h2 : WkAt w b2 v0 v1 v2 K) (hl : K.fr.length ≤ 4398046511104 ∧ K.of.length ≤ 4398046511104 ∧ K.gn.length ≤ 4398046511104) :
    Calls Tryz.prog 9 #[.agg #[u0, u1, u2], .agg #[v0, v1, v2]] w fun e w' => e = .returned (.bool true) ∧ Only (fun _ => False) w w' := by
  obtain ⟨fr, of, gn⟩ := K
  simp only [] at hl
  obtain ⟨a0, c0, rfl⟩ := h1.fr.form
  obtain ⟨a1, c1, rfl⟩ := h1.of.form
  obtain ⟨a2, c2, rfl⟩ := h1.gn.form
  obtain ⟨d0, e0, rfl⟩ := h2.fr.form
  obtain ⟨d1, e1, rfl⟩ := h2.of.form
  obtain ⟨d2, e2, rfl⟩ := h2.gn.form
  simp only [] at h1 h2 ⊢
  have HN := hide (wk_new w (.slice a0 fr.length c0) (.slice a1 of.length c1) (.slice a2 gn.length c2) (.slice d0 fr.length e0) (.slice d1 of.length e1) (.slice d2 gn.length e2))
  have HF1 := hide h1.fr
  have HF2 := hide h2.fr
  have HO1 := hide h1.of
  have HO2 := hide h2.of
  have HG1 := hide h1.gn
  have HG2 := hide h2.gn
  have HL := hide hl
  clear h1 h2 hl
  go_enter Tryz.func9, Tryz.ntmps9
  go_upto_region 1 with fail
  obtain ⟨W0, hW0⟩ : ∃ x, (w.alloc (.cells #[.slice a0 fr.length c0, .slice a1 of.length c1, .slice a2 gn.length c2] 39)).alloc (.cells #[.slice d0 fr.length e0, .slice d1 of.length e1, .slice d2 gn.length e2] 39) = x := ⟨_, rfl⟩
  rw [hW0] at HN ⊢
  clear hW0
  obtain ⟨p, hp⟩ : ∃ b, w.heap.size = b := ⟨_, rfl⟩
  rw [hp] at HN ⊢
  clear hp
  obtain ⟨x0, x1, x2, _, _, _, _⟩ := HN.out.1
  obtain ⟨y0, y1, y2, _, _, _, _⟩ := HN.out.2.1
  go_wp2_with fail
  go_loopw [5] (fun y wr => ∃ (j : Nat), j ≤ gn.length ∧ y = .int .i64 (j : Int) ∧ Hid (Only (fun _ => False) W0 wr)) (fun y _ => gn.length - (intOf y).toNat)
  case atStart => exact ⟨0, by omega, rfl, hide (Only.refl _ _)⟩
  case round =>
    obtain ⟨j, hj, rfl, HO⟩ := hrel
    clear x0 x1 x2 y0 y1 y2
    obtain ⟨x0, x1, x2, _, _, _, _⟩ := HN.out.1.more HO.out
    obtain ⟨y0, y1, y2, _, _, _, _⟩ := HN.out.2.1.more HO.out
    by_cases hlt : j < gn.length
    · have HOW := o2 HN.out.2.2 HO.out
      obtain ⟨g1, r1, _, _, _, q1⟩ := (HG1.out.more HOW).at_ hlt
      obtain ⟨g2, r2, _, _, _, q2⟩ := (HG2.out.more HOW).at_ hlt
      have k0 : wr.cell? ⟨g1, j * 3 + 0, none⟩ = some (.string gn[j].key) := q1 0 (.string gn[j].key) (by decide) rfl
      have k1 : wr.cell? ⟨g1, j * 3 + 1, none⟩ = some (.int .i64 gn[j].page) := q1 1 (.int .i64 gn[j].page) (by decide) rfl
      have k2 : wr.cell? ⟨g1, j * 3 + 2, none⟩ = some (.int .i64 gn[j].slot) := q1 2 (.int .i64 gn[j].slot) (by decide) rfl
      have m0 : wr.cell? ⟨g2, j * 3 + 0, none⟩ = some (.string gn[j].key) := q2 0 (.string gn[j].key) (by decide) rfl
      have m1 : wr.cell? ⟨g2, j * 3 + 1, none⟩ = some (.int .i64 gn[j].page) := q2 1 (.int .i64 gn[j].page) (by decide) rfl
      have m2 : wr.cell? ⟨g2, j * 3 + 2, none⟩ = some (.int .i64 gn[j].slot) := q2 2 (.int .i64 gn[j].slot) (by decide) rfl
      rw [Nat.add_zero] at k0 m0
      obtain ⟨kk, hkk⟩ : ∃ z, gn[j].key = z := ⟨_, rfl⟩
      obtain ⟨pp, hpp⟩ : ∃ z, gn[j].page = z := ⟨_, rfl⟩
      obtain ⟨ss, hss⟩ : ∃ z, gn[j].slot = z := ⟨_, rfl⟩
      rw [hkk] at k0 m0
      rw [hpp] at k1 m1
      rw [hss] at k2 m2
      have hq := fun W => neqE_run kk pp ss W
      have hj0 : (0 : Int) ≤ (j : Int) := by omega
      have hj1 : (j : Int) < (gn.length : Int) := by omega
      clear q1 q2 hkk hpp hss HOW
      have HLT := hide hlt
      have hlb := HL.out.2.2
      subst r1
      subst r2
      go_wp2_with fail
      go_region
      go_wp2_with fail
      go_roundw
      case rel => exact ⟨j + 1, HLT.out, by go_num, hide (HO.out.trans (Only.drew _ _) (fun _ _ h => h))⟩
      case measure => have := HLT.out; simp [intOf]; omega
    · have HS1 : Hid (∀ W, Only (fun _ => False) W0 W → Calls Tryz.prog 35 #[.slice a0 fr.length c0, .slice d0 fr.length e0] W fun e w' => e = .returned (.bool true) ∧ Only (fun _ => False) W w') := fun W ho =>
        sameIntsI_eq W b1 b2 a0 d0 c0 e0 _ fr rfl (HF1.out.more (o2 HN.out.2.2 ho)) (HF2.out.more (o2 HN.out.2.2 ho)) HL.out.1
      have HS2 : Hid (∀ W, Only (fun _ => False) W0 W → Calls Tryz.prog 35 #[.slice a1 of.length c1, .slice d1 of.length e1] W fun e w' => e = .returned (.bool true) ∧ Only (fun _ => False) W w') := fun W ho =>
        sameIntsI_eq W b1 b2 a1 d1 c1 e1 _ of rfl (HO1.out.more (o2 HN.out.2.2 ho)) (HO2.out.more (o2 HN.out.2.2 ho)) HL.out.2.1
      go_wp2_with fail
      refine (HS1.out _ HO.out).mono ?_
      rintro e w1 ⟨rfl, ho1⟩
      have HO3 := hide (o2 HO.out ho1)
      obtain ⟨x0b, x1b, x2b, _, _, _, _⟩ := HN.out.1.more HO3.out
      obtain ⟨y0b, y1b, y2b, _, _, _, _⟩ := HN.out.2.1.more HO3.out
      clear ho1
      go_wp2_with fail
      refine (HS2.out _ HO3.out).mono ?_
      rintro e w2 ⟨rfl, ho2⟩
      have HO4 := hide (o2 HN.out.2.2 (o2 HO3.out ho2))
      clear ho2
      go_wp2_with fail
      go_ret
      exact ⟨rfl, HO4.out⟩
end Go.Proofs.YtpnbhddmdfcjdaaGreat
