/- Parts. -/
import Derived.Test.YtpnbhddmdfcjdaaGreatK40
import Derived.Test.YtpnbhddmdfcjdaaGreatK02
import Derived.Test.YtpnbhddmdfcjdaaGreatK04
set_option maxRecDepth 100000
namespace Go.Proofs.YtpnbhddmdfcjdaaGreat
open Go.RowKit
def nlL : Loc := ⟨Option.none, Option.none, Option.none, Option.none, Option.none, 0, 0, 0, 0, 0, 0, 0, 0, 0, 0⟩
/-- A record that freezes, and takes off; one that cleans. -/
def frR (pg : Int) (K : Wk) : Rc := ⟨0, 0, 0, 10, 0, pg, 0, 0, 0, 0, ⟨#[]⟩, K.fr, K.of, [], [], []⟩
def clR (pg : Int) (G : List Int) : Rc := ⟨0, 0, 0, 9, 0, pg, 0, 0, 0, 0, ⟨#[]⟩, G, [], [], [], []⟩
theorem run_build_r0 (w : World) : (Instr.build 47 #[]).run Tryz.prog w = .ok (.agg (Rc.none.cells nlL)) w := run_build w 47 #[] _ (by kernel_rfl)
theorem run_build_r9 (w : World) (p : Int) (va : Option Addr) (vn vc : Nat) : (Instr.build 47 #[(3, .int .u8 9), (5, .int .i64 p), (11, .slice va vn vc)]).run Tryz.prog w = .ok (.agg #[.int .i64 0, .int .i64 0, .int .i64 0, .int .u8 9, .int .i64 0, .int .i64 p, .int .i64 0, .int .i64 0, .int .i64 0, .int .i64 0, .string ⟨#[]⟩, .slice va vn vc, .slice none 0 0, .slice none 0 0, .slice none 0 0, .slice none 0 0]) w := run_build w 47 _ _ (by kernel_rfl)
section
variable {ops : Array Oper} {rest : List Oper} {o : Oper} {a : Act} {w : World} {Q : Exit → Act → World → Prop}
theorem wpList_build_r0 (hg : o.guard = none) (hop : o.op = .build 47 #[]) (h : wpList Tryz.prog ops Q rest (a.put o.dst (.agg (Rc.none.cells nlL))) w) : wpList Tryz.prog ops Q (o :: rest) a w := by
  refine wpList_plain hg fun K hK => ?_
  unfold Oper.wp execOp
  simp only [hop, Array.map_empty, Sem.run_bind, Sem.run_pure, Result.andThen_ok, run_build_r0]
  exact hK _ _ h
theorem wpList_build_r9 (hg : o.guard = none) (a5 a11 : Operand) (hop : o.op = .build 47 #[(3, .const (.int .u8 9)), (5, a5), (11, a11)]) (p : Int) (va : Option Addr) (vn vc : Nat) (h5 : a.eval a5 = .int .i64 p) (h11 : a.eval a11 = .slice va vn vc)
    (h : wpList Tryz.prog ops Q rest (a.put o.dst (.agg #[.int .i64 0, .int .i64 0, .int .i64 0, .int .u8 9, .int .i64 0, .int .i64 p, .int .i64 0, .int .i64 0, .int .i64 0, .int .i64 0, .string ⟨#[]⟩, .slice va vn vc, .slice none 0 0, .slice none 0 0, .slice none 0 0, .slice none 0 0])) w) : wpList Tryz.prog ops Q (o :: rest) a w := by
  refine wpList_plain hg fun K hK => ?_
  unfold Oper.wp execOp
  have e : (#[(3, Operand.const (.int .u8 9)), (5, a5), (11, a11)] : Array (Nat × Operand)).map (fun x => (x.1, a.eval x.2)) = #[(3, .int .u8 9), (5, .int .i64 p), (11, .slice va vn vc)] := by
    simp only [List.map_toArray, List.map_cons, List.map_nil, h5, h11]
    rfl
  simp only [hop, e, Sem.run_bind, Sem.run_pure, Result.andThen_ok, run_build_r9]
  exact hK _ _ h
end
theorem results_rcI {fn : Func} {p u : Tmp} (h : fn.results = #[.cell p 47, .tmp u]) {tmps : Array Value} {w : World} {b : Nat} {r : Rc} {L : Loc} (hp : tmps.getD p undef = .pointer (some ⟨b, 0, none⟩)) (hP : Rb w b r L) :
    (results fn tmps).run Tryz.prog w = .ok (.tuple #[.agg (r.cells L), tmps.getD u undef]) w := by
  have e : (asAddr (.pointer (some ⟨b, 0, none⟩))).run Tryz.prog w = .ok ⟨b, 0, none⟩ w := rfl
  have hl : (loadVar 47 ⟨b, 0, none⟩).run Tryz.prog w = .ok (.agg (r.cells L)) w := run_loadVar_mid (P := Tryz.prog) w b 0 47 (r.cl L) _ hP.range Tryz.underlying47 rfl Tryz.sizeRecY
  rw [results_cell_tmp h, hp, e]
  simp only [Result.andThen, hl]
theorem fm_int (L : List Int) : L.flatMap EIi.e = L.map (Value.int .i64) := by
  induction L with
  | nil => rfl
  | cons x L ih => rw [List.flatMap_cons, ih]; rfl
/-- A row that is owned, as numbers in memory. -/
theorem GRow.zs {w : World} {base cp : Nat} {ao : Option Addr} {L : List Int} (h : IRw w base (.slice ao L.length cp) L) (hl : L.length ≤ 4398046511104) : ∃ B, Zs w B ao L ∧ Fit ao L.length cp ∧ (0 < L.length → base ≤ B) := by
  rcases h.head with ⟨e1, e2, e3⟩ | ⟨g, e, h1, h2, h3, h4, _, h5⟩
  · subst e1 e2 e3
    exact ⟨0, Zs.nil _ _ _, ⟨fun _ => rfl, by simp, by simp⟩, fun q => absurd q (by simp)⟩
  · subst e
    refine ⟨g, ⟨fun _ => ⟨0, rfl, fun j hj => ?_⟩, fun _ => h2, by omega⟩, ⟨(fun q => by cases q), h3, h4⟩, fun _ => h1⟩
    have := h5 (j * 1 + 0) (.int .i64 L[j]) (by show (L.flatMap EIi.e)[j * EIi.c + 0]? = _; rw [EIi.get hj (by decide)]; rfl)
    rw [Nat.mul_one, Nat.add_zero] at this
    rw [Nat.zero_add]
    exact this
/-- A row of numbers, copied. -/
theorem iclone_any (w : World) (base cp : Nat) (ao : Option Addr) (L : List Int) (h : IRw w base (.slice ao L.length cp) L) (hl : L.length ≤ 4398046511104) :
    Calls Tryz.prog 36 #[.slice ao L.length cp] w fun e w' => ∃ B a2 c2, e = .returned (.slice a2 L.length c2) ∧ Zs w' B a2 L ∧ Fit a2 L.length c2 ∧ (0 < L.length → w.heap.size ≤ B) ∧ Only (fun _ => False) w w' := by
  have hO : ∀ w', Below w.heap.size w w' → Only (fun _ => False) w w' := fun w' ⟨b1, b2, b3, b4, b5⟩ => ⟨b1, b2, b3, b4, fun k hk _ => b5 k hk⟩
  rcases h.head with ⟨rfl, rfl, rfl⟩ | ⟨g, rfl, hb, hg, _, _, _, hc⟩
  · refine (Tryz.slices_Clone_int_nil 0 0 w).mono ?_
    rintro e w' ⟨rfl, rfl⟩
    exact ⟨0, none, 0, rfl, Zs.nil _ _ _, ⟨fun _ => rfl, by simp, by simp⟩, fun q => absurd q (by simp), Only.refl _ _⟩
  · refine (Tryz.slices_Clone_int g 0 L.length cp L w (Nat.le_refl _) (by omega) (fun j hj => ?_)).mono ?_
    · have := hc (j * 1 + 0) (.int .i64 L[j]) (by show (L.flatMap EIi.e)[j * EIi.c + 0]? = _; rw [EIi.get hj (by decide)]; rfl)
      rw [Nat.mul_one, Nat.add_zero] at this
      rw [Nat.zero_add, this]
      simp [List.getD_eq_getElem?_getD, hj]
    · rintro e w' ⟨v', rfl, hr, _, hbl⟩
      rw [List.take_length] at hr
      have hI : IRw w' w.heap.size v' L := by unfold IRw GRow; rw [fm_int]; exact hr
      obtain ⟨a2, c2, rfl⟩ := hI.form
      obtain ⟨B, h1, h2, h3⟩ := hI.zs hl
      exact ⟨B, a2, c2, rfl, h1, h2, h3, hO _ hbl⟩
theorem frz_new (w : World) (v0 v1 v2 : Value) : WB ((w.alloc (.cells #[v0, v1, v2] 39)).alloc (.cells (Rc.none.cells nlL) 47)) w.heap.size v0 v1 v2 ∧ Rb ((w.alloc (.cells #[v0, v1, v2] 39)).alloc (.cells (Rc.none.cells nlL) 47)) (w.heap.size + 1) Rc.none nlL ∧ Only (fun _ => False) w ((w.alloc (.cells #[v0, v1, v2] 39)).alloc (.cells (Rc.none.cells nlL) 47)) := by
  refine ⟨(WB.new w 39 v0 v1 v2).more (onlyA _ _), ?_, o2 (onlyA _ _) (onlyA _ _)⟩
  have h := Rb.new (w.alloc (.cells #[v0, v1, v2] 39)) Rc.none nlL
  rw [World.size_alloc] at h
  exact h
/-- Nothing to freeze. -/
theorem frz_cells (w : World) (v0 v1 v2 : Value) : (w.alloc (.cells #[v0, v1, v2] 39)).alloc (.cells #[.int .i64 0, .int .i64 0, .int .i64 0, .int .u8 0, .int .i64 0, .int .i64 0, .int .i64 0, .int .i64 0, .int .i64 0, .int .i64 0, .string ⟨#[]⟩, .slice none 0 0, .slice none 0 0, .slice none 0 0, .slice none 0 0, .slice none 0 0] 47) = (w.alloc (.cells #[v0, v1, v2] 39)).alloc (.cells (Rc.none.cells nlL) 47) := rfl
set_option maxRecDepth 100000 in
set_option maxHeartbeats 3200000 in
theorem vfreeze_no (w : World) (pg : Int) (a0 a1 a2 : Option Addr) (c0 c1 n2 c2 : Nat) :
    Calls Tryz.prog 10 #[.int .i64 pg, .agg #[.slice a0 0 c0, .slice a1 0 c1, .slice a2 n2 c2]] w fun e w' => e = .returned (.tuple #[.agg (Rc.none.cells nlL), .bool false]) ∧ Only (fun _ => False) w w' := by
  have HN := hide (frz_new w (.slice a0 0 c0) (.slice a1 0 c1) (.slice a2 n2 c2))
  go_enter Tryz.func10, Tryz.ntmps10
  go_upto_region 1 with fail
  rw [frz_cells]
  obtain ⟨W0, hW0⟩ : ∃ x, (w.alloc (.cells #[.slice a0 0 c0, .slice a1 0 c1, .slice a2 n2 c2] 39)).alloc (.cells (Rc.none.cells nlL) 47) = x := ⟨_, rfl⟩
  rw [hW0] at HN ⊢
  clear hW0
  obtain ⟨b4, hb4⟩ : ∃ b, w.heap.size + 1 = b := ⟨_, rfl⟩
  have HBK := hide hb4
  rw [hb4] at HN ⊢
  clear hb4
  obtain ⟨x0, x1, x2, _, _, _, _⟩ := HN.out.1
  have HRB := hide HN.out.2.1
  go_wp2_with (first
    | (refine wpList_build_r0 rfl rfl ?_; go_frame)
    | (refine wpList_put_rc rfl (.tmp 4) (.tmp 16) rfl b4 rfl Rc.none Rc.none nlL nlL rfl HRB.out (fun W HS => ?_); go_frame))
  refine bodyPost_ret (results_rcI rfl rfl HS.out.1) rfl ?_
  have hbk := HBK.out
  exact ⟨rfl, HN.out.2.2.trans HS.out.2 (fun i hi e => by omega)⟩
/-- What the records' lists are where they were copied. -/
theorem rcAt_frz {w : World} {pg : Int} {K : Wk} {B1 B2 c1 c2 : Nat} {a1 a2 : Option Addr} (h1 : Zs w B1 a1 K.fr) (f1 : Fit a1 K.fr.length c1) (h2 : Zs w B2 a2 K.of) (f2 : Fit a2 K.of.length c2) : RcAt w (frR pg K) ⟨a1, a2, Option.none, Option.none, Option.none, c1, c2, 0, 0, 0, B1, B2, 0, 0, 0⟩ :=
  ⟨h1, h2, ⟨fun _ => False, Ims.nil _ _ _ _⟩, Prs.nil _ _ _, Prs.nil _ _ _, f1, f2, Nat.zero_le _, ⟨by show (0 : Int) ≤ 10; decide, by show (10 : Int) ≤ 255; decide⟩⟩
theorem rcAt_cln {w : World} {pg : Int} {G : List Int} {B1 c1 : Nat} {a1 : Option Addr} (h1 : Zs w B1 a1 G) (f1 : Fit a1 G.length c1) : RcAt w (clR pg G) ⟨a1, Option.none, Option.none, Option.none, Option.none, c1, 0, 0, 0, 0, B1, 0, 0, 0, 0⟩ :=
  ⟨h1, Zs.nil _ _ _, ⟨fun _ => False, Ims.nil _ _ _ _⟩, Prs.nil _ _ _, Prs.nil _ _ _, f1, ⟨fun _ => rfl, by simp [clR], by simp⟩, Nat.zero_le _, ⟨by show (0 : Int) ≤ 9; decide, by show (9 : Int) ≤ 255; decide⟩⟩
end Go.Proofs.YtpnbhddmdfcjdaaGreat
namespace Go.Proofs.YtpnbhddmdfcjdaaGreat
open Go.RowKit Go.Sort
/-- A record that names these numbers, and no others. -/
def rcF (L : List Int) : Rc := ⟨0, 0, 0, 0, 0, 0, 0, 0, 0, 0, ⟨#[]⟩, [], [], L.map (fun s => ⟨s, Pg.none⟩), [], []⟩
theorem touF (L : List Int) : touL (rcF L) = L := by
  unfold touL
  rw [if_neg (show ¬ ownK (rcF L).kind = true by show ¬ ownK 0 = true; decide), List.append_nil]
  show (L.map (fun s => (⟨s, Pg.none⟩ : Im))).map Im.page = L
  rw [List.map_map]
  exact (List.map_congr_left (fun _ _ => rfl)).trans (List.map_id L)
theorem rise_ext : ∀ {a b : List Int}, a.Pairwise (· < ·) → b.Pairwise (· < ·) → (∀ x, x ∈ a ↔ x ∈ b) → a = b
  | [], [], _, _, _ => rfl
  | [], y :: b, _, _, h => by have := (h y).2 (List.mem_cons_self ..); cases this
  | x :: a, [], _, _, h => by have := (h x).1 (List.mem_cons_self ..); cases this
  | x :: a, y :: b, ha, hb, h => by
    obtain ⟨ha1, ha2⟩ := List.pairwise_cons.1 ha
    obtain ⟨hb1, hb2⟩ := List.pairwise_cons.1 hb
    have e : x = y := by
      have h1 := (h x).1 (List.mem_cons_self ..)
      have h2 := (h y).2 (List.mem_cons_self ..)
      rcases List.mem_cons.1 h1 with q | q
      · exact q
      · rcases List.mem_cons.1 h2 with r | r
        · exact r.symm
        · have := hb1 x q
          have := ha1 y r
          omega
    subst e
    rw [rise_ext ha2 hb2 (fun z => ?_)]
    refine ⟨fun q => ?_, fun q => ?_⟩
    · rcases List.mem_cons.1 ((h z).1 (List.mem_cons_of_mem _ q)) with r | r
      · have := ha1 z q; omega
      · exact r
    · rcases List.mem_cons.1 ((h z).2 (List.mem_cons_of_mem _ q)) with r | r
      · have := hb1 z q; omega
      · exact r
theorem touF_s {L : List Int} (h : L.Pairwise (· < ·)) : touS (rcF L) = L := by
  obtain ⟨h1, h2⟩ := touS_rise (rcF L)
  rw [touF] at h2
  exact rise_ext h1 h h2
set_option maxRecDepth 100000 in
theorem sort_comp (w W : World) (base g n : Nat) (L : List Int) (hk : Kts W base (.slice (some ⟨g, 0, none⟩) L.length n) L) (ho0 : Only (fun _ => False) w W) (hb0 : w.heap.size ≤ base) (hn : L.length ≤ 17592186043904) (hL : L.Pairwise (· < ·)) : Calls Tryz.prog 67 #[.slice (some ⟨g, 0, none⟩) L.length n] W fun e w' => e = .returned (.tuple #[]) ∧ Calls Tryz.prog 68 #[.slice (some ⟨g, 0, none⟩) L.length n] w' fun e w'' => ∃ B ao cp, e = .returned (.slice ao L.length cp) ∧ Zs w'' B ao L ∧ Fit ao L.length cp ∧ w.heap.size ≤ B ∧ Only (fun _ => False) w w'' := by
  have hTT := touF_s hL
  rcases hk.2 with ⟨e, _⟩ | ⟨g', cap, cur, e, hbase, hb, h1, h2, h3, h4⟩
  · cases e
  · cases e
    have hH : Holds (Value.int .i64) W g 0 L.toArray := holds_of_blockI hb (by simpa [ncs] using h4)
    have hgl : g < W.heap.size := (Array.getElem?_eq_some_iff.1 hb).1
    refine (sort_any g 0 n L W hH hgl (by omega)).mono ?_
    rintro e w' ⟨rfl, nn, os, rfl⟩
    refine ⟨rfl, ?_⟩
    have hT : touS (rcF L) = Lib.compact ((touL (rcF L)).mergeSort fun x y => decide (x ≤ y)) := rfl
    have hTL := touS_len (rcF L)
    rw [hTT] at hT hTL
    rw [touF] at hT hTL
    obtain ⟨S, hS⟩ : ∃ S, (L.mergeSort fun x y => decide (x ≤ y)) = S := ⟨_, rfl⟩
    have hSl : S.length = L.length := by rw [← hS, List.length_mergeSort]
    rw [hS] at hT ⊢
    have ho := ownsRow_sortedI (n := nn) (os := os) (ts := S) hSl hbase hb h1 h2 h3
    have hO1 : Only (fun i => i = g) W _ := Only.grown (grownBy_sortedI (w := W) (g := g) (n := nn) (os := os) S.toArray) (fun k hk => by cases hk; rfl)
    obtain ⟨W1, hW1⟩ : ∃ x, grow (putRow (Value.int .i64) (Sort.ahead W nn) g 0 S.toArray) os = x := ⟨_, rfl⟩
    rw [hW1] at ho hO1 ⊢
    clear hW1
    rcases ho.2 with ⟨e, _⟩ | ⟨g', cap, cur', e, hbase', hb', h1', h2', h3', h4'⟩
    · cases e
    · cases e
      rw [← hSl] at h1' h4' ⊢
      have hH' : Holds (Value.int .i64) W1 g 0 S.toArray := holds_of_blockI hb' (by simpa using h4')
      refine (Tryz.slices_Compact_int g 0 n S W1 hH' (by omega) h1').mono ?_
      rintro e w2 ⟨rfl, q, rfl⟩
      rw [← hT]
      have hcl : L.length ≤ S.length := by omega
      have ho2 := ownsRow_sortedI (n := q) (os := #[]) (ts := L ++ List.replicate (S.length - L.length) 0) (ss := S) (by rw [List.length_append, List.length_replicate]; omega) hbase' hb' h1' h2' h3'
      have hO2 : Only (fun i => i = g) W1 _ := Only.grown (grownBy_sortedI (w := W1) (g := g) (n := q) (os := #[]) (L ++ List.replicate (S.length - L.length) 0).toArray) (fun k hk => by cases hk; rfl)
      have eg : ∀ X : World, grow X #[] = X := fun X => by unfold grow; simp
      rw [eg] at ho2 hO2
      rw [hSl]
      rw [hSl] at ho2 hO2
      refine ⟨g, some ⟨g, 0, none⟩, n, rfl, ⟨fun _ => ⟨0, rfl, fun j hj => ?_⟩, fun _ => ?_, by omega⟩, ⟨(fun e => by cases e), by omega, h2'⟩, by omega, ?_⟩
      · rw [Nat.zero_add, World.ownsRow.cellAt ho2 j (by omega), List.map_append, List.getElem?_append_left (by simpa using hj), List.getElem?_map, List.getElem?_eq_getElem hj]
        rfl
      · exact Nat.lt_of_lt_of_le (Array.getElem?_eq_some_iff.1 hb').1 hO2.size
      · exact (ho0.trans hO1 (fun i hi e => by omega)).trans hO2 (fun i hi e => by omega)
/-- The slots of what is gone. -/
def slG (G : List En) : List Int := G.map En.slot
set_option maxRecDepth 100000 in
set_option maxHeartbeats 3200000 in
theorem slotsOf_any (w : World) (base cp : Nat) (ao : Option Addr) (G : List En) (h : ERows w base (.slice ao G.length cp) G) (hl : G.length ≤ 4398046511104) (hr : (slG G).Pairwise (· < ·)) :
    Calls Tryz.prog 37 #[.slice ao G.length cp] w fun e w' => ∃ B a2 c2, e = .returned (.slice a2 G.length c2) ∧ Zs w' B a2 (slG G) ∧ Fit a2 G.length c2 ∧ w.heap.size ≤ B ∧ Only (fun _ => False) w w' := by
  have HG := hide h
  have HR := hide hr
  obtain ⟨n, hn⟩ : ∃ n, G.length = n := ⟨_, rfl⟩
  have HNN := hide hn
  have hsl : (slG G).length = n := by unfold slG; rw [List.length_map]; exact hn
  have HSL := hide hsl
  obtain ⟨O, hmk, hown⟩ := kts_made2 n (by omega)
  have HOWN := hide hown
  rw [hn] at hl ⊢
  have hnw : IntKind.i64.wrap (n : Int) = (n : Int) := wraps_i64 _ (by omega) (by omega)
  have HE : Hid (∀ W, Only (fun _ => False) w W → ∀ j (hj : j < G.length), ∃ g, ao = some ⟨g, 0, none⟩ ∧ W.cell? ⟨g, j * 3, none⟩ = some (.string G[j].key) ∧ W.cell? ⟨g, j * 3 + 1, none⟩ = some (.int .i64 G[j].page) ∧ W.cell? ⟨g, j * 3 + 2, none⟩ = some (.int .i64 G[j].slot)) := fun W ho j hj => by
    have hg0 := HG.out
    obtain ⟨g, e, _, _, _, q⟩ := (hg0.more ho).at_ hj
    exact ⟨g, e, q 0 (.string G[j].key) (by decide) rfl, q 1 (.int .i64 G[j].page) (by decide) rfl, q 2 (.int .i64 G[j].slot) (by decide) rfl⟩
  clear h hr hown hn hsl
  go_enter Tryz.func37, Tryz.ntmps37
  have HT0 : Hid (Kts (w.alloc O) w.heap.size (.slice (some ⟨w.heap.size, 0, none⟩) 0 n) ((slG G).take 0)) := HOWN.out w _ (Nat.le_refl _)
  have HO0 := hide (onlyA w O)
  go_upto_region 2 with fail
  obtain ⟨g, hg⟩ : ∃ g, w.heap.size = g := ⟨_, rfl⟩
  have HGW := hide hg
  rw [hg] at HT0 ⊢
  obtain ⟨W1, hW1⟩ : ∃ x, w.alloc O = x := ⟨_, rfl⟩
  rw [hW1] at HT0 HO0 ⊢
  clear hW1 hg hmk HOWN
  go_wp2_with fail
  go_loopw [3, 11] (fun v i wr => ∃ (j : Nat), j ≤ n ∧ v = .slice (some ⟨g, 0, none⟩) j n ∧ i = .int .i64 (j : Int) ∧ Hid (Kts wr g (.slice (some ⟨g, 0, none⟩) j n) ((slG G).take j)) ∧ Hid (Only (fun _ => False) w wr)) (fun _ i _ => n - (intOf i).toNat)
  case atStart => exact ⟨0, Nat.zero_le _, rfl, rfl, HT0, HO0⟩
  case round =>
    clear HT0 HO0
    obtain ⟨j, hj, rfl, rfl, HT, HO⟩ := hrel
    by_cases hlt : j < n
    · have hjG : j < G.length := by have := HNN.out; omega
      obtain ⟨gx, ex, k0, k1, k2⟩ := HE.out wr HO.out j hjG
      have hlk : (j : Int) < (n : Int) := by omega
      have hj0 : (0 : Int) ≤ (j : Int) := by omega
      have HLT := hide hlt
      have HTK : Hid ((slG G).take (j + 1) = (slG G).take j ++ [G[j].slot]) := by
        unfold Hid slG
        rw [List.take_succ_eq_append_getElem (by rw [List.length_map]; have := HNN.out; omega)]
        simp
      obtain ⟨kk, hkk⟩ : ∃ z, G[j].key = z := ⟨_, rfl⟩
      obtain ⟨pp, hpp⟩ : ∃ z, G[j].page = z := ⟨_, rfl⟩
      obtain ⟨ss, hss⟩ : ∃ z, G[j].slot = z := ⟨_, rfl⟩
      rw [hkk] at k0
      rw [hpp] at k1
      rw [hss] at k2 HTK
      subst ex
      clear hkk hpp hss hjG
      have HW := hide (WB.new wr 74 (.string kk) (.int .i64 pp) (.int .i64 ss))
      have HA := hide (onlyA wr (.cells #[.string kk, .int .i64 pp, .int .i64 ss] 74))
      have HT1 := hide (HT.out.more HA.out)
      go_upto_region 5 with fail
      obtain ⟨b, hb⟩ : ∃ b, wr.heap.size = b := ⟨_, rfl⟩
      rw [hb] at HW ⊢
      clear hb
      obtain ⟨W2, hW2⟩ : ∃ x, wr.alloc (.cells #[.string kk, .int .i64 pp, .int .i64 ss] 74) = x := ⟨_, rfl⟩
      rw [hW2] at HA HW HT1 ⊢
      clear hW2 k0 k1 k2 HT
      obtain ⟨e0, e1, e2, _, _, _, _⟩ := HW.out
      have HA2 := hide (onlyA W2 (.cells #[.int .i64 ss] 3))
      obtain ⟨W3, hr3, hk3, ho3⟩ := kts_room (W2.alloc (.cells #[.int .i64 ss] 3)) g g j n _ (HT1.out.more HA2.out) (by rw [List.length_take]; have := HSL.out; omega) (by omega) ss W2.heap.size (by simp)
      rw [← HTK.out] at hk3
      have HK3 := hide hk3
      have HO3 : Hid (Only (fun _ => False) w W3) := (o2 HO.out (o2 HA.out HA2.out)).trans ho3 (fun i hi e => by
        have := HGW.out
        simp [Value.ownBlock] at e
        omega)
      have HR3 := hide hr3
      clear hr3 hk3 ho3
      go_upto_region 6 with (at_builtin; go_must (refine Lib.wpList_append_run _ rfl _ _ _ _ rfl _ _ rfl rfl _ _ HR3.out ?_))
      clear e0 e1 e2 HW HA HT1 HR3
      go_wp2_with fail
      go_roundw
      case rel => exact ⟨j + 1, HLT.out, rfl, by go_num, HK3, HO3⟩
      case measure => have := HLT.out; simp [intOf]; omega
    · have hlk : ¬ (j : Int) < (n : Int) := by omega
      obtain rfl : j = n := by omega
      have HKF : Hid (Kts wr g (.slice (some ⟨g, 0, none⟩) (slG G).length j) (slG G)) := by
        have := HT.out
        rw [List.take_of_length_le (by have := HSL.out; omega)] at this
        rw [HSL.out]
        exact this
      have hsc := sort_comp w wr g g j (slG G) HKF.out HO.out (by have := HGW.out; omega) (by have := HSL.out; omega) HR.out
      rw [HSL.out] at hsc
      have HSC := hide hsc
      clear hsc HT
      go_wp2_with fail
      refine HSC.out.mono ?_
      rintro e w7 ⟨rfl, hcp⟩
      have HCP := hide hcp
      clear hcp
      go_wp2_with fail
      refine HCP.out.mono ?_
      rintro e w8 ⟨B8, ao8, cp8, rfl, hz8, hf8, hb8, ho8⟩
      go_wp2_with fail
      go_ret
      exact ⟨B8, ao8, cp8, rfl, hz8, hf8, hb8, ho8⟩
end Go.Proofs.YtpnbhddmdfcjdaaGreat
