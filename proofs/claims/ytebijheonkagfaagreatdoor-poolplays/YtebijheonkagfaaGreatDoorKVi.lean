/- The document's pool: Set, all ways. -/
import Derived.Test.YtebijheonkagfaaGreatDoorKVg
namespace Go.Proofs.YtebijheonkagfaaGreatDoor
open Go.RowKit
theorem tab_put {P : Pl} {tl : List (Int × Int)} (h : TabIs P tl) (n : Nat) (z : Int) (hn : n < P.pages) (ho : P.ow n = none) (k : Nat) (hk : k ≤ tl.length) (h1 : ∀ j (hj : j < tl.length), j < k → tl[j].1 < (n : Int)) (h2 : k = tl.length ∨ ∃ hk : k < tl.length, ¬ tl[k].1 < (n : Int)) :
    TabIs { P with ow := fun j => if j = n then some z else P.ow j } (tl.take k ++ ([((n : Int), z)] ++ tl.drop k)) := by
  have hne : ∀ q ∈ tl, q.1 ≠ (n : Int) := fun q hq e => by
    obtain ⟨m, hm, hv⟩ := (h.mem q.1 q.2).1 hq; rw [e] at hm
    have : n = m := by omega
    subst this; rw [ho] at hv
    cases hv
  have ha : ∀ q ∈ tl.take k, q.1 < (n : Int) := fun q hq => by
    obtain ⟨j, hj, rfl⟩ := List.getElem_of_mem hq; rw [List.length_take] at hj; rw [List.getElem_take]
    exact h1 j (by omega) (by omega)
  have hb : ∀ q ∈ tl.drop k, (n : Int) < q.1 := fun q hq => by
    obtain ⟨j, hj, rfl⟩ := List.getElem_of_mem hq; rw [List.length_drop] at hj; rw [List.getElem_drop]
    rcases h2 with h2 | ⟨hk', h2⟩
    · omega
    · have hge : tl[k].1 ≤ tl[k + j].1 := by
        rcases Nat.eq_zero_or_pos j with e | e
        · subst e; exact Int.le_refl _
        · exact Int.le_of_lt ((List.pairwise_iff_getElem.1 h.up) k (k + j) hk' (by omega) (by omega))
      have := hne tl[k + j] (List.getElem_mem _)
      omega
  refine ⟨?_, fun m v => ?_, fun m hm => ?_⟩
  · have hp := h.up
    rw [← List.take_append_drop k tl, List.pairwise_append] at hp; rw [List.pairwise_append]; refine ⟨hp.1, ?_, fun q hq r hr => ?_⟩
    · rw [List.singleton_append, List.pairwise_cons]
      exact ⟨fun r hr => hb r hr, hp.2.1⟩
    · rw [List.singleton_append, List.mem_cons] at hr
      rcases hr with rfl | hr
      · exact ha q hq
      · exact hp.2.2 q hq r hr
  · have e : (m, v) ∈ tl.take k ++ ([((n : Int), z)] ++ tl.drop k) ↔ (m, v) = ((n : Int), z) ∨ (m, v) ∈ tl := by
      conv => rhs; rw [← List.take_append_drop k tl]
      simp only [List.mem_append, List.mem_cons, List.not_mem_nil, or_false]
      constructor
      · rintro (h | h | h)
        · exact .inr (.inl h)
        · exact .inl h
        · exact .inr (.inr h)
      · rintro (h | h | h)
        · exact .inr (.inl h)
        · exact .inl h
        · exact .inr (.inr h)
    rw [e, h.mem]
    constructor
    · rintro (h | ⟨q, rfl, hq⟩)
      · injection h with e1 e2
        subst e1 e2
        exact ⟨n, rfl, by simp⟩
      · refine ⟨q, rfl, ?_⟩
        have hqn : ¬ q = n := fun e => by rw [e, ho] at hq; cases hq
        simp only
        rw [if_neg hqn]
        exact hq
    · rintro ⟨q, rfl, hq⟩
      simp only at hq
      by_cases e : q = n
      · subst e
        rw [if_pos rfl] at hq
        injection hq with hq
        exact .inl (by rw [hq])
      · rw [if_neg e] at hq
        exact .inr ⟨q, rfl, hq⟩
  · simp only at hm
    by_cases e : m = n
    · rw [e]; exact hn
    · rw [if_neg e] at hm
      exact h.lt m hm
theorem Prs.take_ {w : World} {B : Nat} {ao : Option Addr} {l : List (Int × Int)} (h : Prs w B ao l) (k : Nat) : Prs w B ao (l.take k) := by
  refine ⟨fun h0 => ?_, fun h0 => h.lt (by rw [List.length_take] at h0; omega), by have := h.len; rw [List.length_take]; omega⟩; rw [List.length_take] at h0; obtain ⟨o, e, hc⟩ := h.at_ (by omega); refine ⟨o, e, fun j hj => ?_⟩; rw [List.length_take] at hj; rw [List.getElem_take]
  exact hc j (by omega)
theorem Prs.drop_ {w : World} {B o : Nat} {l : List (Int × Int)} (h : Prs w B (some ⟨B, o, none⟩) l) (hc : ∀ j (hj : j < l.length), w.cell? ⟨B, o + j * 2, none⟩ = some (.int .i64 l[j].1) ∧ w.cell? ⟨B, o + j * 2 + 1, none⟩ = some (.int .i64 l[j].2)) (k : Nat) : Prs w B (some ⟨B, o + k * 2, none⟩) (l.drop k) := by
  refine ⟨fun h0 => ⟨o + k * 2, rfl, fun j hj => ?_⟩, fun h0 => h.lt (by rw [List.length_drop] at h0; omega), by have := h.len; rw [List.length_drop]; omega⟩; rw [List.length_drop] at hj; rw [List.getElem_drop]; have := hc (k + j) (by omega); rw [show o + k * 2 + j * 2 = o + (k + j) * 2 by omega]
  exact this
theorem tab_len {P : Pl} {L : List (Int × Int)} (h : TabIs P L) : L.length ≤ P.pages := by
  have hin : ∀ j (hj : j < L.length), 0 ≤ L[j].1 ∧ L[j].1 < (P.pages : Int) := fun j hj => by
    obtain ⟨k, hk, hv⟩ := (h.mem L[j].1 L[j].2).1 (List.getElem_mem hj); have := h.lt k (by rw [hv]; rfl)
    omega
  have hge : ∀ j (hj : j < L.length), (j : Int) ≤ L[j].1 := fun j => by
    induction j with
    | zero => intro hj; exact (hin 0 hj).1
    | succ j ih =>
      intro hj; have h1 := ih (by omega); have h2 := (List.pairwise_iff_getElem.1 h.up) j (j + 1) (by omega) hj (by omega)
      omega
  rcases Nat.eq_zero_or_pos L.length with e | e
  · omega
  · have h1 := hge (L.length - 1) (by omega)
    have h2 := (hin (L.length - 1) (by omega)).2
    omega
theorem setC_zero {p : Pg} (h : p.setC = 0) : p.out.2 = 0 ∧ 1 ≤ p.lsn := by
  unfold Pg.setC at h
  by_cases e : p.out.2 = 0
  · rw [if_neg (fun q => q e)] at h
    by_cases e2 : p.lsn < 1
    · rw [if_pos e2] at h; cases h
    · exact ⟨e, by omega⟩
  · rw [if_pos e] at h
    exact absurd h e
set_option maxRecDepth 100000 in
set_option maxHeartbeats 6400000 in
theorem gpset_held (w : World) (p xd a b c ka kb kc x fb cf tb : Nat) (ta : Option Addr) (tc base : Nat) (v8 : Value) (P : Pl) (D : Dk) (G : Lg) (tl : List (Int × Int)) (N : Nat → Prop) (h : Xh w p xd a b c ka kb kc x fb cf tb ta tc base v8 P D G tl N) (hu : P.Ux) (hok : P.Ok) (n pick : Int) (body : Pg) (Bb cb : Nat) (ab : Option Addr) (hS : Strs w Bb ab body.items) (hF : Fit ab body.items.length cb) (hh : body.high.size ≤ 140737488355328) (hl : body.lsn < 9223372036854775808) (h0 : 0 ≤ n) (h1 : n < (P.pages : Int)) (hs : body.setC = 0) (i : Nat) (hi : P.idx n = some i) (R : Wo) (hR : R = ⟨0, P.setAt i n.toNat body, D, G⟩) :
    Calls Tryz.prog 18 #[.pointer (some ⟨p, 0, none⟩), .int .i64 n, .agg #[.int .i64 body.lsn, .int .i64 body.kind, .int .i64 body.level, .int .i64 body.right, .string body.high, .slice ab body.items.length cb], .int .i64 pick] w fun e w' => e = .returned (.int .i64 R.c) ∧ XhR w w' p xd a b c ka kb kc x fb cf base v8 N R := by
  have HX := hide (h.more (onlyA w (.cells #[.int .i64 body.lsn, .int .i64 body.kind, .int .i64 body.level, .int .i64 body.right, .string body.high, .slice ab body.items.length cb] 45))); have HPB := hide (Pag.new w (.int .i64 body.lsn) (.int .i64 body.kind) (.int .i64 body.level) (.int .i64 body.right) (.string body.high) (.slice ab body.items.length cb)); have HSB := hide (hS.more (onlyA w (.cells #[.int .i64 body.lsn, .int .i64 body.kind, .int .i64 body.level, .int .i64 body.right, .string body.high, .slice ab body.items.length cb] 45))); have HRB := hide (h.fresh w.heap.size (Nat.le_refl _)); have HFB := hide hF; have HHI := hide hh; have HLS := hide hl; have HU := hide hu; have HOK := hide hok; obtain ⟨W1, hW1⟩ : ∃ W1, w.alloc (.cells #[.int .i64 body.lsn, .int .i64 body.kind, .int .i64 body.level, .int .i64 body.right, .string body.high, .slice ab body.items.length cb] 45) = W1 := ⟨_, rfl⟩
  have HO1 : Hid (Only (fun k => xown xd a b c k ∨ k = x ∨ k = p ∨ k = fb) w W1) := by unfold Hid; rw [← hW1]; exact Only.alloc _ _ _
  rw [hW1] at HX HPB HSB; have HW1 := hide hW1; have hnp := h.pl.np.2; have HEN := hide (yencode_any W1 body.lsn body.kind body.level body.right body.high Bb cb ab body.items HSB.out hh hl); obtain ⟨so, sl⟩ := setC_zero hs; rw [so] at HEN; have HII := hide hi; have HIL := hide (idx_lt hi).1; have HR := hide hR; have HN1 : Hid (0 ≤ n ∧ n < (P.pages : Int)) := ⟨h0, h1⟩
  have HNN : Hid ((n.toNat : Int) = n) := by unfold Hid; omega
  have HPN : Hid (True → P.pages = P.pages) := fun _ => rfl
  have c3 := (h.more (onlyA w (.cells #[.int .i64 body.lsn, .int .i64 body.kind, .int .i64 body.level, .int .i64 body.right, .string body.high, .slice ab body.items.length cb] 45))).pl.c3; obtain ⟨b0, b1, b2, b3, b4, b5, _⟩ := HPB.out
  have sl' : ¬ body.lsn < 1 := by omega
  clear h hS hF hh hl hs hi hR hu hok hW1 so sl
  go_enter Tryz.func18, Tryz.ntmps18
  go_wp2_with fail
  rw [HW1.out]; clear c3; refine HEN.out.mono ?_; rintro e W2 ⟨rfl, ho2⟩; have HX2 := hide (HX.out.more ho2); have HP2 := hide (HPB.out.more ho2); have HS2 := hide (HSB.out.more ho2); have HO2 := hide (HO1.out.trans ho2 (fun _ _ e => e.elim)); clear ho2 b0 b1 b2 b3 b4 b5; have b0 := HP2.out.c0; have HAT := hide (gpat_any W2 p xd x fb cf tb ta tc P tl N HX2.out.pl n); rw [show P.idx n = some i from HII.out] at HAT; unfold idxI at HAT
  simp only at HAT
  go_wp2_with fail
  refine HAT.out.mono ?_; rintro e w3 ⟨rfl, hw⟩; obtain rfl := hw.symm; clear hw
  have hil : (i : Int) < (P.fs.length : Int) := by have := HIL.out; omega
  have hYn := HX2.out.pl.nf.2; obtain ⟨u0, u1, u2, u3, u4, u5, u6, u7, ⟨e0, e1, e2, e3, e4, e5, e6, e7⟩, ⟨g0, g1, g2, g3, g4, g5, g6, g7⟩⟩ := HX2.out.pl.slots i HIL.out
  have L4 : Hid (∀ W, Only (fun k => k = fb) W2 W → W.cell? ⟨p, 4, none⟩ = some (.slice (some ⟨fb, 0, none⟩) P.fs.length cf)) := fun W hW => (hW.cell (p := ⟨p, 4, none⟩) HX2.out.pl.lt HX2.out.pl.n1).trans HX2.out.pl.c4
  have LV : Hid (∀ W, Only (fun k => k = fb) W2 W → Pag W w.heap.size (.int .i64 body.lsn) (.int .i64 body.kind) (.int .i64 body.level) (.int .i64 body.right) (.string body.high) (.slice ab body.items.length cb)) := fun W hW => HP2.out.kept hW HRB.out.2.1
  have HCO : Hid (∀ W, Only (fun _ => False) W2 W → Calls Tryz.prog 56 #[.agg #[.int .i64 body.lsn, .int .i64 body.kind, .int .i64 body.level, .int .i64 body.right, .string body.high, .slice ab body.items.length cb]] W fun e w' => PgR W w' e body) := fun W hW => gpcopied_any W body Bb cb ab (HS2.out.more hW) HFB.out
  go_upto_region 13 with fail
  refine wp_region_noPanic ?_; refine wp_region_held_drew (S := fun W => Only (fun k => k = fb) W2 W) (by kernel_rfl) (Only.drew _ _) (fun hHeld => ?_); refine tkQ (i := 0) (oi := { dst := some 49, op := Op.move (Operand.tmp 0), type := 39, pos := "ref.go:150", after := #[], guard := none }) (v := .pointer (some ⟨p, 0, none⟩)) rfl (by kernel_rfl) (Or.inl ⟨by rfl, fun w' hSw => by clear hSw; go_simp⟩) (by assumption) ?_; simp only [Act.put, lsA, lsB, lsC]; refine tkQ (i := 4) (oi := { dst := some 53, op := Op.move (Operand.tmp 11), type := 3, pos := "ref.go:150", after := #[], guard := none }) (v := .int .i64 (i : Int)) rfl (by kernel_rfl) (Or.inl ⟨by rfl, fun w' hSw => by clear hSw; go_simp⟩) (by assumption) ?_; simp only [Act.put, lsA, lsB, lsC]; refine tkQ (i := 5) (oi := { dst := some 54, op := Op.move (Operand.tmp 1), type := 3, pos := "ref.go:150", after := #[], guard := none }) (v := .int .i64 n) rfl (by kernel_rfl) (Or.inl ⟨by rfl, fun w' hSw => by clear hSw; go_simp⟩) (by assumption) ?_; simp only [Act.put, lsA, lsB, lsC]; refine tkQ (i := 6) (oi := { dst := some 55, op := Op.load 45 (Operand.tmp 6), type := 45, pos := "ref.go:150", after := #[], guard := none }) (v := .agg #[.int .i64 body.lsn, .int .i64 body.kind, .int .i64 body.level, .int .i64 body.right, .string body.high, .slice ab body.items.length cb]) rfl (by kernel_rfl) (yieldsIf_load_page (by rfl) _ rfl _ rfl (fun W hW => LV.out W hW)) (by assumption) ?_; simp only [Act.put, lsA, lsB, lsC]; refine tkQ (i := 1) (oi := { dst := some 50, op := Op.nilCheck (Operand.tmp 49), type := 0, pos := "ref.go:150", after := #[{ on := 0, ground := Ground.data }], guard := none }) (v := .pointer (some ⟨p, 0, none⟩)) rfl (by kernel_rfl) (Or.inl ⟨by rfl, fun w' hSw => by clear hSw; go_simp⟩) (by assumption) ?_
  simp only [Act.put, lsA, lsB, lsC]; refine tkQ (i := 2) (oi := { dst := some 51, op := Op.fieldAddr 99 (Operand.tmp 50) 4, type := 0, pos := "ref.go:150", after := #[{ on := 1, ground := Ground.data }], guard := none }) (v := .pointer (some ⟨p, 4, none⟩)) rfl (by kernel_rfl) (Or.inl ⟨by rfl, fun w' hSw => by clear hSw; go_simp⟩) (by assumption) ?_; simp only [Act.put, lsA, lsB, lsC]; refine tkQ (i := 3) (oi := { dst := some 52, op := Op.load 97 (Operand.tmp 51), type := 97, pos := "ref.go:150", after := #[{ on := 2, ground := Ground.data }], guard := none }) (v := .slice (some ⟨fb, 0, none⟩) P.fs.length cf) rfl (by kernel_rfl) (yieldsIf_load_cell (by rfl) 97 _ rfl _ rfl (fun W hW => L4.out W hW) (fun W hc => ld_xframes hc)) (by assumption) ?_; simp only [Act.put, lsA, lsB, lsC]; refine wpAnyH_ready (rs := [7]) (by kernel_rfl) (by simp) ?_; refine AllReadyH.cons (o := { dst := some 56, op := Op.call { callee := Callee.value (Operand.func 56), args := #[Operand.tmp 55], argTypes := #[45] }, type := 45, pos := "ref.go:150", after := #[{ on := 6, ground := Ground.data }], guard := none }) rfl (fun K hK => ?_) (AllReadyH.nil)
  go_simp
  refine (HCO.out _ (Only.drew _ _)).mono ?_; rintro e y1 ⟨B6, a6, q6, rfl, hS6, hF6, ho6, hB6⟩; have HY1 := hide (o2 (Only.drew _ W2) ho6); have HA := hide (And.intro hS6 (And.intro hF6 hB6)); have K0 := HX2.out.more HY1.out; obtain ⟨u0, u1, u2, u3, u4, u5, u6, u7, ⟨e0, e1, e2, e3, e4, e5, e6, e7⟩, ⟨g0, g1, g2, g3, g4, g5, g6, g7⟩⟩ := K0.pl.slots i HIL.out; clear hS6 hF6 ho6 hB6 K0; refine hK.out _ _ (HY1.out.mono (fun _ _ e => e.elim)) (fun hHeld => ?_); clear hK K
  try simp only [Act.put, lsA, lsB, lsC]
  refine tkQ (i := 8) (oi := { dst := some 57, op := Op.build 101 #[(0, Operand.tmp 54), (1, Operand.tmp 56), (2, Operand.const (Value.bool true))], type := 101, pos := "ref.go:150", after := #[{ on := 5, ground := Ground.data }, { on := 7, ground := Ground.data }], guard := none }) (v := .agg #[.int .i64 n, .int .i64 body.lsn, .int .i64 body.kind, .int .i64 body.level, .int .i64 body.right, .string body.high, .slice a6 body.items.length q6, .bool true]) rfl (by kernel_rfl) (Or.inl ⟨by rfl, fun w' hSw => by clear hSw; go_simp⟩) (by assumption) ?_; simp only [Act.put, lsA, lsB, lsC]; refine tkQ (i := 9) (oi := { dst := some 58, op := Op.indexAddr 97 (Operand.tmp 52) (Operand.tmp 53), type := 0, pos := "ref.go:150", after := #[{ on := 3, ground := Ground.data }, { on := 4, ground := Ground.data }, { on := 0, ground := Ground.phase }, { on := 1, ground := Ground.phase }, { on := 2, ground := Ground.phase }, { on := 3, ground := Ground.phase }, { on := 4, ground := Ground.phase }, { on := 5, ground := Ground.phase }, { on := 6, ground := Ground.phase }, { on := 7, ground := Ground.phase }, { on := 8, ground := Ground.phase }], guard := none }) (v := .pointer (some ⟨fb, i * 8, none⟩)) rfl (by kernel_rfl) (Or.inl ⟨by rfl, fun w' hSw => by clear hSw; go_simp⟩) (by assumption) ?_; simp only [Act.put, lsA, lsB, lsC]; refine wpAnyH_ready (rs := [10]) (by kernel_rfl) (by simp) ?_; refine AllReadyH.cons (o := { dst := none, op := Op.store 101 (Operand.tmp 58) (Operand.tmp 57), type := 0, pos := "ref.go:150", after := #[{ on := 9, ground := Ground.data }, { on := 8, ground := Ground.data }, { on := 7, ground := Ground.chain }, { on := 0, ground := Ground.phase }, { on := 1, ground := Ground.phase }, { on := 2, ground := Ground.phase }, { on := 3, ground := Ground.phase }, { on := 4, ground := Ground.phase }, { on := 5, ground := Ground.phase }, { on := 6, ground := Ground.phase }, { on := 7, ground := Ground.phase }, { on := 8, ground := Ground.phase }], guard := none }) rfl (fun K hK => ?_) (AllReadyH.nil)
  go_simp
  refine hK.out _ _ ((HY1.out.mono (T := fun k => k = fb) (fun _ _ e => e.elim)).trans (only_eight _ _ _ _ _ _ _ _ _ _ _) (fun _ _ e => e)) (fun hHeld => ?_); clear hK K
  try simp only [Act.put, lsA, lsB, lsC]
  refine wpAnyH_done (by kernel_rfl) ?_ _; refine NoPanic.normal ?_; rw [Exit.then]; have HXY := hide (HX2.out.more HY1.out); obtain ⟨z1, z2⟩ := HXY.out.pl.lay i HIL.out ⟨body, n, true⟩ B6 a6 q6 HA.out.1 HA.out.2.1 (fun h0 => HX2.out.pl.new B6 (HA.out.2.2 h0)) HHI.out HLS.out (.inr ⟨HN1.out.1, by have q1 := HN1.out.2; have q2 := HPN.out trivial; show n < (P.pages : Int); omega⟩); rw [show Fm.xl ⟨body, n, true⟩ a6 q6 = [.int .i64 n, .int .i64 body.lsn, .int .i64 body.kind, .int .i64 body.level, .int .i64 body.right, .string body.high, .slice a6 body.items.length q6, .bool true] from rfl, setCells8] at z1 z2; have H5 := hide (HXY.out.pool (z2.mono (fun _ _ e => .inr e)) z1); have HV5 := hide ((HP2.out.more HY1.out).kept z2 HRB.out.2.1); have HO5 := hide ((HO2.out.trans HY1.out (fun _ _ e => e.elim)).trans z2 (fun _ _ e => .inr (.inr (.inr e)))); clear z1 z2 hHeld e0 e1 e2 e3 e4 e5 e6 e7 g0 g1 g2 g3 g4 g5 g6 g7 hil hYn; obtain ⟨y5, hy5⟩ : ∃ y, (((((((y1.setCell ⟨fb, i * 8, none⟩ (.int .i64 n)).setCell ⟨fb, i * 8 + 1, none⟩ (.int .i64 body.lsn)).setCell ⟨fb, i * 8 + 2, none⟩ (.int .i64 body.kind)).setCell ⟨fb, i * 8 + 3, none⟩ (.int .i64 body.level)).setCell ⟨fb, i * 8 + 4, none⟩ (.int .i64 body.right)).setCell ⟨fb, i * 8 + 5, none⟩ (.string body.high)).setCell ⟨fb, i * 8 + 6, none⟩ (.slice a6 body.items.length q6)).setCell ⟨fb, i * 8 + 7, none⟩ (.bool true) = y := ⟨_, rfl⟩; rw [hy5] at H5 HV5 HO5 ⊢; clear hy5
  go_wp2_with fail
  have hto := (HX2.out.pl.ts.owes n.toNat); rw [HNN.out] at hto; refine (gpowes_any y5 p xd x fb cf tb ta tc _ tl N H5.out.pl n).mono ?_; rintro e y6 ⟨rfl, hw⟩; obtain rfl := hw.symm; clear hw
  by_cases how : (P.ow n.toNat).isSome = true
  · rw [decide_eq_true (hto.1 how)]
    have HRR : Hid (R = ⟨0, P.setF i ⟨body, n, true⟩, D, G⟩) := by
      unfold Hid; rw [HR.out, Pl.setAt, if_pos how, HNN.out]
    clear how hto
    go_wp2_with fail
    go_ret
    exact ⟨by rw [HRR.out]; rfl, by rw [HRR.out]; exact ⟨⟨_, _, _, _, H5.out⟩, HO5.out⟩⟩
  · rw [decide_eq_false (fun e => how (hto.2 e))]
    have HNO : Hid (P.ow n.toNat = none) := by
      unfold Hid
      cases e : P.ow n.toNat with
      | none => rfl
      | some v => rw [e] at how; exact absurd rfl how
    have HRR : Hid (R = ⟨0, { P.setF i ⟨body, n, true⟩ with ow := fun j => if j = n.toNat then some body.lsn else (P.setF i ⟨body, n, true⟩).ow j }, D, G⟩) := by
      unfold Hid; rw [HR.out, Pl.setAt, if_neg how, HNN.out]
      rfl
    clear how hto; have c5 := H5.out.pl.c5; have htm := H5.out.pl.tm; have f5 := H5.out.pl.fz 5; have v0 := HV5.out.c0
    go_wp2_with fail
    go_loop [13] (fun q => ∃ k : Nat, k ≤ tl.length ∧ q = .int .i64 (k : Int) ∧ Hid (∀ j (hj : j < tl.length), j < k → tl[j].1 < n)) (fun q => tl.length - (intOf q).toNat)
    case atStart => exact ⟨0, Nat.zero_le _, rfl, (fun j _ hj => by omega)⟩
    case round =>
      obtain ⟨k, hk, rfl, HQ⟩ := hrel
      by_cases hgo : ∃ hlt : k < tl.length, tl[k].1 < n
      · obtain ⟨hlt, hz⟩ := hgo
        obtain ⟨o, rfl, hc⟩ := H5.out.pl.tab.at_ (by omega); obtain ⟨d1, _⟩ := hc k hlt
        have hkl : (k : Int) < (tl.length : Int) := by omega
        have HZ := hide hz; obtain ⟨z, hze⟩ : ∃ z, tl[k].1 = z := ⟨_, rfl⟩; rw [hze] at d1 hz; have HZE := hide hze; clear hc hze
        go_wp2_with fail
        go_round
        case rel =>
          refine ⟨k + 1, by omega, by go_num, ?_⟩; intro j hj hjk
          by_cases ej : j = k
          · subst ej; exact HZ.out
          · exact HQ.out j hj (by omega)
        case measure => simp [intOf]; omega
      · have HST : Hid (k = tl.length ∨ ∃ hk : k < tl.length, ¬ tl[k].1 < n) := by
          by_cases hlt : k < tl.length
          · exact .inr ⟨hlt, fun e => hgo ⟨hlt, e⟩⟩
          · exact .inl (by omega)
        have HTP := hide (tab_put (P := P.setF i ⟨body, n, true⟩) H5.out.pl.ts n.toNat body.lsn (by have q1 := HN1.out; have q2 := HPN.out trivial; show n.toNat < P.pages; omega) HNO.out k hk (fun j hj hjk => by rw [HNN.out]; exact HQ.out j hj hjk) (by rw [HNN.out]; exact HST.out)); rw [HNN.out] at HTP
        cases ta with
        | some ad =>
          have hfit := H5.out.pl.tft
          have htk : (tl.take k).length = k := by rw [List.length_take]; omega
          obtain ⟨v1, w1, r1, ow1, on1, bl1⟩ := orow_append (ORow.nil y5 y5.heap.size) (H5.out.pl.tab.take_ k) (c := tc) ⟨hfit.nil, by rw [htk]; have := hfit.le; omega, hfit.big⟩ (by rw [htk]; simpa using by omega) (Nat.le_refl _); rw [htk] at r1; rw [List.nil_append] at ow1; have on1' : Only (fun _ => False) y5 w1 := on1.mono (fun _ _ e => by cases e); obtain ⟨v2, w2, r2, ow2, on2⟩ := append_owed w1 56 y5.heap.size v1 (tl.take k) ow1 (n, body.lsn) (by rw [htk]; omega) on1'.size; have on2' : Only (fun _ => False) y5 w2 := on1'.trans on2 (fun i hi e => by omega); have HX6 := hide (H5.out.more on2'); obtain ⟨A3, hA3⟩ : ∃ A : Option Addr, A = (if tc = k then some ad else some (ad.add (k * 2))) := ⟨_, rfl⟩
          have hp3 : Prs w2 tb A3 (tl.drop k) ∧ Fit A3 (tl.drop k).length (tc - k) := by
            have hle := hfit.le; refine ⟨?_, ⟨(fun e => by rw [hA3] at e; split at e <;> cases e), by rw [List.length_drop]; omega, by have := hfit.big; omega⟩⟩
            by_cases hkl : k < tl.length
            · obtain ⟨o, ho_, hc⟩ := HX6.out.pl.tab.at_ (by omega)
              injection ho_ with ho_
              subst ho_; rw [hA3, if_neg (by omega), add_at]
              exact HX6.out.pl.tab.drop_ hc k
            · rw [List.drop_of_length_le (by omega)]
              exact Prs.nil _ _ _
          obtain ⟨v3, w3, r3, ow3, on3, bl3⟩ := orow_append ow2 hp3.1 hp3.2 (by rw [List.length_append, htk, List.length_drop]; simp; omega) on2'.size; rw [List.length_drop] at r3; rw [List.append_assoc] at ow3
          have hbl2 : ∀ q, v2.ownBlock = some q → y5.heap.size ≤ q := fun q hq => (World.ownsRow.lt ow2 q hq).1
          have on3' : Only (fun _ => False) y5 w3 := on2'.trans on3 (fun i hi e => by have := hbl2 i e.symm; omega); obtain ⟨a1, n1, k1, rfl⟩ := own_slice2 ow1; obtain ⟨a2, n2, k2, rfl⟩ := own_slice2 ow2; obtain ⟨a3, n3, k3, rfl⟩ := own_slice2 ow3; have R1 := hide r1; have R2 := hide r2; have R3 := hide r3
          have hkt : (k : Int) ≤ (tc : Int) := by have := hfit.le; omega
          have hklen : (k : Int) ≤ (tl.length : Int) := by omega
          have hA3' := hA3.symm; have HFIN := hide (fun (W : World) (hW : W = w3) => (H5.out.more on3').pl.table (base := y5.heap.size) ow3 H5.out.pl.new (Nat.le_trans (tab_len HTP.out) H5.out.pl.np.2) HTP.out); have HO3 := hide on3'; have e5 := (H5.out.more on3').pl.c5; have g5 := (H5.out.more on3').pl.fz 5; have x5 := HX6.out.pl.c5; have w5 := (H5.out.more on1').pl.c5; have vb0 := (HV5.out.more on1').c0
          rcases HST.out with hse | ⟨hlt, hz⟩
          · have hcond : ¬ (k : Int) < (tl.length : Int) := by omega
            clear hse; clear hA3 r1 r2 r3 ow1 ow2 ow3 on1 on2 on3 on1' on2' on3' bl1 bl3 hp3 hbl2 htk hfit hk hgo
            go_upto_region 20 with (at_builtin; refine Lib.wpList_append_run _ rfl (.tmp 84) (.tmp 90) _ _ rfl _ _ rfl rfl _ _ R1.out ?_)
            go_upto_region 21 with (at_builtin; refine Lib.wpList_append_run _ rfl (.tmp 92) (.tmp 97) _ _ rfl _ _ rfl rfl _ _ R2.out ?_)
            go_wp2_with (at_builtin; refine Lib.wpList_append_run _ rfl (.tmp 100) (.tmp 106) _ _ rfl _ _ rfl rfl _ _ R3.out ?_)
            go_ret
            obtain ⟨tb', ta', tc', _, z1, z2⟩ := HFIN.out w3 rfl; have q1 := (H5.out.more HO3.out).pool (z2.mono (fun _ _ e => .inl e)) z1; have q2 := (HO5.out.trans HO3.out (fun _ _ e => e.elim)).trans z2 (fun _ _ e => .inr (.inr (.inl e))); refine ⟨by rw [HRR.out]; rfl, ?_⟩; rw [HRR.out]
            exact ⟨⟨tb', ta', tc', tl.take k ++ ([(n, body.lsn)] ++ tl.drop k), q1⟩, q2⟩
          · obtain ⟨o, ho_, hc⟩ := H5.out.pl.tab.at_ (by omega)
            injection ho_ with ho_
            subst ho_; rw [add_at] at hA3'; obtain ⟨d1, d2⟩ := hc k hlt; clear d2
            have hkl : (k : Int) < (tl.length : Int) := by omega
            obtain ⟨z, hze⟩ : ∃ z, tl[k].1 = z := ⟨_, rfl⟩; rw [hze] at d1 hz; clear hc hze hlt; clear hA3 r1 r2 r3 ow1 ow2 ow3 on1 on2 on3 on1' on2' on3' bl1 bl3 hp3 hbl2 htk hfit hk hgo
            go_upto_region 20 with (at_builtin; refine Lib.wpList_append_run _ rfl (.tmp 84) (.tmp 90) _ _ rfl _ _ rfl rfl _ _ R1.out ?_)
            go_upto_region 21 with (at_builtin; refine Lib.wpList_append_run _ rfl (.tmp 92) (.tmp 97) _ _ rfl _ _ rfl rfl _ _ R2.out ?_)
            go_wp2_with (at_builtin; refine Lib.wpList_append_run _ rfl (.tmp 100) (.tmp 106) _ _ rfl _ _ rfl rfl _ _ R3.out ?_)
            go_ret
            obtain ⟨tb', ta', tc', _, z1, z2⟩ := HFIN.out w3 rfl
            exact ⟨by rw [HRR.out]; rfl, by rw [HRR.out]; exact ⟨⟨_, _, _, _, (H5.out.more HO3.out).pool (z2.mono (fun _ _ e => .inl e)) z1⟩, (HO5.out.trans HO3.out (fun _ _ e => e.elim)).trans z2 (fun _ _ e => .inr (.inr (.inl e)))⟩⟩
        | none =>
          have hfit := H5.out.pl.tft; have htc : tc = 0 := hfit.nil rfl; have htl : tl = [] := List.eq_nil_of_length_eq_zero (by have := hfit.le; omega); subst htc; subst htl
          have hk0 : k = 0 := by simpa using hk
          subst hk0; have hTP := HTP.out; simp only [List.take_nil, List.drop_nil, List.nil_append, List.append_nil] at hTP; obtain ⟨v1, w1, r1, ow1, on1, bl1⟩ := orow_append (ORow.nil y5 y5.heap.size) (Prs.nil y5 0 none) (c := 0) ⟨fun _ => rfl, by simp, by simp [maxLen]⟩ (by simp) (Nat.le_refl _); rw [List.nil_append] at ow1; have on1' : Only (fun _ => False) y5 w1 := on1.mono (fun _ _ e => by cases e); obtain ⟨v2, w2, r2, ow2, on2⟩ := append_owed w1 56 y5.heap.size v1 [] ow1 (n, body.lsn) (by simp) on1'.size; have on2' : Only (fun _ => False) y5 w2 := on1'.trans on2 (fun i hi e => by omega); obtain ⟨v3, w3, r3, ow3, on3, bl3⟩ := orow_append ow2 (Prs.nil w2 0 none) (c := 0) ⟨fun _ => rfl, by simp, by simp [maxLen]⟩ (by simp) on2'.size; rw [List.append_nil, List.nil_append] at ow3
          have hbl2 : ∀ q, v2.ownBlock = some q → y5.heap.size ≤ q := fun q hq => (World.ownsRow.lt ow2 q hq).1
          have on3' : Only (fun _ => False) y5 w3 := on2'.trans on3 (fun i hi e => by have := hbl2 i e.symm; omega); obtain ⟨a1, n1, k1, rfl⟩ := own_slice2 ow1; obtain ⟨a2, n2, k2, rfl⟩ := own_slice2 ow2; obtain ⟨a3, n3, k3, rfl⟩ := own_slice2 ow3; have R1 := hide r1; have R2 := hide r2; have R3 := hide r3; have HFIN := hide (fun (W : World) (hW : W = w3) => (H5.out.more on3').pl.table (base := y5.heap.size) ow3 H5.out.pl.new (by simp) hTP); have HO3 := hide on3'; have e5 := (H5.out.more on3').pl.c5; have g5 := (H5.out.more on3').pl.fz 5; have x5 := (H5.out.more on2').pl.c5; have w5 := (H5.out.more on1').pl.c5; have vb0 := (HV5.out.more on1').c0; clear hTP r1 r2 r3 ow1 ow2 ow3 on1 on2 on3 on1' on2' on3' bl1 bl3 hbl2 hfit hk hgo
          go_upto_region 20 with (at_builtin; refine Lib.wpList_append_run _ rfl (.tmp 84) (.tmp 90) _ _ rfl _ _ rfl rfl _ _ R1.out ?_)
          go_upto_region 21 with (at_builtin; refine Lib.wpList_append_run _ rfl (.tmp 92) (.tmp 97) _ _ rfl _ _ rfl rfl _ _ R2.out ?_)
          go_wp2_with (at_builtin; refine Lib.wpList_append_run _ rfl (.tmp 100) (.tmp 106) _ _ rfl _ _ rfl rfl _ _ R3.out ?_)
          go_ret
          obtain ⟨tb', ta', tc', _, z1, z2⟩ := HFIN.out w3 rfl; have q1 := (H5.out.more HO3.out).pool (z2.mono (fun _ _ e => .inl e)) z1; have q2 := (HO5.out.trans HO3.out (fun _ _ e => e.elim)).trans z2 (fun _ _ e => .inr (.inr (.inl e))); refine ⟨by rw [HRR.out]; rfl, ?_⟩; rw [HRR.out]
          exact ⟨⟨tb', ta', tc', [(n, body.lsn)], q1⟩, q2⟩
set_option maxRecDepth 100000 in
set_option maxHeartbeats 6400000 in
theorem gpset_take (w : World) (p xd a b c ka kb kc x fb cf tb : Nat) (ta : Option Addr) (tc base : Nat) (v8 : Value) (P : Pl) (D : Dk) (G : Lg) (tl : List (Int × Int)) (N : Nat → Prop) (h : Xh w p xd a b c ka kb kc x fb cf tb ta tc base v8 P D G tl N) (hu : P.Ux) (hok : P.Ok) (n pick : Int) (body : Pg) (Bb cb : Nat) (ab : Option Addr) (hS : Strs w Bb ab body.items) (hF : Fit ab body.items.length cb) (hh : body.high.size ≤ 140737488355328) (hl : body.lsn < 9223372036854775808) (h0 : 0 ≤ n) (h1 : n < (P.pages : Int)) (hs : body.setC = 0) (hi : P.idx n = none) (hB : 0 < body.items.length → ¬ (xown xd a b c Bb ∨ Bb = x ∨ Bb = p ∨ Bb = fb)) (R : Wo) (hR : R = match (P.take D G pick).2 with | some i => ⟨0, (P.take D G pick).1.P.setAt i n.toNat body, (P.take D G pick).1.D, (P.take D G pick).1.G⟩ | none => (P.take D G pick).1) :
    Calls Tryz.prog 18 #[.pointer (some ⟨p, 0, none⟩), .int .i64 n, .agg #[.int .i64 body.lsn, .int .i64 body.kind, .int .i64 body.level, .int .i64 body.right, .string body.high, .slice ab body.items.length cb], .int .i64 pick] w fun e w' => e = .returned (.int .i64 R.c) ∧ XhR w w' p xd a b c ka kb kc x fb cf base v8 N R := by
  have HX := hide (h.more (onlyA w (.cells #[.int .i64 body.lsn, .int .i64 body.kind, .int .i64 body.level, .int .i64 body.right, .string body.high, .slice ab body.items.length cb] 45))); have HPB := hide (Pag.new w (.int .i64 body.lsn) (.int .i64 body.kind) (.int .i64 body.level) (.int .i64 body.right) (.string body.high) (.slice ab body.items.length cb)); have HSB := hide (hS.more (onlyA w (.cells #[.int .i64 body.lsn, .int .i64 body.kind, .int .i64 body.level, .int .i64 body.right, .string body.high, .slice ab body.items.length cb] 45))); have HRB := hide (h.fresh w.heap.size (Nat.le_refl _)); have HFB := hide hF; have HHI := hide hh; have HLS := hide hl; have HU := hide hu; have HOK := hide hok; obtain ⟨W1, hW1⟩ : ∃ W1, w.alloc (.cells #[.int .i64 body.lsn, .int .i64 body.kind, .int .i64 body.level, .int .i64 body.right, .string body.high, .slice ab body.items.length cb] 45) = W1 := ⟨_, rfl⟩
  have HO1 : Hid (Only (fun k => xown xd a b c k ∨ k = x ∨ k = p ∨ k = fb) w W1) := by unfold Hid; rw [← hW1]; exact Only.alloc _ _ _
  rw [hW1] at HX HPB HSB; have HW1 := hide hW1; have hnp := h.pl.np.2; have HEN := hide (yencode_any W1 body.lsn body.kind body.level body.right body.high Bb cb ab body.items HSB.out hh hl); obtain ⟨so, sl⟩ := setC_zero hs; rw [so] at HEN; have HII := hide hi; have HBB := hide hB; have HTS := hide (fun i => take_some (P := P) (D := D) (G := G) (pick := pick) (i := i) h.pl.nf.1); have HTN := hide (take_none (P := P) (D := D) (G := G) (pick := pick)); obtain ⟨Y, hY⟩ : ∃ Y, P.take D G pick = Y := ⟨_, rfl⟩; rw [hY] at HTS HTN hR; have HY := hide hY; have HN1 : Hid (0 ≤ n ∧ n < (P.pages : Int)) := ⟨h0, h1⟩
  have HNN : Hid ((n.toNat : Int) = n) := by unfold Hid; omega
  have c3 := (h.more (onlyA w (.cells #[.int .i64 body.lsn, .int .i64 body.kind, .int .i64 body.level, .int .i64 body.right, .string body.high, .slice ab body.items.length cb] 45))).pl.c3; obtain ⟨b0, b1, b2, b3, b4, b5, _⟩ := HPB.out
  have sl' : ¬ body.lsn < 1 := by omega
  have HRT := hide hR; clear h hS hF hh hl hs hi hR hu hok hW1 so sl hY hB
  go_enter Tryz.func18, Tryz.ntmps18
  go_wp2_with fail
  rw [HW1.out]; clear c3; refine HEN.out.mono ?_; rintro e W2 ⟨rfl, ho2⟩; have HX2 := hide (HX.out.more ho2); have HP2 := hide (HPB.out.more ho2); have HS2 := hide (HSB.out.more ho2); have HO2 := hide (HO1.out.trans ho2 (fun _ _ e => e.elim)); clear ho2 b0 b1 b2 b3 b4 b5; have b0 := HP2.out.c0; have HAT := hide (gpat_any W2 p xd x fb cf tb ta tc P tl N HX2.out.pl n); rw [HII.out] at HAT; unfold idxI at HAT
  simp only at HAT
  have HTK := hide (gptake_any W2 p xd a b c ka kb kc x fb cf tb ta tc base v8 P D G tl N HX2.out HU.out HOK.out pick); rw [HY.out] at HTK
  go_wp2_with fail
  refine HAT.out.mono ?_; rintro e w3 ⟨rfl, hw⟩; obtain rfl := hw.symm; clear hw
  go_wp2_with fail
  refine HTK.out.mono ?_; rintro e y4 ⟨rfl, ⟨tb4, ta4, tc4, tl4, hx4⟩, ho4⟩; have HX4 := hide hx4; have HP4 := hide (HP2.out.kept ho4 (fun e => by rcases e with e | e | e | e; exact HRB.out.2.2.1 e; exact HRB.out.2.2.2.1 e; exact HRB.out.1 e; exact HRB.out.2.1 e)); have HS4 := hide (HS2.out.kept ho4 (fun h0 => HBB.out h0)); have HO4 := hide (HO2.out.trans ho4 (fun _ _ e => e)); clear hx4 ho4 b0
  by_cases hy : Y.1.c = 0
  · have hy' : (Y.1.c != 0) = false := by simp [hy]
    obtain ⟨i, hYi⟩ : ∃ i, Y.2 = some i := by
      cases e : Y.2 with
      | some i => exact ⟨i, rfl⟩
      | none => exact absurd hy (HTN.out e)
    have hty := HTS.out i hYi; have HIL := hide hty.2.1
    have HPN : Hid (True → Y.1.P.pages = P.pages) := fun _ => hty.2.2
    have hHR := HRT.out; rw [hYi] at hHR
    simp only at hHR
    have HR := hide hHR; rw [hYi]; unfold tkI
    simp only
    clear hy hYi hty hHR
    have hil : (i : Int) < (Y.1.P.fs.length : Int) := by have := HIL.out; omega
    have hYn := HX4.out.pl.nf.2; obtain ⟨u0, u1, u2, u3, u4, u5, u6, u7, ⟨e0, e1, e2, e3, e4, e5, e6, e7⟩, ⟨g0, g1, g2, g3, g4, g5, g6, g7⟩⟩ := HX4.out.pl.slots i HIL.out
    have L4 : Hid (∀ W, Only (fun k => k = fb) y4 W → W.cell? ⟨p, 4, none⟩ = some (.slice (some ⟨fb, 0, none⟩) Y.1.P.fs.length cf)) := fun W hW => (hW.cell (p := ⟨p, 4, none⟩) HX4.out.pl.lt HX4.out.pl.n1).trans HX4.out.pl.c4
    have LV : Hid (∀ W, Only (fun k => k = fb) y4 W → Pag W w.heap.size (.int .i64 body.lsn) (.int .i64 body.kind) (.int .i64 body.level) (.int .i64 body.right) (.string body.high) (.slice ab body.items.length cb)) := fun W hW => HP4.out.kept hW HRB.out.2.1
    have HCO : Hid (∀ W, Only (fun _ => False) y4 W → Calls Tryz.prog 56 #[.agg #[.int .i64 body.lsn, .int .i64 body.kind, .int .i64 body.level, .int .i64 body.right, .string body.high, .slice ab body.items.length cb]] W fun e w' => PgR W w' e body) := fun W hW => gpcopied_any W body Bb cb ab (HS4.out.more hW) HFB.out
    go_upto_region 13 with fail
    refine wp_region_noPanic ?_; refine wp_region_held_drew (S := fun W => Only (fun k => k = fb) y4 W) (by kernel_rfl) (Only.drew _ _) (fun hHeld => ?_); refine tkQ (i := 0) (oi := { dst := some 49, op := Op.move (Operand.tmp 0), type := 39, pos := "ref.go:150", after := #[], guard := none }) (v := .pointer (some ⟨p, 0, none⟩)) rfl (by kernel_rfl) (Or.inl ⟨by rfl, fun w' hSw => by clear hSw; go_simp⟩) (by assumption) ?_; simp only [Act.put, lsA, lsB, lsC]; refine tkQ (i := 4) (oi := { dst := some 53, op := Op.move (Operand.tmp 11), type := 3, pos := "ref.go:150", after := #[], guard := none }) (v := .int .i64 (i : Int)) rfl (by kernel_rfl) (Or.inl ⟨by rfl, fun w' hSw => by clear hSw; go_simp⟩) (by assumption) ?_; simp only [Act.put, lsA, lsB, lsC]; refine tkQ (i := 5) (oi := { dst := some 54, op := Op.move (Operand.tmp 1), type := 3, pos := "ref.go:150", after := #[], guard := none }) (v := .int .i64 n) rfl (by kernel_rfl) (Or.inl ⟨by rfl, fun w' hSw => by clear hSw; go_simp⟩) (by assumption) ?_; simp only [Act.put, lsA, lsB, lsC]; refine tkQ (i := 6) (oi := { dst := some 55, op := Op.load 45 (Operand.tmp 6), type := 45, pos := "ref.go:150", after := #[], guard := none }) (v := .agg #[.int .i64 body.lsn, .int .i64 body.kind, .int .i64 body.level, .int .i64 body.right, .string body.high, .slice ab body.items.length cb]) rfl (by kernel_rfl) (yieldsIf_load_page (by rfl) _ rfl _ rfl (fun W hW => LV.out W hW)) (by assumption) ?_; simp only [Act.put, lsA, lsB, lsC]; refine tkQ (i := 1) (oi := { dst := some 50, op := Op.nilCheck (Operand.tmp 49), type := 0, pos := "ref.go:150", after := #[{ on := 0, ground := Ground.data }], guard := none }) (v := .pointer (some ⟨p, 0, none⟩)) rfl (by kernel_rfl) (Or.inl ⟨by rfl, fun w' hSw => by clear hSw; go_simp⟩) (by assumption) ?_
    simp only [Act.put, lsA, lsB, lsC]; refine tkQ (i := 2) (oi := { dst := some 51, op := Op.fieldAddr 99 (Operand.tmp 50) 4, type := 0, pos := "ref.go:150", after := #[{ on := 1, ground := Ground.data }], guard := none }) (v := .pointer (some ⟨p, 4, none⟩)) rfl (by kernel_rfl) (Or.inl ⟨by rfl, fun w' hSw => by clear hSw; go_simp⟩) (by assumption) ?_; simp only [Act.put, lsA, lsB, lsC]; refine tkQ (i := 3) (oi := { dst := some 52, op := Op.load 97 (Operand.tmp 51), type := 97, pos := "ref.go:150", after := #[{ on := 2, ground := Ground.data }], guard := none }) (v := .slice (some ⟨fb, 0, none⟩) Y.1.P.fs.length cf) rfl (by kernel_rfl) (yieldsIf_load_cell (by rfl) 97 _ rfl _ rfl (fun W hW => L4.out W hW) (fun W hc => ld_xframes hc)) (by assumption) ?_; simp only [Act.put, lsA, lsB, lsC]; refine wpAnyH_ready (rs := [7]) (by kernel_rfl) (by simp) ?_; refine AllReadyH.cons (o := { dst := some 56, op := Op.call { callee := Callee.value (Operand.func 56), args := #[Operand.tmp 55], argTypes := #[45] }, type := 45, pos := "ref.go:150", after := #[{ on := 6, ground := Ground.data }], guard := none }) rfl (fun K hK => ?_) (AllReadyH.nil)
    go_simp
    refine (HCO.out _ (Only.drew _ _)).mono ?_; rintro e y1 ⟨B6, a6, q6, rfl, hS6, hF6, ho6, hB6⟩; have HY1 := hide (o2 (Only.drew _ y4) ho6); have HA := hide (And.intro hS6 (And.intro hF6 hB6)); have K0 := HX4.out.more HY1.out; obtain ⟨u0, u1, u2, u3, u4, u5, u6, u7, ⟨e0, e1, e2, e3, e4, e5, e6, e7⟩, ⟨g0, g1, g2, g3, g4, g5, g6, g7⟩⟩ := K0.pl.slots i HIL.out; clear hS6 hF6 ho6 hB6 K0; refine hK.out _ _ (HY1.out.mono (fun _ _ e => e.elim)) (fun hHeld => ?_); clear hK K
    try simp only [Act.put, lsA, lsB, lsC]
    refine tkQ (i := 8) (oi := { dst := some 57, op := Op.build 101 #[(0, Operand.tmp 54), (1, Operand.tmp 56), (2, Operand.const (Value.bool true))], type := 101, pos := "ref.go:150", after := #[{ on := 5, ground := Ground.data }, { on := 7, ground := Ground.data }], guard := none }) (v := .agg #[.int .i64 n, .int .i64 body.lsn, .int .i64 body.kind, .int .i64 body.level, .int .i64 body.right, .string body.high, .slice a6 body.items.length q6, .bool true]) rfl (by kernel_rfl) (Or.inl ⟨by rfl, fun w' hSw => by clear hSw; go_simp⟩) (by assumption) ?_; simp only [Act.put, lsA, lsB, lsC]; refine tkQ (i := 9) (oi := { dst := some 58, op := Op.indexAddr 97 (Operand.tmp 52) (Operand.tmp 53), type := 0, pos := "ref.go:150", after := #[{ on := 3, ground := Ground.data }, { on := 4, ground := Ground.data }, { on := 0, ground := Ground.phase }, { on := 1, ground := Ground.phase }, { on := 2, ground := Ground.phase }, { on := 3, ground := Ground.phase }, { on := 4, ground := Ground.phase }, { on := 5, ground := Ground.phase }, { on := 6, ground := Ground.phase }, { on := 7, ground := Ground.phase }, { on := 8, ground := Ground.phase }], guard := none }) (v := .pointer (some ⟨fb, i * 8, none⟩)) rfl (by kernel_rfl) (Or.inl ⟨by rfl, fun w' hSw => by clear hSw; go_simp⟩) (by assumption) ?_; simp only [Act.put, lsA, lsB, lsC]; refine wpAnyH_ready (rs := [10]) (by kernel_rfl) (by simp) ?_; refine AllReadyH.cons (o := { dst := none, op := Op.store 101 (Operand.tmp 58) (Operand.tmp 57), type := 0, pos := "ref.go:150", after := #[{ on := 9, ground := Ground.data }, { on := 8, ground := Ground.data }, { on := 7, ground := Ground.chain }, { on := 0, ground := Ground.phase }, { on := 1, ground := Ground.phase }, { on := 2, ground := Ground.phase }, { on := 3, ground := Ground.phase }, { on := 4, ground := Ground.phase }, { on := 5, ground := Ground.phase }, { on := 6, ground := Ground.phase }, { on := 7, ground := Ground.phase }, { on := 8, ground := Ground.phase }], guard := none }) rfl (fun K hK => ?_) (AllReadyH.nil)
    go_simp
    refine hK.out _ _ ((HY1.out.mono (T := fun k => k = fb) (fun _ _ e => e.elim)).trans (only_eight _ _ _ _ _ _ _ _ _ _ _) (fun _ _ e => e)) (fun hHeld => ?_); clear hK K
    try simp only [Act.put, lsA, lsB, lsC]
    refine wpAnyH_done (by kernel_rfl) ?_ _; refine NoPanic.normal ?_; rw [Exit.then]; have HXY := hide (HX4.out.more HY1.out); obtain ⟨z1, z2⟩ := HXY.out.pl.lay i HIL.out ⟨body, n, true⟩ B6 a6 q6 HA.out.1 HA.out.2.1 (fun h0 => HX4.out.pl.new B6 (HA.out.2.2 h0)) HHI.out HLS.out (.inr ⟨HN1.out.1, by have q1 := HN1.out.2; have q2 := HPN.out trivial; show n < (Y.1.P.pages : Int); omega⟩); rw [show Fm.xl ⟨body, n, true⟩ a6 q6 = [.int .i64 n, .int .i64 body.lsn, .int .i64 body.kind, .int .i64 body.level, .int .i64 body.right, .string body.high, .slice a6 body.items.length q6, .bool true] from rfl, setCells8] at z1 z2; have H5 := hide (HXY.out.pool (z2.mono (fun _ _ e => .inr e)) z1); have HV5 := hide ((HP4.out.more HY1.out).kept z2 HRB.out.2.1); have HO5 := hide ((HO4.out.trans HY1.out (fun _ _ e => e.elim)).trans z2 (fun _ _ e => .inr (.inr (.inr e)))); clear z1 z2 hHeld e0 e1 e2 e3 e4 e5 e6 e7 g0 g1 g2 g3 g4 g5 g6 g7 hil hYn; obtain ⟨y5, hy5⟩ : ∃ y, (((((((y1.setCell ⟨fb, i * 8, none⟩ (.int .i64 n)).setCell ⟨fb, i * 8 + 1, none⟩ (.int .i64 body.lsn)).setCell ⟨fb, i * 8 + 2, none⟩ (.int .i64 body.kind)).setCell ⟨fb, i * 8 + 3, none⟩ (.int .i64 body.level)).setCell ⟨fb, i * 8 + 4, none⟩ (.int .i64 body.right)).setCell ⟨fb, i * 8 + 5, none⟩ (.string body.high)).setCell ⟨fb, i * 8 + 6, none⟩ (.slice a6 body.items.length q6)).setCell ⟨fb, i * 8 + 7, none⟩ (.bool true) = y := ⟨_, rfl⟩; rw [hy5] at H5 HV5 HO5 ⊢; clear hy5
    go_wp2_with fail
    have hto := (HX4.out.pl.ts.owes n.toNat); rw [HNN.out] at hto; refine (gpowes_any y5 p xd x fb cf tb4 ta4 tc4 _ tl4 N H5.out.pl n).mono ?_; rintro e y6 ⟨rfl, hw⟩; obtain rfl := hw.symm; clear hw
    by_cases how : (Y.1.P.ow n.toNat).isSome = true
    · rw [decide_eq_true (hto.1 how)]
      have HRR : Hid (R = ⟨0, Y.1.P.setF i ⟨body, n, true⟩, Y.1.D, Y.1.G⟩) := by
        unfold Hid; rw [HR.out, Pl.setAt, if_pos how, HNN.out]
      clear how hto
      go_wp2_with fail
      go_ret
      exact ⟨by rw [HRR.out]; rfl, by rw [HRR.out]; exact ⟨⟨_, _, _, _, H5.out⟩, HO5.out⟩⟩
    · rw [decide_eq_false (fun e => how (hto.2 e))]
      have HNO : Hid (Y.1.P.ow n.toNat = none) := by
        unfold Hid
        cases e : Y.1.P.ow n.toNat with
        | none => rfl
        | some v => rw [e] at how; exact absurd rfl how
      have HRR : Hid (R = ⟨0, { Y.1.P.setF i ⟨body, n, true⟩ with ow := fun j => if j = n.toNat then some body.lsn else (Y.1.P.setF i ⟨body, n, true⟩).ow j }, Y.1.D, Y.1.G⟩) := by
        unfold Hid; rw [HR.out, Pl.setAt, if_neg how, HNN.out]
        rfl
      clear how hto; have c5 := H5.out.pl.c5; have htm := H5.out.pl.tm; have f5 := H5.out.pl.fz 5; have v0 := HV5.out.c0
      go_wp2_with fail
      go_loop [13] (fun q => ∃ k : Nat, k ≤ tl4.length ∧ q = .int .i64 (k : Int) ∧ Hid (∀ j (hj : j < tl4.length), j < k → tl4[j].1 < n)) (fun q => tl4.length - (intOf q).toNat)
      case atStart => exact ⟨0, Nat.zero_le _, rfl, (fun j _ hj => by omega)⟩
      case round =>
        obtain ⟨k, hk, rfl, HQ⟩ := hrel
        by_cases hgo : ∃ hlt : k < tl4.length, tl4[k].1 < n
        · obtain ⟨hlt, hz⟩ := hgo
          obtain ⟨o, rfl, hc⟩ := H5.out.pl.tab.at_ (by omega); obtain ⟨d1, _⟩ := hc k hlt
          have hkl : (k : Int) < (tl4.length : Int) := by omega
          have HZ := hide hz; obtain ⟨z, hze⟩ : ∃ z, tl4[k].1 = z := ⟨_, rfl⟩; rw [hze] at d1 hz; have HZE := hide hze; clear hc hze
          go_wp2_with fail
          go_round
          case rel =>
            refine ⟨k + 1, by omega, by go_num, ?_⟩; intro j hj hjk
            by_cases ej : j = k
            · subst ej; exact HZ.out
            · exact HQ.out j hj (by omega)
          case measure => simp [intOf]; omega
        · have HST : Hid (k = tl4.length ∨ ∃ hk : k < tl4.length, ¬ tl4[k].1 < n) := by
            by_cases hlt : k < tl4.length
            · exact .inr ⟨hlt, fun e => hgo ⟨hlt, e⟩⟩
            · exact .inl (by omega)
          have HTP := hide (tab_put (P := Y.1.P.setF i ⟨body, n, true⟩) H5.out.pl.ts n.toNat body.lsn (by have q1 := HN1.out; have q2 := HPN.out trivial; show n.toNat < Y.1.P.pages; omega) HNO.out k hk (fun j hj hjk => by rw [HNN.out]; exact HQ.out j hj hjk) (by rw [HNN.out]; exact HST.out)); rw [HNN.out] at HTP
          cases ta4 with
          | some ad =>
            have hfit := H5.out.pl.tft
            have htk : (tl4.take k).length = k := by rw [List.length_take]; omega
            obtain ⟨v1, w1, r1, ow1, on1, bl1⟩ := orow_append (ORow.nil y5 y5.heap.size) (H5.out.pl.tab.take_ k) (c := tc4) ⟨hfit.nil, by rw [htk]; have := hfit.le; omega, hfit.big⟩ (by rw [htk]; simpa using by omega) (Nat.le_refl _); rw [htk] at r1; rw [List.nil_append] at ow1; have on1' : Only (fun _ => False) y5 w1 := on1.mono (fun _ _ e => by cases e); obtain ⟨v2, w2, r2, ow2, on2⟩ := append_owed w1 56 y5.heap.size v1 (tl4.take k) ow1 (n, body.lsn) (by rw [htk]; omega) on1'.size; have on2' : Only (fun _ => False) y5 w2 := on1'.trans on2 (fun i hi e => by omega); have HX6 := hide (H5.out.more on2'); obtain ⟨A3, hA3⟩ : ∃ A : Option Addr, A = (if tc4 = k then some ad else some (ad.add (k * 2))) := ⟨_, rfl⟩
            have hp3 : Prs w2 tb4 A3 (tl4.drop k) ∧ Fit A3 (tl4.drop k).length (tc4 - k) := by
              have hle := hfit.le; refine ⟨?_, ⟨(fun e => by rw [hA3] at e; split at e <;> cases e), by rw [List.length_drop]; omega, by have := hfit.big; omega⟩⟩
              by_cases hkl : k < tl4.length
              · obtain ⟨o, ho_, hc⟩ := HX6.out.pl.tab.at_ (by omega)
                injection ho_ with ho_
                subst ho_; rw [hA3, if_neg (by omega), add_at]
                exact HX6.out.pl.tab.drop_ hc k
              · rw [List.drop_of_length_le (by omega)]
                exact Prs.nil _ _ _
            obtain ⟨v3, w3, r3, ow3, on3, bl3⟩ := orow_append ow2 hp3.1 hp3.2 (by rw [List.length_append, htk, List.length_drop]; simp; omega) on2'.size; rw [List.length_drop] at r3; rw [List.append_assoc] at ow3
            have hbl2 : ∀ q, v2.ownBlock = some q → y5.heap.size ≤ q := fun q hq => (World.ownsRow.lt ow2 q hq).1
            have on3' : Only (fun _ => False) y5 w3 := on2'.trans on3 (fun i hi e => by have := hbl2 i e.symm; omega); obtain ⟨a1, n1, k1, rfl⟩ := own_slice2 ow1; obtain ⟨a2, n2, k2, rfl⟩ := own_slice2 ow2; obtain ⟨a3, n3, k3, rfl⟩ := own_slice2 ow3; have R1 := hide r1; have R2 := hide r2; have R3 := hide r3
            have hkt : (k : Int) ≤ (tc4 : Int) := by have := hfit.le; omega
            have hklen : (k : Int) ≤ (tl4.length : Int) := by omega
            have hA3' := hA3.symm; have HFIN := hide (fun (W : World) (hW : W = w3) => (H5.out.more on3').pl.table (base := y5.heap.size) ow3 H5.out.pl.new (Nat.le_trans (tab_len HTP.out) H5.out.pl.np.2) HTP.out); have HO3 := hide on3'; have e5 := (H5.out.more on3').pl.c5; have g5 := (H5.out.more on3').pl.fz 5; have x5 := HX6.out.pl.c5; have w5 := (H5.out.more on1').pl.c5; have vb0 := (HV5.out.more on1').c0
            rcases HST.out with hse | ⟨hlt, hz⟩
            · have hcond : ¬ (k : Int) < (tl4.length : Int) := by omega
              clear hse; clear hA3 r1 r2 r3 ow1 ow2 ow3 on1 on2 on3 on1' on2' on3' bl1 bl3 hp3 hbl2 htk hfit hk hgo
              go_upto_region 20 with (at_builtin; refine Lib.wpList_append_run _ rfl (.tmp 84) (.tmp 90) _ _ rfl _ _ rfl rfl _ _ R1.out ?_)
              go_upto_region 21 with (at_builtin; refine Lib.wpList_append_run _ rfl (.tmp 92) (.tmp 97) _ _ rfl _ _ rfl rfl _ _ R2.out ?_)
              go_wp2_with (at_builtin; refine Lib.wpList_append_run _ rfl (.tmp 100) (.tmp 106) _ _ rfl _ _ rfl rfl _ _ R3.out ?_)
              go_ret
              obtain ⟨tb', ta', tc', _, z1, z2⟩ := HFIN.out w3 rfl; have q1 := (H5.out.more HO3.out).pool (z2.mono (fun _ _ e => .inl e)) z1; have q2 := (HO5.out.trans HO3.out (fun _ _ e => e.elim)).trans z2 (fun _ _ e => .inr (.inr (.inl e))); refine ⟨by rw [HRR.out]; rfl, ?_⟩; rw [HRR.out]
              exact ⟨⟨tb', ta', tc', tl4.take k ++ ([(n, body.lsn)] ++ tl4.drop k), q1⟩, q2⟩
            · obtain ⟨o, ho_, hc⟩ := H5.out.pl.tab.at_ (by omega)
              injection ho_ with ho_
              subst ho_; rw [add_at] at hA3'; obtain ⟨d1, d2⟩ := hc k hlt; clear d2
              have hkl : (k : Int) < (tl4.length : Int) := by omega
              obtain ⟨z, hze⟩ : ∃ z, tl4[k].1 = z := ⟨_, rfl⟩; rw [hze] at d1 hz; clear hc hze hlt; clear hA3 r1 r2 r3 ow1 ow2 ow3 on1 on2 on3 on1' on2' on3' bl1 bl3 hp3 hbl2 htk hfit hk hgo
              go_upto_region 20 with (at_builtin; refine Lib.wpList_append_run _ rfl (.tmp 84) (.tmp 90) _ _ rfl _ _ rfl rfl _ _ R1.out ?_)
              go_upto_region 21 with (at_builtin; refine Lib.wpList_append_run _ rfl (.tmp 92) (.tmp 97) _ _ rfl _ _ rfl rfl _ _ R2.out ?_)
              go_wp2_with (at_builtin; refine Lib.wpList_append_run _ rfl (.tmp 100) (.tmp 106) _ _ rfl _ _ rfl rfl _ _ R3.out ?_)
              go_ret
              obtain ⟨tb', ta', tc', _, z1, z2⟩ := HFIN.out w3 rfl
              exact ⟨by rw [HRR.out]; rfl, by rw [HRR.out]; exact ⟨⟨_, _, _, _, (H5.out.more HO3.out).pool (z2.mono (fun _ _ e => .inl e)) z1⟩, (HO5.out.trans HO3.out (fun _ _ e => e.elim)).trans z2 (fun _ _ e => .inr (.inr (.inl e)))⟩⟩
          | none =>
            have hfit := H5.out.pl.tft; have htc : tc4 = 0 := hfit.nil rfl; have htl : tl4 = [] := List.eq_nil_of_length_eq_zero (by have := hfit.le; omega); subst htc; subst htl
            have hk0 : k = 0 := by simpa using hk
            subst hk0; have hTP := HTP.out; simp only [List.take_nil, List.drop_nil, List.nil_append, List.append_nil] at hTP; obtain ⟨v1, w1, r1, ow1, on1, bl1⟩ := orow_append (ORow.nil y5 y5.heap.size) (Prs.nil y5 0 none) (c := 0) ⟨fun _ => rfl, by simp, by simp [maxLen]⟩ (by simp) (Nat.le_refl _); rw [List.nil_append] at ow1; have on1' : Only (fun _ => False) y5 w1 := on1.mono (fun _ _ e => by cases e); obtain ⟨v2, w2, r2, ow2, on2⟩ := append_owed w1 56 y5.heap.size v1 [] ow1 (n, body.lsn) (by simp) on1'.size; have on2' : Only (fun _ => False) y5 w2 := on1'.trans on2 (fun i hi e => by omega); obtain ⟨v3, w3, r3, ow3, on3, bl3⟩ := orow_append ow2 (Prs.nil w2 0 none) (c := 0) ⟨fun _ => rfl, by simp, by simp [maxLen]⟩ (by simp) on2'.size; rw [List.append_nil, List.nil_append] at ow3
            have hbl2 : ∀ q, v2.ownBlock = some q → y5.heap.size ≤ q := fun q hq => (World.ownsRow.lt ow2 q hq).1
            have on3' : Only (fun _ => False) y5 w3 := on2'.trans on3 (fun i hi e => by have := hbl2 i e.symm; omega); obtain ⟨a1, n1, k1, rfl⟩ := own_slice2 ow1; obtain ⟨a2, n2, k2, rfl⟩ := own_slice2 ow2; obtain ⟨a3, n3, k3, rfl⟩ := own_slice2 ow3; have R1 := hide r1; have R2 := hide r2; have R3 := hide r3; have HFIN := hide (fun (W : World) (hW : W = w3) => (H5.out.more on3').pl.table (base := y5.heap.size) ow3 H5.out.pl.new (by simp) hTP); have HO3 := hide on3'; have e5 := (H5.out.more on3').pl.c5; have g5 := (H5.out.more on3').pl.fz 5; have x5 := (H5.out.more on2').pl.c5; have w5 := (H5.out.more on1').pl.c5; have vb0 := (HV5.out.more on1').c0; clear hTP r1 r2 r3 ow1 ow2 ow3 on1 on2 on3 on1' on2' on3' bl1 bl3 hbl2 hfit hk hgo
            go_upto_region 20 with (at_builtin; refine Lib.wpList_append_run _ rfl (.tmp 84) (.tmp 90) _ _ rfl _ _ rfl rfl _ _ R1.out ?_)
            go_upto_region 21 with (at_builtin; refine Lib.wpList_append_run _ rfl (.tmp 92) (.tmp 97) _ _ rfl _ _ rfl rfl _ _ R2.out ?_)
            go_wp2_with (at_builtin; refine Lib.wpList_append_run _ rfl (.tmp 100) (.tmp 106) _ _ rfl _ _ rfl rfl _ _ R3.out ?_)
            go_ret
            obtain ⟨tb', ta', tc', _, z1, z2⟩ := HFIN.out w3 rfl; have q1 := (H5.out.more HO3.out).pool (z2.mono (fun _ _ e => .inl e)) z1; have q2 := (HO5.out.trans HO3.out (fun _ _ e => e.elim)).trans z2 (fun _ _ e => .inr (.inr (.inl e))); refine ⟨by rw [HRR.out]; rfl, ?_⟩; rw [HRR.out]
            exact ⟨⟨tb', ta', tc', [(n, body.lsn)], q1⟩, q2⟩
  · have hy' : (Y.1.c != 0) = true := by simpa using hy
    have hYi : Y.2 = none := by
      cases e : Y.2 with
      | some i => exact absurd (HTS.out i e).1 hy
      | none => rfl
    have hHR := HRT.out; rw [hYi] at hHR
    simp only at hHR
    have HR := hide hHR; rw [hYi]; clear hy hYi hHR
    go_wp2_with fail
    go_ret
    refine ⟨by rw [HR.out]; rfl, ?_⟩; rw [HR.out]
    exact ⟨⟨tb4, ta4, tc4, tl4, HX4.out⟩, HO4.out⟩
set_option maxRecDepth 100000 in
set_option maxHeartbeats 3200000 in
theorem gpset_any (w : World) (p xd a b c ka kb kc x fb cf tb : Nat) (ta : Option Addr) (tc base : Nat) (v8 : Value) (P : Pl) (D : Dk) (G : Lg) (tl : List (Int × Int)) (N : Nat → Prop) (h : Xh w p xd a b c ka kb kc x fb cf tb ta tc base v8 P D G tl N) (hu : P.Ux) (hok : P.Ok) (n pick : Int) (body : Pg) (Bb cb : Nat) (ab : Option Addr) (hS : Strs w Bb ab body.items) (hF : Fit ab body.items.length cb) (hh : body.high.size ≤ 140737488355328) (hl : body.lsn < 9223372036854775808) (hB : 0 < body.items.length → ¬ (xown xd a b c Bb ∨ Bb = x ∨ Bb = p ∨ Bb = fb)) :
    Calls Tryz.prog 18 #[.pointer (some ⟨p, 0, none⟩), .int .i64 n, .agg #[.int .i64 body.lsn, .int .i64 body.kind, .int .i64 body.level, .int .i64 body.right, .string body.high, .slice ab body.items.length cb], .int .i64 pick] w fun e w' => e = .returned (.int .i64 (P.set D G n body pick).c) ∧ XhR w w' p xd a b c ka kb kc x fb cf base v8 N (P.set D G n body pick) := by
  have HX := hide (h.more (onlyA w (.cells #[.int .i64 body.lsn, .int .i64 body.kind, .int .i64 body.level, .int .i64 body.right, .string body.high, .slice ab body.items.length cb] 45))); have HO1 : Hid (Only (fun k => xown xd a b c k ∨ k = x ∨ k = p ∨ k = fb) w (w.alloc (.cells #[.int .i64 body.lsn, .int .i64 body.kind, .int .i64 body.level, .int .i64 body.right, .string body.high, .slice ab body.items.length cb] 45))) := Only.alloc _ _ _; have hnp := h.pl.np.2; have c3 := (h.more (onlyA w (.cells #[.int .i64 body.lsn, .int .i64 body.kind, .int .i64 body.level, .int .i64 body.right, .string body.high, .slice ab body.items.length cb] 45))).pl.c3
  by_cases hn : 0 ≤ n ∧ n < (P.pages : Int)
  · have hC : P.hasC n = 0 := by unfold Pl.hasC; rw [if_pos hn]
    obtain ⟨h0, h1⟩ := hn
    by_cases hs : body.setC = 0
    · cases hi : P.idx n with
      | some i =>
        refine gpset_held w p xd a b c ka kb kc x fb cf tb ta tc base v8 P D G tl N h hu hok n pick body Bb cb ab hS hF hh hl h0 h1 hs i hi _ ?_; unfold Pl.set; rw [hC, if_neg (by decide), if_neg (fun e => e hs), hi]
      | none =>
        refine gpset_take w p xd a b c ka kb kc x fb cf tb ta tc base v8 P D G tl N h hu hok n pick body Bb cb ab hS hF hh hl h0 h1 hs hi hB _ ?_; unfold Pl.set; rw [hC, if_neg (by decide), if_neg (fun e => e hs), hi]
        rfl
    · have hR : P.set D G n body pick = ⟨body.setC, P, D, G⟩ := by
        unfold Pl.set; rw [hC, if_neg (by decide), if_pos hs]
      rw [hR]; have HEN := hide (yencode_any (w.alloc (.cells #[.int .i64 body.lsn, .int .i64 body.kind, .int .i64 body.level, .int .i64 body.right, .string body.high, .slice ab body.items.length cb] 45)) body.lsn body.kind body.level body.right body.high Bb cb ab body.items (hS.more (onlyA _ _)) hh hl); have HPB := hide (Pag.new w (.int .i64 body.lsn) (.int .i64 body.kind) (.int .i64 body.level) (.int .i64 body.right) (.string body.high) (.slice ab body.items.length cb)); unfold Pg.setC at hs ⊢
      by_cases ho : body.out.2 = 0
      · rw [if_neg (fun e => e ho)] at hs ⊢
        rw [ho] at HEN
        have hl1 : body.lsn < 1 := by
          by_cases e : body.lsn < 1
          · exact e
          · rw [if_neg e] at hs; exact absurd rfl hs
        rw [if_pos hl1]; clear hs ho hS hF hh hB h hR hC hu hok
        go_enter Tryz.func18, Tryz.ntmps18
        go_wp2_with fail
        refine HEN.out.mono ?_; rintro e W2 ⟨rfl, ho2⟩; have HX2 := hide (HX.out.more ho2); have HO2 := hide (HO1.out.trans ho2 (fun _ _ e => e.elim)); have b0 := (HPB.out.more ho2).c0; clear ho2
        go_wp2_with fail
        go_ret
        exact ⟨rfl, ⟨tb, ta, tc, tl, HX2.out⟩, HO2.out⟩
      · rw [if_pos ho]
        obtain ⟨oc, hoc⟩ : ∃ oc, body.out.2 = oc := ⟨_, rfl⟩; rw [hoc] at HEN ho ⊢
        have ho' : (oc != 0) = true := by simpa using ho
        clear hs hS hF hh hB h hR hC hu hok hoc ho
        go_enter Tryz.func18, Tryz.ntmps18
        go_wp2_with fail
        refine HEN.out.mono ?_; rintro e W2 ⟨rfl, ho2⟩; have HX2 := hide (HX.out.more ho2); have HO2 := hide (HO1.out.trans ho2 (fun _ _ e => e.elim)); clear ho2
        go_wp2_with fail
        go_ret
        exact ⟨rfl, ⟨tb, ta, tc, tl, HX2.out⟩, HO2.out⟩
  · have hC : P.hasC n = 4 := by unfold Pl.hasC; rw [if_neg hn]
    have hR : P.set D G n body pick = ⟨4, P, D, G⟩ := by
      unfold Pl.set; rw [hC, if_pos (by decide)]
    rw [hR]
    by_cases h0 : n < 0
    · clear hS hF hh hB h hR hC hu hok hn
      go_enter Tryz.func18, Tryz.ntmps18
      go_wp2_with fail
      go_ret
      exact ⟨rfl, ⟨tb, ta, tc, tl, HX.out⟩, HO1.out⟩
    · have h1 : (P.pages : Int) ≤ n := by omega
      clear hS hF hh hB h hR hC hu hok hn
      go_enter Tryz.func18, Tryz.ntmps18
      go_wp2_with fail
      go_ret
      exact ⟨rfl, ⟨tb, ta, tc, tl, HX.out⟩, HO1.out⟩
end Go.Proofs.YtebijheonkagfaaGreatDoor
