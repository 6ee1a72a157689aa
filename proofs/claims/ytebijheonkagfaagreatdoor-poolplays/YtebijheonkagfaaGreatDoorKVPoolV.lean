/- Fetch once more: what it answers may be written, and none of the pool lies there. -/
import Derived.Test.YtebijheonkagfaaGreatDoorKVs
namespace Go.Proofs.YtebijheonkagfaaGreatDoor
open Go.RowKit
def PgO (w w' : World) (e : Ending) (p : Pg) : Prop := ∃ B ao cp, e = .returned (.agg #[.int .i64 p.lsn, .int .i64 p.kind, .int .i64 p.level, .int .i64 p.right, .string p.high, .slice ao p.items.length cp]) ∧ Strs w' B ao p.items ∧ Fit ao p.items.length cp ∧ Only (fun _ => False) w w' ∧ (0 < p.items.length → w.heap.size ≤ B) ∧ (0 < p.items.length → ∀ k, w'.frozen? ⟨B, k, none⟩ = false)
set_option maxRecDepth 100000 in
set_option maxHeartbeats 800000 in
theorem apart_own (w : World) (p : Pg) (B cp : Nat) (ao : Option Addr) (hS : Strs w B ao p.items) :
    Calls Tryz.prog 52 #[.agg #[.int .i64 p.lsn, .int .i64 p.kind, .int .i64 p.level, .int .i64 p.right, .string p.high, .slice ao p.items.length cp]] w fun e w' => PgO w w' e p := by
  obtain ⟨a, k, v, r, h, l⟩ := p
  dsimp only at hS ⊢
  have hlen := hS.len; have HS := hide hS; clear hS; have HB0 := hide (boxes_only w a k v r h (.slice ao l.length cp)); have HB1 := hide (boxes_one w a k v r h (.slice ao l.length cp)); have HB2 := hide (boxes_two w a k v r h (.slice ao l.length cp)); have HBZ := hide (boxes_size w a k v r h (.slice ao l.length cp))
  go_enter Tryz.func52, Tryz.ntmps52
  go_wp2_with fail
  refine (clone_any _ B cp ao l (HS.out.more HB0.out)).mono ?_; rintro e w2 ⟨v2, rfl, hl2, ho2⟩; have HO2 := hide (o2 HB0.out ho2); obtain ⟨p0, p1, p2, p3, p4, p5, g0, g1, g2, g3, g4, g5, gl⟩ := HB1.out.more ho2; obtain ⟨q0, q1, q2, q3, q4, q5, t0, t1, t2, t3, t4, t5, tl⟩ := HB2.out.more ho2; obtain ⟨B5, ao5, cp5, rfl, hS5, hF5, hB5, hN5⟩ := hl2.strs hlen HS.out.size
  have hz5 : 0 < l.length → ∀ k, w2.frozen? ⟨B5, k, none⟩ = false := fun h0 k => by
    rcases hN5 with e | e
    · obtain ⟨o, e2, _⟩ := hS5.at_ h0
      rw [e] at e2
      cases e2
    · rw [e] at hl2
      exact World.ownsRow.frozenAt hl2 k
  have hbz := HBZ.out
  have h2 : 0 < l.length → w.heap.size + 2 ≤ B5 := fun h0 => by have := hB5 h0; omega
  have HA := hide (And.intro hS5 (And.intro hF5 (And.intro h2 hz5))); have HP2 := hide ((HB2.out.more ho2).kept (Only.setCell (S := fun k => k = w.heap.size) w2 ⟨w.heap.size, 5, none⟩ (.slice ao5 l.length cp5) rfl) (by omega)); clear hl2 hS5 hF5 hB5 h2 ho2 hbz hN5 hz5
  go_wp2_with fail
  refine bodyPost_ret (results_pg1 rfl rfl (Pag.six HP2.out _ _ _ _ _ _)) rfl ?_; obtain ⟨hS5, hF5, h2, hz5⟩ := HA.out; have o1 := Only.setCell (S := fun k => k = w.heap.size) w2 ⟨w.heap.size, 5, none⟩ (.slice ao5 l.length cp5) rfl; have o3 := Only.six (w2.setCell ⟨w.heap.size, 5, none⟩ (.slice ao5 l.length cp5)) (w.heap.size + 1) (.int .i64 a) (.int .i64 k) (.int .i64 v) (.int .i64 r) (.string h) (.slice ao5 l.length cp5); refine ⟨B5, ao5, cp5, rfl, (hS5.kept o1 (fun h0 e => by have := h2 h0; omega)).kept o3 (fun h0 e => by have := h2 h0; omega), hF5, ?_, (fun h0 => by have := h2 h0; omega), fun h0 k => ?_⟩
  case refine_2 =>
    have hb := h2 h0; have hl := hS5.lt h0
    exact ((o3.frozen (p := ⟨B5, k, none⟩) (Nat.lt_of_lt_of_le hl o1.size) (fun e => by have e' : B5 = w.heap.size + 1 := e; omega)).trans (o1.frozen (p := ⟨B5, k, none⟩) hl (fun e => by have e' : B5 = w.heap.size := e; omega))).trans (hz5 h0 k)
  exact ((HO2.out.mono (T := fun k => w.heap.size ≤ k) (fun _ _ h => h.elim)).trans o1 (fun k _ e => by omega) |>.trans o3 (fun k _ e => by omega)).mono (fun k hk e => by omega)
structure Off (q p d l fb mb g m B : Nat) (G : Lg) : Prop where
  o1 : ¬ own d g m q
  o2 : q ≠ l
  o3 : q ≠ p
  o4 : q ≠ fb
  o5 : q ≠ mb
  o6 : 0 < G.stream.length → q ≠ B
def FeX (w w' : World) (e : Ending) (p d l fb mb g m : Nat) (B : Nat) (ao : Option Addr) (cp : Nat) (v8 : Value) (T : Nat → Prop) (o : Wo) (pg : Pg) : Prop :=
  ∃ Bq aq cq mb' T', e = .returned (.tuple #[.agg #[.int .i64 pg.lsn, .int .i64 pg.kind, .int .i64 pg.level, .int .i64 pg.right, .string pg.high, .slice aq pg.items.length cq], .int .i64 o.c]) ∧ Strs w' Bq aq pg.items ∧ Fit aq pg.items.length cq ∧ (0 < pg.items.length → w.heap.size ≤ Bq ∧ (∀ k, w'.frozen? ⟨Bq, k, none⟩ = false) ∧ Off Bq p d l fb mb' g m B o.G ∧ ¬ T' Bq) ∧
    Sh w' p d l fb mb' g m o.P o.D o.G B ao cp v8 T' ∧ (∀ k, T' k → T k) ∧ (∀ k, k < w.heap.size → T k → T' k) ∧ (mb' = mb ∨ w.heap.size ≤ mb') ∧ Only (fun k => own d g m k ∨ k = l ∨ k = p ∨ k = fb ∨ k = mb) w w'
theorem PoolAt.cut {T : Nat → Prop} {W W' : World} {p d l fb mb : Nat} {P : Pl} (h : PoolAt W p d l fb mb P T) (ho : Only (fun _ => False) W W') (c : Prop) (q : Nat) (hq : c → W.heap.size ≤ q ∧ q < W'.heap.size) : PoolAt W' p d l fb mb P (fun k => T k ∧ (c → k ≠ q)) := by
  have h2 := h.more ho; have hf := h.flt; refine ⟨h2.c0, h2.c1, h2.c2, h2.c3, h2.c4, h2.c5, h2.fz, h2.lt, fun i hi => ?_, h2.ffz, h2.flt, h2.map, h2.n1, h2.n2, h2.n3, fun e => h.t1 e.1, fun e => h.t2 e.1, fun e => h.t3 e.1, h2.nf, h2.np, h2.nm, h2.nn, fun k hk => ⟨h2.new k hk, fun hc e => by have := hq hc; omega⟩⟩; obtain ⟨⟨B, ao, cp, h1, h2, h3, h4⟩, h5, h6⟩ := h.fr i hi
  have hk : ∀ j v, W.cell? ⟨fb, i * 8 + j, none⟩ = some v → W'.cell? ⟨fb, i * 8 + j, none⟩ = some v := fun j v hj => (ho.cell (p := ⟨fb, i * 8 + j, none⟩) hf (fun h => h)).trans hj
  exact ⟨⟨B, ao, cp, fun j v hv => hk j v (h1 j v hv), h2.more ho, h3, fun h0 => ⟨h4 h0, fun hc e => by have := h2.lt h0; have := hq hc; omega⟩⟩, h5, h6⟩
theorem Ft.cut {w W : World} {p d l fb mb g m : Nat} {P : Pl} {D : Dk} {G : Lg} {B : Nat} {ao : Option Addr} {cp : Nat} {v8 : Value} {T : Nat → Prop} {mb1 : Nat} {T1 : Nat → Prop} (h : Ft w W p d l fb mb g m P D G B ao cp v8 T mb1 T1) {W' : World} (ho : Only (fun _ => False) W W') (c : Prop) (q : Nat) (hq : c → W.heap.size ≤ q ∧ q < W'.heap.size) : Ft w W' p d l fb mb g m P D G B ao cp v8 T mb1 (fun k => T1 k ∧ (c → k ≠ q)) :=
  ⟨h.sh.pooled ho (fun _ _ e => e.elim) (h.sh.pool.cut ho c q hq) (fun _ e => e.1) (.inl rfl), fun k e => h.sub k e.1, fun k hk e => ⟨h.keep k hk e, fun hc e2 => by have := hq hc; have := h.only.size; omega⟩, h.mbn, h.only.trans ho (fun _ _ e => e.elim), h.res.more ho, h.ro, fun e => h.rT e.1, h.rB⟩
theorem Ft.cutF {w W : World} {p d l fb mb g m : Nat} {P : Pl} {D : Dk} {G : Lg} {B : Nat} {ao : Option Addr} {cp : Nat} {v8 : Value} {T : Nat → Prop} {mb1 : Nat} {T1 : Nat → Prop} (h : Ft w W p d l fb mb g m P D G B ao cp v8 T mb1 T1) (c : Prop) (q : Nat) (hq : c → W.heap.size ≤ q) : c → Off q p d l fb mb1 g m B G := fun hc => by
  have hT := h.sh.pool.new q (hq hc); have hx := h.sh.xT q hT
  exact ⟨hx.1, hx.2, fun e => h.sh.pool.t1 (e ▸ hT), fun e => h.sh.pool.t2 (e ▸ hT), fun e => h.sh.pool.t3 (e ▸ hT), fun h0 e => (h.sh.xB h0).2.2.2.2.2 (e ▸ hT)⟩
theorem Ft.finX {w W : World} {p d l fb mb g m : Nat} {P : Pl} {D : Dk} {G : Lg} {B : Nat} {ao : Option Addr} {cp : Nat} {v8 : Value} {T : Nat → Prop} {mb1 : Nat} {T1 : Nat → Prop} (h : Ft w W p d l fb mb g m P D G B ao cp v8 T mb1 T1) (v0 v1 v2 v3 v4 v5 : Value) : Sh ((((((W.setCell ⟨w.heap.size, 0, none⟩ v0).setCell ⟨w.heap.size, 1, none⟩ v1).setCell ⟨w.heap.size, 2, none⟩ v2).setCell ⟨w.heap.size, 3, none⟩ v3).setCell ⟨w.heap.size, 4, none⟩ v4).setCell ⟨w.heap.size, 5, none⟩ v5) p d l fb mb1 g m P D G B ao cp v8 T1 ∧ Only (fun k => own d g m k ∨ k = l ∨ k = p ∨ k = fb ∨ k = mb) w ((((((W.setCell ⟨w.heap.size, 0, none⟩ v0).setCell ⟨w.heap.size, 1, none⟩ v1).setCell ⟨w.heap.size, 2, none⟩ v2).setCell ⟨w.heap.size, 3, none⟩ v3).setCell ⟨w.heap.size, 4, none⟩ v4).setCell ⟨w.heap.size, 5, none⟩ v5) := by
  have ho := Only.six W w.heap.size v0 v1 v2 v3 v4 v5; obtain ⟨r1, r2, r3, r4, r5⟩ := h.ro
  exact ⟨h.sh.side ho (fun k e => by subst e; exact ⟨r1, r2, r3, r4, r5, h.rT⟩) (fun h0 e => h.rB h0 e.symm), h.only.trans ho (fun k hk e => by omega)⟩
theorem Ft.zeroX {w W : World} {p d l fb mb g m : Nat} {P : Pl} {D : Dk} {G : Lg} {B : Nat} {ao : Option Addr} {cp : Nat} {v8 : Value} {T : Nat → Prop} {mb1 : Nat} {T1 : Nat → Prop} (h : Ft w W p d l fb mb g m P D G B ao cp v8 T mb1 T1) (c : Int) : FeX w ((((((W.setCell ⟨w.heap.size, 0, none⟩ (.int .i64 0)).setCell ⟨w.heap.size, 1, none⟩ (.int .i64 0)).setCell ⟨w.heap.size, 2, none⟩ (.int .i64 0)).setCell ⟨w.heap.size, 3, none⟩ (.int .i64 0)).setCell ⟨w.heap.size, 4, none⟩ (.string ⟨#[]⟩)).setCell ⟨w.heap.size, 5, none⟩ (.slice none 0 0)) (.returned (.tuple #[.agg #[.int .i64 0, .int .i64 0, .int .i64 0, .int .i64 0, .string ⟨#[]⟩, .slice none 0 0], .int .i64 c])) p d l fb mb g m B ao cp v8 T ⟨c, P, D, G⟩ .none :=
  ⟨0, Option.none, 0, mb1, T1, rfl, Strs.nil _ _ _, ⟨fun _ => rfl, by simp [Pg.none], by simp⟩, fun h => absurd h (by simp [Pg.none]), (h.finX _ _ _ _ _ _).1, h.sub, h.keep, h.mbn, (h.finX _ _ _ _ _ _).2⟩
theorem Ft.pageX {w W : World} {p d l fb mb g m : Nat} {P : Pl} {D : Dk} {G : Lg} {B : Nat} {ao : Option Addr} {cp : Nat} {v8 : Value} {T : Nat → Prop} {mb1 : Nat} {T1 : Nat → Prop} (h : Ft w W p d l fb mb g m P D G B ao cp v8 T mb1 T1) (c : Int) (pg : Pg) (Bq cq : Nat) (aq : Option Addr) (h1 : Strs W Bq aq pg.items) (h2 : Fit aq pg.items.length cq) (h3 : 0 < pg.items.length → w.heap.size < Bq) (h4 : 0 < pg.items.length → ∀ k, W.frozen? ⟨Bq, k, none⟩ = false) (h5 : 0 < pg.items.length → Off Bq p d l fb mb1 g m B G) (h6 : 0 < pg.items.length → ¬ T1 Bq) : FeX w ((((((W.setCell ⟨w.heap.size, 0, none⟩ (.int .i64 pg.lsn)).setCell ⟨w.heap.size, 1, none⟩ (.int .i64 pg.kind)).setCell ⟨w.heap.size, 2, none⟩ (.int .i64 pg.level)).setCell ⟨w.heap.size, 3, none⟩ (.int .i64 pg.right)).setCell ⟨w.heap.size, 4, none⟩ (.string pg.high)).setCell ⟨w.heap.size, 5, none⟩ (.slice aq pg.items.length cq)) (.returned (.tuple #[.agg #[.int .i64 pg.lsn, .int .i64 pg.kind, .int .i64 pg.level, .int .i64 pg.right, .string pg.high, .slice aq pg.items.length cq], .int .i64 c])) p d l fb mb g m B ao cp v8 T ⟨c, P, D, G⟩ pg :=
  have ho := Only.six W w.heap.size (.int .i64 pg.lsn) (.int .i64 pg.kind) (.int .i64 pg.level) (.int .i64 pg.right) (.string pg.high) (.slice aq pg.items.length cq)
  ⟨Bq, aq, cq, mb1, T1, rfl, h1.kept ho (fun h0 e => by have := h3 h0; omega), h2, fun h0 => ⟨by have := h3 h0; omega, fun k => (ho.frozen (p := ⟨Bq, k, none⟩) (h1.lt h0) (fun e => by have := h3 h0; have e' : Bq = w.heap.size := e; omega)).trans (h4 h0 k), h5 h0, h6 h0⟩, (h.finX _ _ _ _ _ _).1, h.sub, h.keep, h.mbn, (h.finX _ _ _ _ _ _).2⟩
set_option maxRecDepth 100000 in
set_option maxHeartbeats 3200000 in
theorem ofetch_own (w : World) (p d l fb mb g m : Nat) (P : Pl) (D : Dk) (G : Lg) (B : Nat) (ao : Option Addr) (cp : Nat) (v8 : Value) (T : Nat → Prop) (h : Sh w p d l fb mb g m P D G B ao cp v8 T) (hok : P.Ok) (page pick : Int) :
    Calls Tryz.prog 11 #[.pointer (some ⟨p, 0, none⟩), .int .i64 page, .int .i64 pick] w fun e w' => FeX w w' e p d l fb mb g m B ao cp v8 T (P.fetch D G page pick).1 (P.fetch D G page pick).2 := by
  obtain ⟨R, hR⟩ : ∃ R, P.fetch D G page pick = R := ⟨_, rfl⟩; rw [hR]; have hA := h.alloc (.cells #[.int .i64 0, .int .i64 0, .int .i64 0, .int .i64 0, .string ⟨#[]⟩, .slice none 0 0] 45); have hPg := Pag.new w (.int .i64 0) (.int .i64 0) (.int .i64 0) (.int .i64 0) (.string ⟨#[]⟩) (.slice none 0 0); have hpl := h.pool.lt; have hfl := h.pool.flt; have hml := h.pool.map.lt; have hnT := h.pool.new w.heap.size (Nat.le_refl _); have hrT := h.xT _ hnT; have HX := hide (show Ft w _ p d l fb mb g m P D G B ao cp v8 T mb _ from ⟨hA, fun _ e => e.1, fun k hk e => ⟨e, by omega⟩, .inl rfl, (onlyA w _).mono (fun _ _ e => e.elim), hPg, ⟨hrT.1, hrT.2, by omega, by omega, by omega⟩, fun e => e.2 rfl, fun h0 e => (h.xB h0).2.2.2.2.2 (e ▸ hnT)⟩); have hln := h.pool.nf.1; have HOK := hide hok; clear h hA hPg hpl hfl hml hnT hrT hok; obtain ⟨T0, hT0⟩ : ∃ T0, (fun k => T k ∧ k ≠ w.heap.size) = T0 := ⟨_, rfl⟩; rw [hT0] at HX; clear hT0; unfold Pl.fetch at hR
  by_cases hp : P.hasC page ≠ 0
  · rw [if_pos hp] at hR
    have HR := hide hR; obtain ⟨c, hc⟩ : ∃ c, P.hasC page = c := ⟨_, rfl⟩; rw [hc] at HR hp
    have hb : (c == 0) = false := by simp [hp]
    have HC := hide hc; clear hR hp hc
    go_enter Tryz.func11, Tryz.ntmps11
    go_wp2_with fail
    refine (ohas_any _ p d l fb mb P T0 HX.out.sh.pool page).mono ?_; rintro e w1 ⟨rfl, hw1⟩; rw [HC.out]
    have HX1 : Hid (Ft w w1 p d l fb mb g m P D G B ao cp v8 T mb T0) := by rw [hw1]; exact HX.out
    clear hw1 HX; obtain ⟨q0, q1, q2, q3, q4, q5, t0, t1, t2, t3, t4, t5, tl⟩ := HX1.out.res
    go_wp2_with fail
    refine bodyPost_ret (results_page rfl rfl (Pag.six HX1.out.res _ _ _ _ _ _)) rfl ?_; rw [← HR.out]
    exact HX1.out.zeroX c
  · have hp0 : P.hasC page = 0 := by simpa using hp
    rw [if_neg hp] at hR
    obtain ⟨n, hn, hnl⟩ : ∃ n : Nat, page = (n : Int) ∧ n < P.pages := by
      unfold Pl.hasC at hp0
      split at hp0
      · exact ⟨page.toNat, by omega, by omega⟩
      · cases hp0
    subst hn; rw [Int.toNat_natCast] at hR; have HN := hide hnl; have HC := hide hp0; clear hp hp0 hnl
    cases hx : P.idx (n : Int) with
    | some i =>
      rw [hx] at hR
      dsimp only at hR
      have hil := (idx_lt hx).1
      have hv : P.ptr fb (n : Int) = .pointer (some ⟨fb, i * 8, none⟩) := by unfold Pl.ptr; rw [hx]; rfl
      have HV := hide hv; have HI := hide hil
      have HG : Hid (∀ h : i < P.fs.length, P.fs[i] = P.get i) := fun h => get_at h
      obtain ⟨F, hF⟩ : ∃ F, P.get i = F := ⟨_, rfl⟩; rw [hF] at hR HG; have HR := hide hR; clear hR hx hil hv hF
      go_enter Tryz.func11, Tryz.ntmps11
      go_wp2_with fail
      refine (ohas_any _ p d l fb mb P T0 HX.out.sh.pool (n : Int)).mono ?_; rintro e w1 ⟨rfl, hw1⟩; rw [HC.out]
      have HX1 : Hid (Ft w w1 p d l fb mb g m P D G B ao cp v8 T mb T0) := by rw [hw1]; exact HX.out
      clear hw1 HX
      go_wp2_with fail
      refine (holder_any _ p d l fb mb P T0 HX1.out.sh.pool (n : Int)).mono ?_; rintro e w2 ⟨rfl, hw2⟩; rw [HV.out]
      have HX2 : Hid (Ft w w2 p d l fb mb g m P D G B ao cp v8 T mb T0) := by rw [hw2]; exact HX1.out
      clear hw2 HX1 HV; have hfm := HX2.out.sh.pool.fr i HI.out; rw [HG.out HI.out] at hfm; obtain ⟨Bf, af, cf, ⟨k0, k1, k2, k3, k4, k5⟩, hf1, hf2, _⟩ := hfm.all; have HF1 := hide hf1; clear hfm hf1 hf2
      go_wp2_with fail
      refine (apart_own _ F.pg Bf cf af HF1.out).mono ?_; rintro e w3 ⟨Bq, aq, cq, rfl, hq1, hq2, ho3, hq3, hq4⟩; have HX3 := hide (HX2.out.cut ho3 (0 < F.pg.items.length) Bq (fun h0 => ⟨hq3 h0, hq1.lt h0⟩)); have HCF := hide (HX2.out.cutF (0 < F.pg.items.length) Bq hq3); have HLT := hide HX2.out.res.lt; have HQ := hide (And.intro hq1 (And.intro hq2 (And.intro hq3 hq4))); clear hq1 hq2 hq3 hq4 ho3 k0 k1 k2 k3 k4 k5 HF1 HX2; obtain ⟨q0, q1, q2, q3, q4, q5, t0, t1, t2, t3, t4, t5, tl⟩ := HX3.out.res
      go_wp2_with fail
      refine bodyPost_ret (results_page rfl rfl (Pag.six HX3.out.res _ _ _ _ _ _)) rfl ?_; rw [← HR.out]; obtain ⟨hq1, hq2, hq3, hq4⟩ := HQ.out
      exact HX3.out.pageX 0 F.pg Bq cq aq hq1 hq2 (fun h0 => by have := hq3 h0; have := HLT.out; omega) hq4 HCF.out (fun h0 e => e.2 h0 rfl)
    | none =>
      rw [hx] at hR
      dsimp only at hR
      have hv : P.ptr fb (n : Int) = .pointer none := by unfold Pl.ptr; rw [hx]; rfl
      have HV := hide hv; have HRD := hide (fun W (hW : Sh W p d l fb mb g m P D G B ao cp v8 T0) => oread_any W p d l fb mb g m P D G B ao cp v8 T0 hW n HN.out); have HTK := hide (fun W (hW : Sh W p d l fb mb g m P D G B ao cp v8 T0) => take_any W p d l fb mb g m P D G B ao cp v8 T0 hW HOK.out pick)
      have hts := fun i => take_some (P := P) (D := D) (G := G) (pick := pick) (i := i) hln
      have htn := take_none (P := P) (D := D) (G := G) (pick := pick); obtain ⟨K, hK⟩ : ∃ K, P.take D G pick = K := ⟨_, rfl⟩; have hst := take_stream P D G pick; rw [hK] at hR HTK htn hst
      have hts2 : ∀ i, K.2 = some i → K.1.c = 0 ∧ i < K.1.P.fs.length ∧ K.1.P.pages = P.pages := fun i => by have := hts i; rwa [hK] at this
      obtain ⟨O, q⟩ := K
      dsimp only at hR HTK htn hts2 hst
      have HST := hide hst; clear hst; have HTS := hide (And.intro hts2 htn); obtain ⟨pp, hpp⟩ : ∃ pp, D.page (P.frm + 8 * n) = pp := ⟨_, rfl⟩; have HPB := hide (page_bd D (P.frm + 8 * n)); rw [hpp] at hR HRD HPB; obtain ⟨pg, c1⟩ := pp
      dsimp only at hR HRD HPB
      have HRR := hide hR; clear hR hx hv hts hts2 htn hK hpp
      go_enter Tryz.func11, Tryz.ntmps11
      go_wp2_with fail
      refine (ohas_any _ p d l fb mb P T0 HX.out.sh.pool (n : Int)).mono ?_; rintro e w1 ⟨rfl, hw1⟩; rw [HC.out]
      have HX1 : Hid (Ft w w1 p d l fb mb g m P D G B ao cp v8 T mb T0) := by rw [hw1]; exact HX.out
      clear hw1 HX
      go_wp2_with fail
      refine (holder_any _ p d l fb mb P T0 HX1.out.sh.pool (n : Int)).mono ?_; rintro e w2 ⟨rfl, hw2⟩; rw [HV.out]
      have HX2 : Hid (Ft w w2 p d l fb mb g m P D G B ao cp v8 T mb T0) := by rw [hw2]; exact HX1.out
      clear hw2 HX1 HV
      go_wp2_with fail
      refine (HRD.out _ HX2.out.sh).mono ?_; rintro e w3 ⟨Bq, aq, cq, rfl, hq1, hq2, ho3, hq3⟩; have HX3 := hide (HX2.out.more ho3); have HQ := hide (And.intro hq1 (And.intro hq2 hq3)); have HLT := hide HX2.out.res.lt; have HSZ := hide ho3.size; clear hq1 hq2 hq3 ho3 HRD
      go_upto_region 8 with fail
      have HO5 := hide (onlyA w3 (.cells #[.int .i64 pg.lsn, .int .i64 pg.kind, .int .i64 pg.level, .int .i64 pg.right, .string pg.high, .slice aq pg.items.length cq] 45)); have HB5 := hide (Pag.new w3 (.int .i64 pg.lsn) (.int .i64 pg.kind) (.int .i64 pg.level) (.int .i64 pg.right) (.string pg.high) (.slice aq pg.items.length cq)); obtain ⟨W5, hW5⟩ : ∃ W5, w3.alloc (.cells #[.int .i64 pg.lsn, .int .i64 pg.kind, .int .i64 pg.level, .int .i64 pg.right, .string pg.high, .slice aq pg.items.length cq] 45) = W5 := ⟨_, rfl⟩; rw [hW5] at HO5 HB5 ⊢; have HX5 := hide (HX3.out.more HO5.out); obtain ⟨b5, hb5⟩ : ∃ b5, w3.heap.size = b5 := ⟨_, rfl⟩; have HB5L := hide hb5; rw [hb5] at HB5 ⊢; clear hW5 hb5
      by_cases hz : c1 = 0
      · subst hz
        have HR2 := HRR.out; rw [if_neg (by simp)] at HR2; have HR3 := hide HR2; clear HR2 HRR; have hsz5 := HO5.out.size; have hz3 := HSZ.out
        have hT0 : ∀ k, T0 k → ¬ (own d g m k ∨ k = l ∨ k = p ∨ k = fb ∨ k = mb) := fun k hk e => by
          rcases e with e | e | e | e | e
          · exact (HX5.out.sh.xT k hk).1 e
          · exact (HX5.out.sh.xT k hk).2 e
          · exact HX5.out.sh.pool.t1 (e ▸ hk)
          · exact HX5.out.sh.pool.t2 (e ▸ hk)
          · exact HX5.out.sh.pool.t3 (e ▸ hk)
        have hbT : T0 b5 := HX2.out.sh.pool.new b5 (by have := HB5L.out; omega)
        have hqT : 0 < pg.items.length → T0 Bq := fun h0 => HX2.out.sh.pool.new Bq (HQ.out.2.2 h0)
        have HTT := hide (And.intro hT0 (And.intro hbT hqT)); have hql := HX2.out.sh.pool.flt
        have hbf : ¬ b5 = fb := fun e => hT0 b5 hbT (.inr (.inr (.inr (.inl e))))
        clear hT0 hbT hqT hql hz3 hsz5
        go_wp2_with fail
        refine (HTK.out _ HX5.out.sh).mono ?_; rintro e w6 ⟨rfl, mb6, T6, hs6, ht6, hk6, hm6, ho6⟩
        have HX6 : Hid (Ft w w6 p d l fb mb g m O.P O.D O.G B ao cp v8 T mb6 T6) := by
          have hr := HX5.out.res.lt; obtain ⟨r1, r2, r3, r4, r5⟩ := HX5.out.ro; refine ⟨hs6, fun k e => HX5.out.sub k (ht6 k e), fun k hk e => hk6 k (by omega) (HX5.out.keep k hk e), hm6.elim .inl (fun e => .inr (by omega)), HX5.out.only.trans ho6 (fun _ _ e => e), HX5.out.res.kept ho6 (fun e => ?_), ⟨r1, r2, r3, r4, ?_⟩, fun e => HX5.out.rT (ht6 _ e), fun h0 => HX5.out.rB (by rw [← HST.out]; exact h0)⟩
          · rcases e with e | e | e | e | e
            · exact r1 e
            · exact r2 e
            · exact r3 e
            · exact r4 e
            · exact r5 e
          · rcases hm6 with e | e
            · rw [e]; exact r5
            · omega
        have HB6 := hide (HB5.out.kept ho6 (HTT.out.1 b5 HTT.out.2.1))
        have HQ6 : Hid (Strs w6 Bq aq pg.items ∧ (0 < pg.items.length → T6 Bq)) := by
          have h5 := HQ.out.1.more HO5.out
          exact ⟨h5.kept ho6 (fun h0 => HTT.out.1 Bq (HTT.out.2.2 h0)), fun h0 => hk6 Bq (h5.lt h0) (HTT.out.2.2 h0)⟩
        clear hs6 ht6 hk6 hm6 ho6 HX5 HB5 HTK HOK HX3 HX2 HO5
        cases q with
        | none =>
          have hcz := HTS.out.2 rfl; have HW : Hid ((O, Pg.none) = R) := HR3.out; obtain ⟨c, hc⟩ : ∃ c, O.c = c := ⟨_, rfl⟩; have HC3 := hide hc; rw [hc] at hcz ⊢
          have hb : (c == 0) = false := by simp [hcz]
          clear hcz HTS HR3 hc; obtain ⟨q0, q1, q2, q3, q4, q5, t0, t1, t2, t3, t4, t5, tl⟩ := HX6.out.res
          go_wp2_with fail
          refine bodyPost_ret (results_page rfl rfl (Pag.six HX6.out.res _ _ _ _ _ _)) rfl ?_; rw [← HW.out]; have hfin := HX6.out.zeroX c; rw [← HC3.out] at hfin ⊢
          exact hfin
        | some i =>
          obtain ⟨hc0, hil, hpp⟩ := HTS.out.1 i rfl; have HW : Hid ((⟨0, O.P.setF i ⟨pg, (n : Int), false⟩, O.D, O.G⟩, pg) = R) := HR3.out; rw [hc0]; obtain ⟨P4, hP4⟩ : ∃ P4, O.P = P4 := ⟨_, rfl⟩; obtain ⟨D4, hD4⟩ : ∃ D4, O.D = D4 := ⟨_, rfl⟩; obtain ⟨G4, hG4⟩ : ∃ G4, O.G = G4 := ⟨_, rfl⟩
          have hnn4 : n < O.P.pages := by rw [hpp]; exact HN.out
          rw [hP4] at HW HX6 hil hnn4; rw [hD4, hG4] at HW HX6; unfold fptr
          dsimp only [Option.map]
          have hL := HX6.out.sh.lay i hil ⟨pg, (n : Int), false⟩ Bq aq cq HQ6.out.1 HQ.out.2.1 HQ6.out.2 HPB.out.1 HPB.out.2 (.inr ⟨by show (0 : Int) ≤ (n : Int); omega, by show (n : Int) < _; omega⟩); rw [show (⟨pg, (n : Int), false⟩ : Fm).cl aq cq = [.int .i64 pg.lsn, .int .i64 pg.kind, .int .i64 pg.level, .int .i64 pg.right, .string pg.high, .slice aq pg.items.length cq, .int .i64 (n : Int), .bool false] from rfl, setCells8] at hL; have HX7 := hide (HX6.out.laid hL.1 hL.2); have HS7 := hide (HQ6.out.1.kept hL.2 (fun h0 e => HX6.out.sh.pool.t2 (e ▸ HQ6.out.2 h0))); obtain ⟨u0, u1, u2, u3, u4, u5, u6, u7, ⟨k0, k1, k2, k3, k4, k5, k6, k7⟩, ⟨f0, f1, f2, f3, f4, f5, f6, f7⟩⟩ := HX6.out.sh.pool.slots i hil; obtain ⟨p0, p1, p2, p3, p4, p5, _⟩ := HB6.out; have HLT6 := hide HX6.out.res.lt; clear hc0 hpp hP4 hD4 hG4 hnn4 hL hil HR3 HTS HX6 HB6
          go_wp2_with fail
          refine (apart_own _ pg Bq cq aq HS7.out).mono ?_; rintro e w8 ⟨B8, a8, c8, rfl, g1, g2, ho8, g3, g5⟩; have HX8 := hide (HX7.out.cut ho8 (0 < pg.items.length) B8 (fun h0 => ⟨g3 h0, g1.lt h0⟩)); have HCF := hide (HX7.out.cutF (0 < pg.items.length) B8 g3); have HQ8 := hide (And.intro g1 (And.intro g2 (And.intro g3 (And.intro HX7.out.res.lt g5)))); clear g1 g2 g3 g5 ho8 HX7 HS7 k0 k1 k2 k3 k4 k5 k6 k7 f0 f1 f2 f3 f4 f5 f6 f7 p0 p1 p2 p3 p4 p5; obtain ⟨q0, q1, q2, q3, q4, q5, t0, t1, t2, t3, t4, t5, tl⟩ := HX8.out.res
          go_wp2_with fail
          refine bodyPost_ret (results_page rfl rfl (Pag.six HX8.out.res _ _ _ _ _ _)) rfl ?_; rw [← HW.out]; obtain ⟨g1, g2, g3, g4, g5⟩ := HQ8.out
          exact HX8.out.pageX 0 pg B8 c8 a8 g1 g2 (fun h0 => by have := g3 h0; omega) g5 HCF.out (fun h0 e => e.2 h0 rfl)
      · have HR2 := HRR.out
        rw [if_pos hz] at HR2; have HR3 := hide HR2
        have hb : (c1 == 0) = false := by simp [hz]
        clear HR2 HRR hz; obtain ⟨q0, q1, q2, q3, q4, q5, t0, t1, t2, t3, t4, t5, tl⟩ := HX5.out.res
        go_wp2_with fail
        refine bodyPost_ret (results_page rfl rfl (Pag.six HX5.out.res _ _ _ _ _ _)) rfl ?_; rw [← HR3.out]
        exact HX5.out.zeroX c1
end Go.Proofs.YtebijheonkagfaaGreatDoor
