/- What Fetch does. -/
import Derived.Test.YtebijheonkagfaaGreatDoorKQb
import Derived.Deep.RegionWith
namespace Go.Proofs.YtebijheonkagfaaGreatDoor
open Go.RowKit
def Dk.page (D : Dk) (a : Nat) : Pg × Int :=
  if (D.read (a : Int) 8).2 ≠ 0 then (.none, (D.read (a : Int) 8).2) else if (dec (D.read (a : Int) 8).1).2 ≠ 0 then (.none, 60) else ((dec (D.read (a : Int) 8).1).1, 0)
set_option maxRecDepth 100000 in
set_option maxHeartbeats 3200000 in
theorem oread_any (w : World) (p d l fb mb g m : Nat) (P : Pl) (D : Dk) (G : Lg) (B : Nat) (ao : Option Addr) (cp : Nat) (v8 : Value) (T : Nat → Prop) (h : Sh w p d l fb mb g m P D G B ao cp v8 T) (n : Nat) (hn : n < P.pages) :
    Calls Tryz.prog 53 #[.pointer (some ⟨p, 0, none⟩), .int .i64 (n : Int)] w fun e w' => Res w w' e (D.page (P.frm + 8 * n)).1 (D.page (P.frm + 8 * n)).2 := by
  have HP := hide (Pag.new w (.int .i64 0) (.int .i64 0) (.int .i64 0) (.int .i64 0) (.string ⟨#[]⟩) (.slice none 0 0)); have HO0 := hide (onlyA w (.cells #[.int .i64 0, .int .i64 0, .int .i64 0, .int .i64 0, .string ⟨#[]⟩, .slice none 0 0] 45)); obtain ⟨W0, hW0⟩ : ∃ W0, w.alloc (.cells #[.int .i64 0, .int .i64 0, .int .i64 0, .int .i64 0, .string ⟨#[]⟩, .slice none 0 0] 45) = W0 := ⟨_, rfl⟩; rw [hW0] at HP HO0; obtain ⟨A, hA⟩ : ∃ A : Nat, P.frm + 8 * n = A := ⟨_, rfl⟩
  have hAb : A ≤ 200000 := by have := h.pool.nm; have := h.pool.np.2; omega
  have HSE := hide (fun W (hW : Only (fun _ => False) W0 W) => sector_at W p d l fb mb P T ((h.more HO0.out).more hW).pool n hn); have HDR := hide (fun W (hW : Only (fun _ => False) W0 W) => dread_any W d g m D ((h.more HO0.out).more hW).dsk (A : Int) 8 (by omega)); have HLD := hide (fun W (hW : Only (fun _ => False) W0 W) => ((h.more HO0.out).more hW).pool.c0); rw [hA] at HSE ⊢; obtain ⟨R, hR⟩ : ∃ R, D.page A = R := ⟨_, rfl⟩; rw [hR]; unfold Dk.page at hR; have HR := hide hR; obtain ⟨L1, hL1⟩ : ∃ L1, (D.read (A : Int) 8).1 = L1 := ⟨_, rfl⟩; obtain ⟨c1, hc1⟩ : ∃ c1, (D.read (A : Int) 8).2 = c1 := ⟨_, rfl⟩; rw [hL1, hc1] at HDR HR; obtain ⟨N, hN⟩ : ∃ N : ByteArray, (⟨L1.toArray⟩ : ByteArray) = N := ⟨_, rfl⟩
  have hNb : bl N = L1 := by rw [← hN]
  rw [hN] at HDR; rw [← hNb] at HR; have HPD := hide (fun W => pdecode_any W N); obtain ⟨pg, hpg⟩ : ∃ pg, (dec (bl N)).1 = pg := ⟨_, rfl⟩; obtain ⟨c4, hc4⟩ : ∃ c4, (dec (bl N)).2 = c4 := ⟨_, rfl⟩; rw [hpg, hc4] at HR HPD; clear hpg hc4; clear hR hL1 hc1 hN hNb hA hAb hn h L1
  go_enter Tryz.func53, Tryz.ntmps53
  go_upto_region 1 with fail
  first | rw [hW0] | skip
  clear hW0; refine wp_region_noPanic ?_; refine wp_region_held_drew (S := fun W => Only (fun _ => False) W0 W) (by kernel_rfl) (Only.drew _ _) (fun hHeld => ?_); refine tkQ (i := 0) (oi := { dst := some 10, op := Op.move (Operand.tmp 0), type := 36, pos := "pool.go:212", after := #[], guard := none }) (v := .pointer (some ⟨p, 0, none⟩)) rfl (by kernel_rfl) (Or.inl ⟨by rfl, fun w' hSw => by clear hSw; go_simp⟩) (by assumption) ?_; simp only [Act.put, lsA, lsB, lsC]; refine tkQ (i := 4) (oi := { dst := some 14, op := Op.move (Operand.tmp 0), type := 36, pos := "pool.go:212", after := #[], guard := none }) (v := .pointer (some ⟨p, 0, none⟩)) rfl (by kernel_rfl) (Or.inl ⟨by rfl, fun w' hSw => by clear hSw; go_simp⟩) (by assumption) ?_; simp only [Act.put, lsA, lsB, lsC]; refine tkQ (i := 5) (oi := { dst := some 15, op := Op.move (Operand.tmp 1), type := 3, pos := "pool.go:212", after := #[], guard := none }) (v := .int .i64 (n : Int)) rfl (by kernel_rfl) (Or.inl ⟨by rfl, fun w' hSw => by clear hSw; go_simp⟩) (by assumption) ?_; simp only [Act.put, lsA, lsB, lsC]; refine tkQ (i := 1) (oi := { dst := some 11, op := Op.nilCheck (Operand.tmp 10), type := 0, pos := "pool.go:212", after := #[{ on := 0, ground := Ground.data }], guard := none }) (v := .pointer (some ⟨p, 0, none⟩)) rfl (by kernel_rfl) (Or.inl ⟨by rfl, fun w' hSw => by clear hSw; go_simp⟩) (by assumption) ?_; simp only [Act.put, lsA, lsB, lsC]; refine tkQ (i := 2) (oi := { dst := some 12, op := Op.fieldAddr 96 (Operand.tmp 11) 0, type := 0, pos := "pool.go:212", after := #[{ on := 1, ground := Ground.data }], guard := none }) (v := .pointer (some ⟨p, 0, none⟩)) rfl (by kernel_rfl) (Or.inl ⟨by rfl, fun w' hSw => by clear hSw; go_simp⟩) (by assumption) ?_
  simp only [Act.put, lsA, lsB, lsC]; refine tkQ (i := 3) (oi := { dst := some 13, op := Op.load 23 (Operand.tmp 12), type := 23, pos := "pool.go:212", after := #[{ on := 2, ground := Ground.data }], guard := none }) (v := .pointer (some ⟨d, 0, none⟩)) rfl (by kernel_rfl) (yieldsIf_load_cell (by rfl) 23 _ rfl _ rfl (fun W hW => HLD.out W hW) (fun W hc => ld_pDisk hc)) (by assumption) ?_; simp only [Act.put, lsA, lsB, lsC]; refine wpAnyH_ready (rs := [6]) (by kernel_rfl) (by simp) ?_; refine AllReadyH.cons (o := { dst := some 16, op := Op.call { callee := Callee.value (Operand.func 84), args := #[Operand.tmp 14, Operand.tmp 15], argTypes := #[36, 3] }, type := 3, pos := "pool.go:212", after := #[{ on := 4, ground := Ground.data }, { on := 5, ground := Ground.data }], guard := none }) rfl (fun K hK => ?_) (AllReadyH.nil)
  go_simp
  refine (HSE.out _ hHeld).mono ?_; rintro e x1 ⟨rfl, hx1⟩; obtain rfl := hx1.symm; clear hx1; refine hK.out _ _ (hHeld) (fun hHeld => ?_); clear hK K
  try simp only [Act.put, lsA, lsB, lsC]
  refine wpAnyH_ready (rs := [7]) (by kernel_rfl) (by simp) ?_; refine AllReadyH.cons (o := { dst := some 17, op := Op.call { callee := Callee.value (Operand.func 28), args := #[Operand.tmp 13, Operand.tmp 16, Operand.const (Value.int IntKind.i64 8)], argTypes := #[23, 3, 3] }, type := 67, pos := "pool.go:212", after := #[{ on := 3, ground := Ground.data }, { on := 6, ground := Ground.data }, { on := 6, ground := Ground.chain }], guard := none }) rfl (fun K hK => ?_) (AllReadyH.nil)
  go_simp
  refine (HDR.out _ hHeld).mono ?_; rintro e x3 ⟨rfl, hx3⟩; have HX3 := hide hx3; clear hx3; refine hK.out _ _ (o2 hHeld HX3.out) (fun hHeld => ?_); clear hK K
  try simp only [Act.put, lsA, lsB, lsC]
  refine tkQ (i := 8) (oi := { dst := some 9, op := Op.move (Operand.tmp 17), type := 67, pos := "pool.go:212", after := #[{ on := 7, ground := Ground.data }], guard := none }) (v := .tuple #[.string N, .int .i64 c1]) rfl (by kernel_rfl) (Or.inl ⟨by rfl, fun w' hSw => by clear hSw; go_simp⟩) (by assumption) ?_; simp only [Act.put, lsA, lsB, lsC]; refine tkQ (i := 9) (oi := { dst := some 18, op := Op.extract (Operand.tmp 9) 0, type := 9, pos := "pool.go:212", after := #[{ on := 8, ground := Ground.data }], guard := none }) (v := .string N) rfl (by kernel_rfl) (Or.inl ⟨by rfl, fun w' hSw => by clear hSw; go_simp⟩) (by assumption) ?_; simp only [Act.put, lsA, lsB, lsC]; refine tkQ (i := 10) (oi := { dst := some 19, op := Op.extract (Operand.tmp 9) 1, type := 24, pos := "pool.go:212", after := #[{ on := 8, ground := Ground.data }, { on := 11, ground := Ground.gcOnly Departure.lateStores }], guard := none }) (v := .int .i64 c1) rfl (by kernel_rfl) (Or.inl ⟨by rfl, fun w' hSw => by clear hSw; go_simp⟩) (by assumption) ?_; simp only [Act.put, lsA, lsB, lsC]; refine tkQ (i := 11) (oi := { dst := some 6, op := Op.assign (Operand.tmp 18), type := 9, pos := "pool.go:212", after := #[{ on := 9, ground := Ground.data }, { on := 7, ground := Ground.chain }, { on := 0, ground := Ground.phase }, { on := 1, ground := Ground.phase }, { on := 2, ground := Ground.phase }, { on := 3, ground := Ground.phase }, { on := 4, ground := Ground.phase }, { on := 5, ground := Ground.phase }, { on := 6, ground := Ground.phase }, { on := 7, ground := Ground.phase }, { on := 8, ground := Ground.phase }, { on := 9, ground := Ground.phase }, { on := 10, ground := Ground.textOnly Departure.lateStores }], guard := none }) (v := .string N) rfl (by kernel_rfl) (Or.inl ⟨by rfl, fun w' hSw => by clear hSw; go_simp⟩) (by assumption) ?_
  simp only [Act.put, lsA, lsB, lsC]; refine tkQ (i := 12) (oi := { dst := some 7, op := Op.assign (Operand.tmp 19), type := 24, pos := "pool.go:212", after := #[{ on := 10, ground := Ground.data }, { on := 11, ground := Ground.chain }, { on := 0, ground := Ground.phase }, { on := 1, ground := Ground.phase }, { on := 2, ground := Ground.phase }, { on := 3, ground := Ground.phase }, { on := 4, ground := Ground.phase }, { on := 5, ground := Ground.phase }, { on := 6, ground := Ground.phase }, { on := 7, ground := Ground.phase }, { on := 8, ground := Ground.phase }, { on := 9, ground := Ground.phase }, { on := 10, ground := Ground.phase }, { on := 11, ground := Ground.phase }], guard := none }) (v := .int .i64 c1) rfl (by kernel_rfl) (Or.inl ⟨by rfl, fun w' hSw => by clear hSw; go_simp⟩) (by assumption) ?_; simp only [Act.put, lsA, lsB, lsC]; refine wpAnyH_done (by kernel_rfl) ?_ _; refine NoPanic.normal ?_; have HX := hide hHeld; have HPX := hide (HP.out.more hHeld); clear hHeld HX3 HSE HDR HLD HP; obtain ⟨q0, q1, q2, q3, q4, q5, t0, t1, t2, t3, t4, t5, tl⟩ := HPX.out
  by_cases hz : c1 = 0
  · have HR2 := HR.out
    rw [if_neg (by simp [hz])] at HR2; have HR3 := hide HR2; subst hz; clear HR2 HR q0 q1 q2 q3 q4 q5 t0 t1 t2 t3 t4 t5 tl
    go_wp2_with fail
    refine (HPD.out _).mono ?_; rintro e w4 ⟨Bq, aq, cq, rfl, hq1, hq2, ho4, hq3⟩; have HQ := hide (And.intro hq1 (And.intro hq2 (And.intro ho4 hq3))); have HP4 := hide (HPX.out.more ho4); have HO4 := hide (o2 (o2 HO0.out HX.out) ho4); have HXL := hide HPX.out.lt; clear hq1 hq2 hq3 ho4 HPX
    go_upto_region 5 with fail
    have HO5 := hide (onlyA w4 (.cells #[.int .i64 pg.lsn, .int .i64 pg.kind, .int .i64 pg.level, .int .i64 pg.right, .string pg.high, .slice aq pg.items.length cq] 45)); have HB5 := hide (Pag.new w4 (.int .i64 pg.lsn) (.int .i64 pg.kind) (.int .i64 pg.level) (.int .i64 pg.right) (.string pg.high) (.slice aq pg.items.length cq)); obtain ⟨W5, hW5⟩ : ∃ W5, w4.alloc (.cells #[.int .i64 pg.lsn, .int .i64 pg.kind, .int .i64 pg.level, .int .i64 pg.right, .string pg.high, .slice aq pg.items.length cq] 45) = W5 := ⟨_, rfl⟩; rw [hW5] at HO5 HB5 ⊢; have HP5 := hide (HP4.out.more HO5.out); have hlt : w.heap.size < w4.heap.size := HP4.out.lt
    have tn : ¬ w.heap.size = w4.heap.size := by omega
    have tn2 : ¬ w4.heap.size = w.heap.size := by omega
    have HLT := hide (show w.heap.size < x3.heap.size from HXL.out); obtain ⟨b4, hb4⟩ : ∃ b4, w4.heap.size = b4 := ⟨_, rfl⟩; rw [hb4] at HB5 tn tn2 ⊢; clear hW5 HP4 hlt hb4; obtain ⟨q0, q1, q2, q3, q4, q5, t0, t1, t2, t3, t4, t5, tl⟩ := HP5.out; obtain ⟨p0, p1, p2, p3, p4, p5, _⟩ := HB5.out
    by_cases hy : c4 = 0
    · have HR5 := HR3.out
      rw [if_neg (by simp [hy])] at HR5; have HR6 := hide HR5; subst hy; clear HR5 HR3
      go_wp2_with fail
      refine bodyPost_ret (results_page rfl rfl (Pag.six HP5.out _ _ _ _ _ _)) rfl ?_; rw [← HR6.out]; obtain ⟨hq1, hq2, ho4, hq3⟩ := HQ.out; have hsix := Only.six W5 w.heap.size (.int .i64 pg.lsn) (.int .i64 pg.kind) (.int .i64 pg.level) (.int .i64 pg.right) (.string pg.high) (.slice aq pg.items.length cq); have hl3 := HLT.out
      exact ⟨Bq, aq, cq, rfl, (hq1.more HO5.out).kept hsix (fun h0 e => by have := hq3 h0; omega), hq2, (o2 HO4.out HO5.out).trans hsix (fun k hk e => by omega), fun h0 => by have := hq3 h0; omega⟩
    · have HR5 := HR3.out
      rw [if_pos hy] at HR5; have HR6 := hide HR5
      have hb : (c4 == 0) = false := by simp [hy]
      clear HR5 HR3 hy
      go_wp2_with fail
      refine bodyPost_ret (results_page rfl rfl (Pag.six HP5.out _ _ _ _ _ _)) rfl ?_; rw [← HR6.out]; refine Res.none 60 ?_
      exact (o2 HO4.out HO5.out).trans (Only.six _ _ _ _ _ _ _ _) (fun k hk e => by omega)
  · have HR2 := HR.out
    rw [if_pos hz] at HR2; have HR3 := hide HR2
    have hb : (c1 == 0) = false := by simp [hz]
    clear HR2 HR hz
    go_wp2_with fail
    refine bodyPost_ret (results_page rfl rfl (Pag.six HPX.out _ _ _ _ _ _)) rfl ?_; rw [← HR3.out]; refine Res.none c1 ?_
    exact (o2 HO0.out HX.out).trans (Only.six _ _ _ _ _ _ _ _) (fun k hk e => by omega)
noncomputable def Pl.setAt (P : Pl) (i n : Nat) (body : Pg) : Pl :=
  if (P.ow n).isSome = true then P.setF i ⟨body, (n : Int), true⟩ else { P.setF i ⟨body, (n : Int), true⟩ with ow := fun j => if j = n then some body.lsn else P.ow j }
noncomputable def Pl.set (P : Pl) (D : Dk) (G : Lg) (n : Int) (body : Pg) (pick : Int) : Wo :=
  if P.hasC n ≠ 0 then ⟨P.hasC n, P, D, G⟩
  else if body.setC ≠ 0 then ⟨body.setC, P, D, G⟩
  else match P.idx n with
    | some i => ⟨0, P.setAt i n.toNat body, D, G⟩
    | none => match (P.take D G pick).2 with
      | some i => ⟨0, (P.take D G pick).1.P.setAt i n.toNat body, (P.take D G pick).1.D, (P.take D G pick).1.G⟩
      | none => (P.take D G pick).1
theorem take_some {P : Pl} {D : Dk} {G : Lg} {pick : Int} {i : Nat} (hl : 1 ≤ P.fs.length) (h : (P.take D G pick).2 = some i) : (P.take D G pick).1.c = 0 ∧ i < (P.take D G pick).1.P.fs.length ∧ (P.take D G pick).1.P.pages = P.pages := by
  unfold Pl.take at h ⊢
  cases hx : P.idx (-1) with
  | some j =>
    rw [hx] at h
    dsimp only at h ⊢
    injection h with h
    subst h
    exact ⟨rfl, (idx_lt hx).1, rfl⟩
  | none =>
    rw [hx] at h
    dsimp only at h ⊢
    have hj : (pick % (P.fs.length : Int)).toNat < P.fs.length := by
      have := Int.emod_nonneg pick (b := (P.fs.length : Int)) (by omega); have := Int.emod_lt_of_pos pick (b := (P.fs.length : Int)) (by omega)
      omega
    obtain ⟨j, hjj⟩ : ∃ j, (pick % (P.fs.length : Int)).toNat = j := ⟨_, rfl⟩; rw [hjj] at h hj ⊢; unfold Pl.takeAt at h ⊢
    split at h
    · rename_i h1
      rw [if_pos h1]
      split at h
      · rename_i h2
        rw [if_pos h2]
        injection h with h
        subst h; refine ⟨rfl, ?_, (write_fs _ _ _ _ _).2.1⟩
        show _ < (List.set _ _ _).length
        rw [List.length_set, (write_fs _ _ _ _ _).1]
        exact hj
      · cases h
    · rename_i h1
      rw [if_neg h1]
      injection h with h
      subst h; refine ⟨rfl, ?_, rfl⟩
      show _ < (List.set _ _ _).length
      rw [List.length_set]
      exact hj
theorem take_none {P : Pl} {D : Dk} {G : Lg} {pick : Int} (h : (P.take D G pick).2 = none) : (P.take D G pick).1.c ≠ 0 := by
  unfold Pl.take at h ⊢
  cases hx : P.idx (-1) with
  | some j =>
    rw [hx] at h
    cases h
  | none =>
    rw [hx] at h
    dsimp only at h ⊢
    unfold Pl.takeAt at h ⊢
    split at h
    · rename_i h1
      rw [if_pos h1]
      split at h
      · cases h
      · rename_i h2
        rw [if_neg h2]
        exact h2
    · cases h
theorem Sh.put {W W' : World} {p d l fb mb g m : Nat} {P : Pl} {D : Dk} {G : Lg} {B : Nat} {ao : Option Addr} {cp : Nat} {v8 : Value} {T : Nat → Prop} (h : Sh W p d l fb mb g m P D G B ao cp v8 T) {ow : Nat → Option Int} (ho : Only (fun k => k = mb) W W') (hm : Ows W' mb P.pages ow) : Sh W' p d l fb mb g m { P with ow := ow } D G B ao cp v8 T := by
  have hp := h.pool
  have k : ∀ (j : Nat) (v : Value), W.cell? ⟨p, j, Option.none⟩ = some v → W'.cell? ⟨p, j, Option.none⟩ = some v := fun j v hj => (ho.cell (p := ⟨p, j, Option.none⟩) hp.lt hp.n2).trans hj
  refine h.pooled ho (fun k _ e => .inr (.inr (.inl e))) ⟨k _ _ hp.c0, k _ _ hp.c1, k _ _ hp.c2, k _ _ hp.c3, k _ _ hp.c4, k _ _ hp.c5, fun j => (ho.frozen (p := ⟨p, j, Option.none⟩) hp.lt hp.n2).trans (hp.fz j), Nat.lt_of_lt_of_le hp.lt ho.size, fun i hi => (hp.fr i hi).kept ho hp.n3 (fun B hB e => hp.t3 (e ▸ hB)), fun j => (ho.frozen (p := ⟨fb, j, Option.none⟩) hp.flt hp.n3).trans (hp.ffz j), Nat.lt_of_lt_of_le hp.flt ho.size, hm, hp.n1, hp.n2, hp.n3, hp.t1, hp.t2, hp.t3, hp.nf, hp.np, hp.nm, hp.nn, fun k hk => hp.new k (Nat.le_trans ho.size hk)⟩ (fun _ e => e) (.inl rfl)
structure Stq (w W : World) (p d l fb mb g m : Nat) (P : Pl) (D : Dk) (G : Lg) (B : Nat) (ao : Option Addr) (cp : Nat) (v8 : Value) (T : Nat → Prop) (mb1 : Nat) (T1 : Nat → Prop) (body : Pg) (Bb : Nat) (ab : Option Addr) (cb : Nat) : Prop where
  sh : Sh W p d l fb mb1 g m P D G B ao cp v8 T1
  sub : ∀ k, T1 k → T k
  keep : ∀ k, k < w.heap.size → T k → T1 k
  mbn : mb1 = mb ∨ w.heap.size ≤ mb1
  only : Only (fun k => own d g m k ∨ k = l ∨ k = p ∨ k = fb ∨ k = mb) w W
  box : Pag W w.heap.size (.int .i64 body.lsn) (.int .i64 body.kind) (.int .i64 body.level) (.int .i64 body.right) (.string body.high) (.slice ab body.items.length cb)
  strs : Strs W Bb ab body.items
  high : body.high.size ≤ 140737488355328
  lsn : body.lsn < 9223372036854775808
  bp : w.heap.size ≠ p ∧ w.heap.size ≠ fb ∧ w.heap.size ≠ mb
theorem Stq.more {w W W' : World} {p d l fb mb g m : Nat} {P : Pl} {D : Dk} {G : Lg} {B : Nat} {ao : Option Addr} {cp : Nat} {v8 : Value} {T : Nat → Prop} {mb1 : Nat} {T1 : Nat → Prop} {body : Pg} {Bb : Nat} {ab : Option Addr} {cb : Nat} (h : Stq w W p d l fb mb g m P D G B ao cp v8 T mb1 T1 body Bb ab cb) (ho : Only (fun _ => False) W W') : Stq w W' p d l fb mb g m P D G B ao cp v8 T mb1 T1 body Bb ab cb :=
  ⟨h.sh.more ho, h.sub, h.keep, h.mbn, h.only.trans ho (fun _ _ e => e.elim), h.box.more ho, h.strs.more ho, h.high, h.lsn, h.bp⟩
set_option maxRecDepth 100000 in
set_option maxHeartbeats 3200000 in
theorem oset_any (w : World) (p d l fb mb g m : Nat) (P : Pl) (D : Dk) (G : Lg) (B : Nat) (ao : Option Addr) (cp : Nat) (v8 : Value) (T : Nat → Prop) (h : Sh w p d l fb mb g m P D G B ao cp v8 T) (hok : P.Ok) (page pick : Int) (body : Pg) (Bb : Nat) (ab : Option Addr) (cb : Nat) (hS : Strs w Bb ab body.items) (hB : 0 < body.items.length → ¬ own d g m Bb ∧ Bb ≠ l ∧ Bb ≠ p ∧ Bb ≠ fb ∧ Bb ≠ mb) (hh : body.high.size ≤ 140737488355328) (hl : body.lsn < 9223372036854775808) :
    Calls Tryz.prog 17 #[.pointer (some ⟨p, 0, none⟩), .int .i64 page, .agg #[.int .i64 body.lsn, .int .i64 body.kind, .int .i64 body.level, .int .i64 body.right, .string body.high, .slice ab body.items.length cb], .int .i64 pick] w fun e w' =>
      e = .returned (.int .i64 (P.set D G page body pick).c) ∧ ShR w w' p d l fb mb g m B ao cp v8 T (P.set D G page body pick) := by
  obtain ⟨R, hR⟩ : ∃ R, P.set D G page body pick = R := ⟨_, rfl⟩; rw [hR]; have hoA := onlyA w (.cells #[.int .i64 body.lsn, .int .i64 body.kind, .int .i64 body.level, .int .i64 body.right, .string body.high, .slice ab body.items.length cb] 45); have hPg := Pag.new w (.int .i64 body.lsn) (.int .i64 body.kind) (.int .i64 body.level) (.int .i64 body.right) (.string body.high) (.slice ab body.items.length cb); have hpl := h.pool.lt; have hfl := h.pool.flt; have HX := hide (show Stq w _ p d l fb mb g m P D G B ao cp v8 T mb T body Bb ab cb from ⟨h.more hoA, fun _ e => e, fun _ _ e => e, .inl rfl, hoA.mono (fun _ _ e => e.elim), hPg, hS.more hoA, hh, hl, by omega, by omega, by have := h.pool.map.lt; omega⟩); have hbT := h.xT _ (h.pool.new w.heap.size (Nat.le_refl _)); have HBT := hide (And.intro hbT hB); have hln := h.pool.nf.1; have HOK := hide hok; clear h hoA hPg hpl hfl hS hB hh hl hbT hok; unfold Pl.set at hR
  by_cases hp : P.hasC page ≠ 0
  · rw [if_pos hp] at hR
    have HR := hide hR
    have hb : (P.hasC page == 0) = false := by simp [hp]
    clear hR hp; obtain ⟨c, hc⟩ : ∃ c, P.hasC page = c := ⟨_, rfl⟩; rw [hc] at HR hb; have HC := hide hc; clear hc
    go_enter Tryz.func17, Tryz.ntmps17
    go_wp2_with fail
    refine (ohas_any _ p d l fb mb P T HX.out.sh.pool page).mono ?_; rintro e w1 ⟨rfl, hw1⟩; rw [HC.out]
    have HX1 : Hid (Stq w w1 p d l fb mb g m P D G B ao cp v8 T mb T body Bb ab cb) := by rw [hw1]; exact HX.out
    clear hw1 HX
    go_wp2_with fail
    go_ret
    rw [← HR.out]
    exact ⟨rfl, mb, T, HX1.out.sh, HX1.out.sub, HX1.out.keep, HX1.out.mbn, HX1.out.only⟩
  · have hp0 : P.hasC page = 0 := by simpa using hp
    rw [if_neg hp] at hR
    obtain ⟨n, hn, hnl⟩ : ∃ n : Nat, page = (n : Int) ∧ n < P.pages := by
      unfold Pl.hasC at hp0
      split at hp0
      · exact ⟨page.toNat, by omega, by omega⟩
      · cases hp0
    subst hn; rw [Int.toNat_natCast] at hR; have HN := hide hnl; have HC := hide hp0; clear hp hp0 hnl
    by_cases hs : body.setC ≠ 0
    · rw [if_pos hs] at hR
      have HR := hide hR; obtain ⟨c, hc⟩ : ∃ c, body.setC = c := ⟨_, rfl⟩; rw [hc] at HR hs
      have hb : (c == 0) = false := by simp [hs]
      have HC2 := hide hc; clear hc hR hs
      go_enter Tryz.func17, Tryz.ntmps17
      go_wp2_with fail
      refine (ohas_any _ p d l fb mb P T HX.out.sh.pool (n : Int)).mono ?_; rintro e w1 ⟨rfl, hw1⟩; rw [HC.out]
      have HX1 : Hid (Stq w w1 p d l fb mb g m P D G B ao cp v8 T mb T body Bb ab cb) := by rw [hw1]; exact HX.out
      clear hw1 HX; obtain ⟨p0, p1, p2, p3, p4, p5, _⟩ := HX1.out.box
      go_wp2_with fail
      refine (mayBeSet_any _ body Bb cb ab HX1.out.strs HX1.out.high HX1.out.lsn).mono ?_; rintro e w2 ⟨rfl, hx2⟩; rw [HC2.out]; have HX2 := hide (HX1.out.more hx2); clear hx2 HX1 p0 p1 p2 p3 p4 p5
      go_wp2_with fail
      go_ret
      rw [← HR.out]
      exact ⟨rfl, mb, T, HX2.out.sh, HX2.out.sub, HX2.out.keep, HX2.out.mbn, HX2.out.only⟩
    · have hs0 : body.setC = 0 := by simpa using hs
      rw [if_neg hs] at hR; have HC2 := hide hs0; clear hs hs0
      cases hx : P.idx (n : Int) with
      | some i =>
        rw [hx] at hR
        dsimp only at hR
        have HW := hide hR; have hil := (idx_lt hx).1
        have hv : P.ptr fb (n : Int) = .pointer (some ⟨fb, i * 8, none⟩) := by unfold Pl.ptr; rw [hx]; rfl
        have HV := hide hv; have HI := hide hil; clear hR hx hil hv
        go_enter Tryz.func17, Tryz.ntmps17
        go_wp2_with fail
        refine (ohas_any _ p d l fb mb P T HX.out.sh.pool (n : Int)).mono ?_; rintro e w1 ⟨rfl, hw1⟩; rw [HC.out]
        have HX1 : Hid (Stq w w1 p d l fb mb g m P D G B ao cp v8 T mb T body Bb ab cb) := by rw [hw1]; exact HX.out
        clear hw1 HX; obtain ⟨p0, p1, p2, p3, p4, p5, _⟩ := HX1.out.box
        go_wp2_with fail
        refine (mayBeSet_any _ body Bb cb ab HX1.out.strs HX1.out.high HX1.out.lsn).mono ?_; rintro e w2 ⟨rfl, hx2⟩; rw [HC2.out]; have HX2 := hide (HX1.out.more hx2); clear hx2 HX1 p0 p1 p2 p3 p4 p5
        go_wp2_with fail
        refine (holder_any _ p d l fb mb P T HX2.out.sh.pool (n : Int)).mono ?_; rintro e w3 ⟨rfl, hw3⟩; rw [HV.out]
        have HX3 : Hid (Stq w w3 p d l fb mb g m P D G B ao cp v8 T mb T body Bb ab cb) := by rw [hw3]; exact HX2.out
        clear hw3 HX2; have HN1 := HN; clear HBT HOK HN HV HC2; obtain ⟨p0, p1, p2, p3, p4, p5, _⟩ := HX3.out.box
        go_wp2_with fail
        refine (apart_any _ body Bb cb ab HX3.out.strs).mono ?_; rintro e w5 ⟨Bq, aq, cq, rfl, hq1, hq2, ho5, hq3⟩; have hx5 := HX3.out.more ho5; have hL := hx5.sh.lay i HI.out ⟨body, (n : Int), true⟩ Bq aq cq hq1 hq2 (fun h0 => HX3.out.sh.pool.new _ (hq3 h0)) hx5.high hx5.lsn (.inr ⟨by show (0 : Int) ≤ (n : Int); omega, by have := HN1.out; show (n : Int) < _; omega⟩); rw [show (⟨body, (n : Int), true⟩ : Fm).cl aq cq = [.int .i64 body.lsn, .int .i64 body.kind, .int .i64 body.level, .int .i64 body.right, .string body.high, .slice aq body.items.length cq, .int .i64 (n : Int), .bool true] from rfl, setCells8] at hL; have HL := hide hL; obtain ⟨u0, u1, u2, u3, u4, u5, u6, u7, ⟨k0, k1, k2, k3, k4, k5, k6, k7⟩, ⟨f0, f1, f2, f3, f4, f5, f6, f7⟩⟩ := hx5.sh.pool.slots i HI.out; have HX5 := hide hx5; clear hL hx5 hq1 hq2 hq3 ho5 p0 p1 p2 p3 p4 p5
        go_wp2_with fail
        refine (owes_any _ p d l fb mb (P.setF i ⟨body, (n : Int), true⟩) T HL.out.1.pool n HN1.out).mono ?_; rintro e w6 ⟨rfl, hw6⟩
        have HL6 : Hid (Sh w6 p d l fb mb g m (P.setF i ⟨body, (n : Int), true⟩) D G B ao cp v8 T ∧ Only (fun k => k = fb) w5 w6) := by rw [hw6]; exact HL.out
        clear hw6 HL k0 k1 k2 k3 k4 k5 k6 k7 f0 f1 f2 f3 f4 f5 f6 f7; have hwv := HW.out; unfold Pl.setAt at hwv
        show _
        cases how : (P.ow n).isSome with
        | true =>
          rw [if_pos how] at hwv; have HW2 := hide hwv; rw [show ((P.setF i ⟨body, (n : Int), true⟩).ow n).isSome = true from how]; clear hwv HW how
          go_wp2_with fail
          go_ret
          rw [← HW2.out]
          exact ⟨rfl, mb, T, HL6.out.1, HX5.out.sub, HX5.out.keep, HX5.out.mbn, HX5.out.only.trans HL6.out.2 (fun _ _ e => .inr (.inr (.inr (.inl e))))⟩
        | false =>
          rw [if_neg (by rw [how]; simp)] at hwv; have HW2 := hide hwv; rw [show ((P.setF i ⟨body, (n : Int), true⟩).ow n).isSome = false from how]; have c5 := HL6.out.1.pool.c5; have q0 := (HX5.out.box.kept HL6.out.2 (fun e => HX5.out.bp.2.1 e)).c0; have hm6 := HL6.out.1.pool.map.kept (Only.drew (fun _ => False) w6) (fun h => h); obtain ⟨w7, hpt, hm7, ho7⟩ := hm6.put (by have := HL6.out.1.pool.np.2; omega) HN1.out body.lsn; have HL7 := hide (And.intro ((HL6.out.1.more (Only.drew (fun _ => False) w6)).put ho7 hm7) ((Only.drew (fun k => k = mb) w6).trans ho7 (fun _ _ e => e))); have HMB := hide (HL6.out.1.pool.map.lt); clear hwv HW how hm6 hm7 ho7
          go_upto_region 15 with fail
          go_region
          go_wp2_with fail
          go_ret
          rw [← HW2.out]; refine ⟨rfl, mb, T, HL7.out.1, HX5.out.sub, HX5.out.keep, HX5.out.mbn, (HX5.out.only.trans HL6.out.2 (fun _ _ e => .inr (.inr (.inr (.inl e))))).trans HL7.out.2 (fun k hk e => ?_)⟩
          rcases HX5.out.mbn with e2 | e2
          · exact .inr (.inr (.inr (.inr (e.trans e2))))
          · omega
      | none =>
        rw [hx] at hR
        dsimp only at hR
        have hv : P.ptr fb (n : Int) = .pointer none := by unfold Pl.ptr; rw [hx]; rfl
        have HV := hide hv; have HTK := hide (fun W (hW : Sh W p d l fb mb g m P D G B ao cp v8 T) => take_any W p d l fb mb g m P D G B ao cp v8 T hW HOK.out pick)
        have hts := fun i => take_some (P := P) (D := D) (G := G) (pick := pick) (i := i) hln
        have htn := take_none (P := P) (D := D) (G := G) (pick := pick); obtain ⟨K, hK⟩ : ∃ K, P.take D G pick = K := ⟨_, rfl⟩; rw [hK] at hR HTK htn
        have hts2 : ∀ i, K.2 = some i → K.1.c = 0 ∧ i < K.1.P.fs.length ∧ K.1.P.pages = P.pages := fun i => by have := hts i; rwa [hK] at this
        obtain ⟨O, q⟩ := K
        dsimp only at hR HTK htn hts2
        have HTS := hide (And.intro hts2 htn); have HRR := hide hR; clear hR hx hv hts hts2 htn hK
        go_enter Tryz.func17, Tryz.ntmps17
        go_wp2_with fail
        refine (ohas_any _ p d l fb mb P T HX.out.sh.pool (n : Int)).mono ?_; rintro e w1 ⟨rfl, hw1⟩; rw [HC.out]
        have HX1 : Hid (Stq w w1 p d l fb mb g m P D G B ao cp v8 T mb T body Bb ab cb) := by rw [hw1]; exact HX.out
        clear hw1 HX; obtain ⟨p0, p1, p2, p3, p4, p5, _⟩ := HX1.out.box
        go_wp2_with fail
        refine (mayBeSet_any _ body Bb cb ab HX1.out.strs HX1.out.high HX1.out.lsn).mono ?_; rintro e w2 ⟨rfl, hx2⟩; rw [HC2.out]; have HX2 := hide (HX1.out.more hx2); clear hx2 HX1 p0 p1 p2 p3 p4 p5
        go_wp2_with fail
        refine (holder_any _ p d l fb mb P T HX2.out.sh.pool (n : Int)).mono ?_; rintro e w3 ⟨rfl, hw3⟩; rw [HV.out]
        have HX3 : Hid (Stq w w3 p d l fb mb g m P D G B ao cp v8 T mb T body Bb ab cb) := by rw [hw3]; exact HX2.out
        clear hw3 HX2 HV HC2
        go_wp2_with fail
        refine (HTK.out _ HX3.out.sh).mono ?_; rintro e w4 ⟨rfl, mb4, T4, hs4, ht4, hk4, hm4, ho4⟩
        have HX4 : Hid (Stq w w4 p d l fb mb g m O.P O.D O.G B ao cp v8 T mb4 T4 body Bb ab cb) := by
          have hb1 := HX3.out.bp; have hb2 := HBT.out.1; have hsz := HX3.out.box.lt; refine ⟨hs4, fun k e => HX3.out.sub k (ht4 k e), fun k hk e => hk4 k (by omega) (HX3.out.keep k hk e), hm4.elim .inl (fun e => .inr (by omega)), HX3.out.only.trans ho4 (fun _ _ e => e), HX3.out.box.kept ho4 (fun e => ?_), HX3.out.strs.kept ho4 (fun h0 e => ?_), HX3.out.high, HX3.out.lsn, hb1⟩
          · rcases e with e | e | e | e | e
            · exact hb2.1 e
            · exact hb2.2 e
            · exact hb1.1 e
            · exact hb1.2.1 e
            · exact hb1.2.2 e
          · obtain ⟨b1, b2, b3, b4, b5⟩ := HBT.out.2 h0
            rcases e with e | e | e | e | e
            · exact b1 e
            · exact b2 e
            · exact b3 e
            · exact b4 e
            · exact b5 e
        clear hs4 ht4 hk4 ho4 hm4 HX3 HTK HBT HOK
        cases q with
        | none =>
          have hcz := HTS.out.2 rfl; have HW : Hid (O = R) := HRR.out; obtain ⟨c, hc⟩ : ∃ c, O.c = c := ⟨_, rfl⟩; rw [hc] at hcz ⊢; have HC3 := hide hc
          have hb : (c == 0) = false := by simp [hcz]
          clear hcz HTS HRR hc
          go_wp2_with fail
          go_ret
          rw [← HW.out]
          exact ⟨by rw [HC3.out]; rfl, mb4, T4, HX4.out.sh, HX4.out.sub, HX4.out.keep, HX4.out.mbn, HX4.out.only⟩
        | some i =>
          obtain ⟨hc0, hil, hpp⟩ := HTS.out.1 i rfl; have HW : Hid (⟨0, O.P.setAt i n body, O.D, O.G⟩ = R) := HRR.out; rw [hc0]; have HI := hide hil
          have HN1 : Hid (n < O.P.pages) := by unfold Hid; rw [hpp]; exact HN.out
          obtain ⟨P4, hP4⟩ : ∃ P4, O.P = P4 := ⟨_, rfl⟩; obtain ⟨D4, hD4⟩ : ∃ D4, O.D = D4 := ⟨_, rfl⟩; obtain ⟨G4, hG4⟩ : ∃ G4, O.G = G4 := ⟨_, rfl⟩; rw [hP4] at HW HI HN1 HX4; rw [hD4, hG4] at HW HX4; unfold fptr
          dsimp only [Option.map]
          clear hc0 hil hpp HTS HRR HN hP4 hD4 hG4; obtain ⟨p0, p1, p2, p3, p4, p5, _⟩ := HX4.out.box
          go_wp2_with fail
          refine (apart_any _ body Bb cb ab HX4.out.strs).mono ?_; rintro e w5 ⟨Bq, aq, cq, rfl, hq1, hq2, ho5, hq3⟩; have hx5 := HX4.out.more ho5; have hL := hx5.sh.lay i HI.out ⟨body, (n : Int), true⟩ Bq aq cq hq1 hq2 (fun h0 => HX4.out.sh.pool.new _ (hq3 h0)) hx5.high hx5.lsn (.inr ⟨by show (0 : Int) ≤ (n : Int); omega, by have := HN1.out; show (n : Int) < _; omega⟩); rw [show (⟨body, (n : Int), true⟩ : Fm).cl aq cq = [.int .i64 body.lsn, .int .i64 body.kind, .int .i64 body.level, .int .i64 body.right, .string body.high, .slice aq body.items.length cq, .int .i64 (n : Int), .bool true] from rfl, setCells8] at hL; have HL := hide hL; obtain ⟨u0, u1, u2, u3, u4, u5, u6, u7, ⟨k0, k1, k2, k3, k4, k5, k6, k7⟩, ⟨f0, f1, f2, f3, f4, f5, f6, f7⟩⟩ := hx5.sh.pool.slots i HI.out; have HX5 := hide hx5; clear hL hx5 hq1 hq2 hq3 ho5 p0 p1 p2 p3 p4 p5
          go_wp2_with fail
          refine (owes_any _ p d l fb mb4 (P4.setF i ⟨body, (n : Int), true⟩) T4 HL.out.1.pool n HN1.out).mono ?_; rintro e w6 ⟨rfl, hw6⟩
          have HL6 : Hid (Sh w6 p d l fb mb4 g m (P4.setF i ⟨body, (n : Int), true⟩) D4 G4 B ao cp v8 T4 ∧ Only (fun k => k = fb) w5 w6) := by rw [hw6]; exact HL.out
          clear hw6 HL k0 k1 k2 k3 k4 k5 k6 k7 f0 f1 f2 f3 f4 f5 f6 f7; have hwv := HW.out; unfold Pl.setAt at hwv
          show _
          cases how : (P4.ow n).isSome with
          | true =>
            rw [if_pos how] at hwv; have HW2 := hide hwv; rw [show ((P4.setF i ⟨body, (n : Int), true⟩).ow n).isSome = true from how]; clear hwv HW how
            go_wp2_with fail
            go_ret
            rw [← HW2.out]
            exact ⟨rfl, mb4, T4, HL6.out.1, HX5.out.sub, HX5.out.keep, HX5.out.mbn, HX5.out.only.trans HL6.out.2 (fun _ _ e => .inr (.inr (.inr (.inl e))))⟩
          | false =>
            rw [if_neg (by rw [how]; simp)] at hwv; have HW2 := hide hwv; rw [show ((P4.setF i ⟨body, (n : Int), true⟩).ow n).isSome = false from how]; have c5 := HL6.out.1.pool.c5; have q0 := (HX5.out.box.kept HL6.out.2 (fun e => HX5.out.bp.2.1 e)).c0; have hm6 := HL6.out.1.pool.map.kept (Only.drew (fun _ => False) w6) (fun h => h); obtain ⟨w7, hpt, hm7, ho7⟩ := hm6.put (by have := HL6.out.1.pool.np.2; omega) HN1.out body.lsn; have HL7 := hide (And.intro ((HL6.out.1.more (Only.drew (fun _ => False) w6)).put ho7 hm7) ((Only.drew (fun k => k = mb4) w6).trans ho7 (fun _ _ e => e))); have HMB := hide (HL6.out.1.pool.map.lt); clear hwv HW how hm6 hm7 ho7
            go_upto_region 15 with fail
            go_region
            go_wp2_with fail
            go_ret
            rw [← HW2.out]; refine ⟨rfl, mb4, T4, HL7.out.1, HX5.out.sub, HX5.out.keep, HX5.out.mbn, (HX5.out.only.trans HL6.out.2 (fun _ _ e => .inr (.inr (.inr (.inl e))))).trans HL7.out.2 (fun k hk e => ?_)⟩
            rcases HX5.out.mbn with e2 | e2
            · exact .inr (.inr (.inr (.inr (e.trans e2))))
            · omega
theorem PoolAt.alloc {T : Nat → Prop} {W : World} {p d l fb mb : Nat} {P : Pl} (h : PoolAt W p d l fb mb P T) (o : Obj) : PoolAt (W.alloc o) p d l fb mb P (fun k => T k ∧ k ≠ W.heap.size) := by
  have h2 := h.more (onlyA W o); have hl := h.lt; have hf := h.flt; have hm := h.map.lt; refine ⟨h2.c0, h2.c1, h2.c2, h2.c3, h2.c4, h2.c5, h2.fz, h2.lt, fun i hi => ?_, h2.ffz, h2.flt, h2.map, h2.n1, h2.n2, h2.n3, fun e => h.t1 e.1, fun e => h.t2 e.1, fun e => h.t3 e.1, h2.nf, h2.np, h2.nm, h2.nn, fun k hk => ⟨h2.new k hk, fun e => ?_⟩⟩
  · obtain ⟨⟨B, ao, cp, h1, h2, h3, h4⟩, h5, h6⟩ := h.fr i hi
    obtain ⟨g1, g2, g3⟩ := (h.fr i hi).kept (onlyA W o) (fun h => h) (fun _ _ h => h)
    have hk : ∀ j v, W.cell? ⟨fb, i * 8 + j, none⟩ = some v → (W.alloc o).cell? ⟨fb, i * 8 + j, none⟩ = some v := fun j v hj => ((onlyA W o).cell (p := ⟨fb, i * 8 + j, none⟩) hf (fun h => h)).trans hj
    exact ⟨⟨B, ao, cp, fun j v hv => hk j v (h1 j v hv), h2.more (onlyA W o), h3, fun h0 => ⟨h4 h0, fun e => by have := h2.lt h0; omega⟩⟩, h5, h6⟩
  · have : (W.alloc o).heap.size = W.heap.size + 1 := by simp
    omega
theorem Sh.alloc {W : World} {p d l fb mb g m : Nat} {P : Pl} {D : Dk} {G : Lg} {B : Nat} {ao : Option Addr} {cp : Nat} {v8 : Value} {T : Nat → Prop} (h : Sh W p d l fb mb g m P D G B ao cp v8 T) (o : Obj) : Sh (W.alloc o) p d l fb mb g m P D G B ao cp v8 (fun k => T k ∧ k ≠ W.heap.size) :=
  h.pooled (onlyA W o) (fun _ _ e => e.elim) (h.pool.alloc o) (fun _ e => e.1) (.inl rfl)
theorem Sh.side {W W' : World} {p d l fb mb g m : Nat} {P : Pl} {D : Dk} {G : Lg} {B : Nat} {ao : Option Addr} {cp : Nat} {v8 : Value} {T : Nat → Prop} {S : Nat → Prop} (h : Sh W p d l fb mb g m P D G B ao cp v8 T) (ho : Only S W W') (hS : ∀ k, S k → ¬ own d g m k ∧ k ≠ l ∧ k ≠ p ∧ k ≠ fb ∧ k ≠ mb ∧ ¬ T k) (hB : 0 < G.stream.length → ¬ S B) : Sh W' p d l fb mb g m P D G B ao cp v8 T :=
  ⟨h.pool.kept ho (fun e => (hS p e).2.2.1 rfl) (fun e => (hS fb e).2.2.2.1 rfl) (fun e => (hS mb e).2.2.2.2.1 rfl) (fun k hk e => (hS k e).2.2.2.2.2 hk), h.dsk.kept ho (fun e => (hS d e).1 (.inl rfl)) (fun e => (hS g e).1 (.inr (.inl rfl))) (fun e => (hS m e).1 (.inr (.inr rfl))), h.log.kept ho (fun e => (hS l e).2.1 rfl) hB, h.ok, h.sf, h.tb, h.xp, h.xf, h.xm, h.xT, h.xl, h.xB⟩
theorem page_bd (D : Dk) (a : Nat) : (D.page a).1.high.size ≤ 140737488355328 ∧ (D.page a).1.lsn < 9223372036854775808 := by
  unfold Dk.page
  split
  · exact ⟨by simp [Pg.none, ByteArray.size], by simp [Pg.none]⟩
  · split
    · exact ⟨by simp [Pg.none, ByteArray.size], by simp [Pg.none]⟩
    · rename_i h1 h2
      have h3 : (dec (D.read (a : Int) 8).1).2 = 0 := by simpa using h2
      obtain ⟨hv, _⟩ := dec_ok (p := (dec (D.read (a : Int) 8).1).1) (Prod.ext rfl h3); have := hv.fit.1
      exact ⟨by show (dec (D.read (a : Int) 8).1).1.high.size ≤ _; omega, hv.lsn⟩
theorem write_stream (P : Pl) (D : Dk) (G : Lg) (i : Nat) (F : Fm) : (P.write D G i F).G.stream = G.stream := by
  have hw : ∀ (P : Pl) (D : Dk) (G : Lg), (P.wr D G i F).G = G := fun P D G => by
    unfold Pl.wr
    split <;> rfl
  unfold Pl.write
  split
  · split
    · rw [hw]
    · rfl
  · rw [hw]
theorem take_stream (P : Pl) (D : Dk) (G : Lg) (pick : Int) : (P.take D G pick).1.G.stream = G.stream := by
  unfold Pl.take
  split
  · rfl
  · unfold Pl.takeAt
    split
    · split
      · exact write_stream _ _ _ _ _
      · exact write_stream _ _ _ _ _
    · rfl
noncomputable def Pl.fetch (P : Pl) (D : Dk) (G : Lg) (n pick : Int) : Wo × Pg :=
  if P.hasC n ≠ 0 then (⟨P.hasC n, P, D, G⟩, .none)
  else match P.idx n with
    | some i => (⟨0, P, D, G⟩, (P.get i).pg)
    | none => if (D.page (P.frm + 8 * n.toNat)).2 ≠ 0 then (⟨(D.page (P.frm + 8 * n.toNat)).2, P, D, G⟩, .none)
      else match (P.take D G pick).2 with
        | some i => (⟨0, (P.take D G pick).1.P.setF i ⟨(D.page (P.frm + 8 * n.toNat)).1, n, false⟩, (P.take D G pick).1.D, (P.take D G pick).1.G⟩, (D.page (P.frm + 8 * n.toNat)).1)
        | none => ((P.take D G pick).1, .none)
def FeR (w w' : World) (e : Ending) (p d l fb mb g m : Nat) (B : Nat) (ao : Option Addr) (cp : Nat) (v8 : Value) (T : Nat → Prop) (o : Wo) (pg : Pg) : Prop :=
  ∃ Bq aq cq, e = .returned (.tuple #[.agg #[.int .i64 pg.lsn, .int .i64 pg.kind, .int .i64 pg.level, .int .i64 pg.right, .string pg.high, .slice aq pg.items.length cq], .int .i64 o.c]) ∧ Strs w' Bq aq pg.items ∧ Fit aq pg.items.length cq ∧ (0 < pg.items.length → w.heap.size ≤ Bq) ∧ ShR w w' p d l fb mb g m B ao cp v8 T o
structure Ft (w W : World) (p d l fb mb g m : Nat) (P : Pl) (D : Dk) (G : Lg) (B : Nat) (ao : Option Addr) (cp : Nat) (v8 : Value) (T : Nat → Prop) (mb1 : Nat) (T1 : Nat → Prop) : Prop where
  sh : Sh W p d l fb mb1 g m P D G B ao cp v8 T1
  sub : ∀ k, T1 k → T k
  keep : ∀ k, k < w.heap.size → T k → T1 k
  mbn : mb1 = mb ∨ w.heap.size ≤ mb1
  only : Only (fun k => own d g m k ∨ k = l ∨ k = p ∨ k = fb ∨ k = mb) w W
  res : Pag W w.heap.size (.int .i64 0) (.int .i64 0) (.int .i64 0) (.int .i64 0) (.string ⟨#[]⟩) (.slice Option.none 0 0)
  ro : ¬ own d g m w.heap.size ∧ w.heap.size ≠ l ∧ w.heap.size ≠ p ∧ w.heap.size ≠ fb ∧ w.heap.size ≠ mb1
  rT : ¬ T1 w.heap.size
  rB : 0 < G.stream.length → w.heap.size ≠ B
theorem Ft.more {w W : World} {p d l fb mb g m : Nat} {P : Pl} {D : Dk} {G : Lg} {B : Nat} {ao : Option Addr} {cp : Nat} {v8 : Value} {T : Nat → Prop} {mb1 : Nat} {T1 : Nat → Prop} {W' : World} (h : Ft w W p d l fb mb g m P D G B ao cp v8 T mb1 T1) (ho : Only (fun _ => False) W W') : Ft w W' p d l fb mb g m P D G B ao cp v8 T mb1 T1 :=
  ⟨h.sh.more ho, h.sub, h.keep, h.mbn, h.only.trans ho (fun _ _ e => e.elim), h.res.more ho, h.ro, h.rT, h.rB⟩
theorem Ft.laid {w W : World} {p d l fb mb g m : Nat} {P : Pl} {D : Dk} {G : Lg} {B : Nat} {ao : Option Addr} {cp : Nat} {v8 : Value} {T : Nat → Prop} {mb1 : Nat} {T1 : Nat → Prop} {W' : World} {P' : Pl} (h : Ft w W p d l fb mb g m P D G B ao cp v8 T mb1 T1) (hs : Sh W' p d l fb mb1 g m P' D G B ao cp v8 T1) (ho : Only (fun k => k = fb) W W') : Ft w W' p d l fb mb g m P' D G B ao cp v8 T mb1 T1 :=
  ⟨hs, h.sub, h.keep, h.mbn, h.only.trans ho (fun _ _ e => .inr (.inr (.inr (.inl e)))), h.res.kept ho h.ro.2.2.2.1, h.ro, h.rT, h.rB⟩
theorem Ft.fin {w W : World} {p d l fb mb g m : Nat} {P : Pl} {D : Dk} {G : Lg} {B : Nat} {ao : Option Addr} {cp : Nat} {v8 : Value} {T : Nat → Prop} {mb1 : Nat} {T1 : Nat → Prop} (h : Ft w W p d l fb mb g m P D G B ao cp v8 T mb1 T1) (v0 v1 v2 v3 v4 v5 : Value) (c : Int) : ShR w ((((((W.setCell ⟨w.heap.size, 0, none⟩ v0).setCell ⟨w.heap.size, 1, none⟩ v1).setCell ⟨w.heap.size, 2, none⟩ v2).setCell ⟨w.heap.size, 3, none⟩ v3).setCell ⟨w.heap.size, 4, none⟩ v4).setCell ⟨w.heap.size, 5, none⟩ v5) p d l fb mb g m B ao cp v8 T ⟨c, P, D, G⟩ := by
  have ho := Only.six W w.heap.size v0 v1 v2 v3 v4 v5; obtain ⟨r1, r2, r3, r4, r5⟩ := h.ro; refine ⟨mb1, T1, h.sh.side ho (fun k e => by subst e; exact ⟨r1, r2, r3, r4, r5, h.rT⟩) (fun h0 e => h.rB h0 e.symm), h.sub, h.keep, h.mbn, h.only.trans ho (fun k hk e => by omega)⟩
theorem Ft.zero {w W : World} {p d l fb mb g m : Nat} {P : Pl} {D : Dk} {G : Lg} {B : Nat} {ao : Option Addr} {cp : Nat} {v8 : Value} {T : Nat → Prop} {mb1 : Nat} {T1 : Nat → Prop} (h : Ft w W p d l fb mb g m P D G B ao cp v8 T mb1 T1) (c : Int) : FeR w ((((((W.setCell ⟨w.heap.size, 0, none⟩ (.int .i64 0)).setCell ⟨w.heap.size, 1, none⟩ (.int .i64 0)).setCell ⟨w.heap.size, 2, none⟩ (.int .i64 0)).setCell ⟨w.heap.size, 3, none⟩ (.int .i64 0)).setCell ⟨w.heap.size, 4, none⟩ (.string ⟨#[]⟩)).setCell ⟨w.heap.size, 5, none⟩ (.slice none 0 0)) (.returned (.tuple #[.agg #[.int .i64 0, .int .i64 0, .int .i64 0, .int .i64 0, .string ⟨#[]⟩, .slice none 0 0], .int .i64 c])) p d l fb mb g m B ao cp v8 T ⟨c, P, D, G⟩ .none :=
  ⟨0, Option.none, 0, rfl, Strs.nil _ _ _, ⟨fun _ => rfl, by simp [Pg.none], by simp⟩, fun h => absurd h (by simp [Pg.none]), h.fin _ _ _ _ _ _ c⟩
theorem Ft.page {w W : World} {p d l fb mb g m : Nat} {P : Pl} {D : Dk} {G : Lg} {B : Nat} {ao : Option Addr} {cp : Nat} {v8 : Value} {T : Nat → Prop} {mb1 : Nat} {T1 : Nat → Prop} (h : Ft w W p d l fb mb g m P D G B ao cp v8 T mb1 T1) (c : Int) (pg : Pg) (Bq cq : Nat) (aq : Option Addr) (h1 : Strs W Bq aq pg.items) (h2 : Fit aq pg.items.length cq) (h3 : 0 < pg.items.length → w.heap.size < Bq) : FeR w ((((((W.setCell ⟨w.heap.size, 0, none⟩ (.int .i64 pg.lsn)).setCell ⟨w.heap.size, 1, none⟩ (.int .i64 pg.kind)).setCell ⟨w.heap.size, 2, none⟩ (.int .i64 pg.level)).setCell ⟨w.heap.size, 3, none⟩ (.int .i64 pg.right)).setCell ⟨w.heap.size, 4, none⟩ (.string pg.high)).setCell ⟨w.heap.size, 5, none⟩ (.slice aq pg.items.length cq)) (.returned (.tuple #[.agg #[.int .i64 pg.lsn, .int .i64 pg.kind, .int .i64 pg.level, .int .i64 pg.right, .string pg.high, .slice aq pg.items.length cq], .int .i64 c])) p d l fb mb g m B ao cp v8 T ⟨c, P, D, G⟩ pg :=
  ⟨Bq, aq, cq, rfl, h1.kept (Only.six W w.heap.size _ _ _ _ _ _) (fun h0 e => by have := h3 h0; omega), h2, fun h0 => by have := h3 h0; omega, h.fin _ _ _ _ _ _ c⟩
set_option maxRecDepth 100000 in
set_option maxHeartbeats 3200000 in
theorem ofetch_any (w : World) (p d l fb mb g m : Nat) (P : Pl) (D : Dk) (G : Lg) (B : Nat) (ao : Option Addr) (cp : Nat) (v8 : Value) (T : Nat → Prop) (h : Sh w p d l fb mb g m P D G B ao cp v8 T) (hok : P.Ok) (page pick : Int) :
    Calls Tryz.prog 11 #[.pointer (some ⟨p, 0, none⟩), .int .i64 page, .int .i64 pick] w fun e w' => FeR w w' e p d l fb mb g m B ao cp v8 T (P.fetch D G page pick).1 (P.fetch D G page pick).2 := by
  obtain ⟨R, hR⟩ : ∃ R, P.fetch D G page pick = R := ⟨_, rfl⟩; rw [hR]; have hA := h.alloc (.cells #[.int .i64 0, .int .i64 0, .int .i64 0, .int .i64 0, .string ⟨#[]⟩, .slice none 0 0] 45); have hPg := Pag.new w (.int .i64 0) (.int .i64 0) (.int .i64 0) (.int .i64 0) (.string ⟨#[]⟩) (.slice none 0 0); have hpl := h.pool.lt; have hfl := h.pool.flt; have hml := h.pool.map.lt; have hnT := h.pool.new w.heap.size (Nat.le_refl _); have hrT := h.xT _ hnT; have HX := hide (show Ft w _ p d l fb mb g m P D G B ao cp v8 T mb _ from ⟨hA, fun _ e => e.1, fun k hk e => ⟨e, by omega⟩, .inl rfl, (onlyA w _).mono (fun _ _ e => e.elim), hPg, ⟨hrT.1, hrT.2, by omega, by omega, by omega⟩, fun e => e.2 rfl, fun h0 e => (h.xB h0).2.2.2.2.2 (e ▸ hnT)⟩); have hln := h.pool.nf.1; have HOK := hide hok; clear h hA hPg hpl hfl hml hnT hrT hok; obtain ⟨T0, hT0⟩ : ∃ T0, (fun k => T k ∧ k ≠ w.heap.size) = T0 := ⟨_, rfl⟩; rw [hT0] at HX; clear hT0; unfold Pl.fetch at hR
  by_cases hp : P.hasC page ≠ 0
  · rw [if_pos hp] at hR
    have HR := hide hR; obtain ⟨c, hc⟩ : ∃ c, P.hasC page = c := ⟨_, rfl⟩; rw [hc] at HR hp
    have hb : (c == 0) = false := by simp [hp]
    have HC := hide hc; clear hR hp hc
    go_enter Tryz.func11, Tryz.ntmps11
    go_wp2_with fail
    refine (ohas_any _ p d l fb mb P T0 HX.out.sh.pool page).mono ?_; rintro e w1 ⟨rfl, hw1⟩; rw [HC.out]
    have HX1 : Hid (Ft w w1 p d l fb mb g m P D G B ao cp v8 T mb T0) := by rw [hw1]; exact HX.out
    clear hw1 HX; obtain ⟨q0, q1, q2, q3, q4, q5, t0, t1, t2, t3, t4, t5, tl⟩ := HX1.out.res
    go_wp2_with fail
    refine bodyPost_ret (results_page rfl rfl (Pag.six HX1.out.res _ _ _ _ _ _)) rfl ?_; rw [← HR.out]
    exact HX1.out.zero c
  · have hp0 : P.hasC page = 0 := by simpa using hp
    rw [if_neg hp] at hR
    obtain ⟨n, hn, hnl⟩ : ∃ n : Nat, page = (n : Int) ∧ n < P.pages := by
      unfold Pl.hasC at hp0
      split at hp0
      · exact ⟨page.toNat, by omega, by omega⟩
      · cases hp0
    subst hn; rw [Int.toNat_natCast] at hR; have HN := hide hnl; have HC := hide hp0; clear hp hp0 hnl
    cases hx : P.idx (n : Int) with
    | some i =>
      rw [hx] at hR
      dsimp only at hR
      have hil := (idx_lt hx).1
      have hv : P.ptr fb (n : Int) = .pointer (some ⟨fb, i * 8, none⟩) := by unfold Pl.ptr; rw [hx]; rfl
      have HV := hide hv; have HI := hide hil
      have HG : Hid (∀ h : i < P.fs.length, P.fs[i] = P.get i) := fun h => get_at h
      obtain ⟨F, hF⟩ : ∃ F, P.get i = F := ⟨_, rfl⟩; rw [hF] at hR HG; have HR := hide hR; clear hR hx hil hv hF
      go_enter Tryz.func11, Tryz.ntmps11
      go_wp2_with fail
      refine (ohas_any _ p d l fb mb P T0 HX.out.sh.pool (n : Int)).mono ?_; rintro e w1 ⟨rfl, hw1⟩; rw [HC.out]
      have HX1 : Hid (Ft w w1 p d l fb mb g m P D G B ao cp v8 T mb T0) := by rw [hw1]; exact HX.out
      clear hw1 HX
      go_wp2_with fail
      refine (holder_any _ p d l fb mb P T0 HX1.out.sh.pool (n : Int)).mono ?_; rintro e w2 ⟨rfl, hw2⟩; rw [HV.out]
      have HX2 : Hid (Ft w w2 p d l fb mb g m P D G B ao cp v8 T mb T0) := by rw [hw2]; exact HX1.out
      clear hw2 HX1 HV; have hfm := HX2.out.sh.pool.fr i HI.out; rw [HG.out HI.out] at hfm; obtain ⟨Bf, af, cf, ⟨k0, k1, k2, k3, k4, k5⟩, hf1, hf2, _⟩ := hfm.all; have HF1 := hide hf1; clear hfm hf1 hf2
      go_wp2_with fail
      refine (apart_any _ F.pg Bf cf af HF1.out).mono ?_; rintro e w3 ⟨Bq, aq, cq, rfl, hq1, hq2, ho3, hq3⟩; have HX3 := hide (HX2.out.more ho3); have HLT := hide HX2.out.res.lt; have HQ := hide (And.intro hq1 (And.intro hq2 hq3)); clear hq1 hq2 hq3 ho3 k0 k1 k2 k3 k4 k5 HF1 HX2; obtain ⟨q0, q1, q2, q3, q4, q5, t0, t1, t2, t3, t4, t5, tl⟩ := HX3.out.res
      go_wp2_with fail
      refine bodyPost_ret (results_page rfl rfl (Pag.six HX3.out.res _ _ _ _ _ _)) rfl ?_; rw [← HR.out]; obtain ⟨hq1, hq2, hq3⟩ := HQ.out
      exact HX3.out.page 0 F.pg Bq cq aq hq1 hq2 (fun h0 => by have := hq3 h0; have := HLT.out; omega)
    | none =>
      rw [hx] at hR
      dsimp only at hR
      have hv : P.ptr fb (n : Int) = .pointer none := by unfold Pl.ptr; rw [hx]; rfl
      have HV := hide hv; have HRD := hide (fun W (hW : Sh W p d l fb mb g m P D G B ao cp v8 T0) => oread_any W p d l fb mb g m P D G B ao cp v8 T0 hW n HN.out); have HTK := hide (fun W (hW : Sh W p d l fb mb g m P D G B ao cp v8 T0) => take_any W p d l fb mb g m P D G B ao cp v8 T0 hW HOK.out pick)
      have hts := fun i => take_some (P := P) (D := D) (G := G) (pick := pick) (i := i) hln
      have htn := take_none (P := P) (D := D) (G := G) (pick := pick); obtain ⟨K, hK⟩ : ∃ K, P.take D G pick = K := ⟨_, rfl⟩; have hst := take_stream P D G pick; rw [hK] at hR HTK htn hst
      have hts2 : ∀ i, K.2 = some i → K.1.c = 0 ∧ i < K.1.P.fs.length ∧ K.1.P.pages = P.pages := fun i => by have := hts i; rwa [hK] at this
      obtain ⟨O, q⟩ := K
      dsimp only at hR HTK htn hts2 hst
      have HST := hide hst; clear hst; have HTS := hide (And.intro hts2 htn); obtain ⟨pp, hpp⟩ : ∃ pp, D.page (P.frm + 8 * n) = pp := ⟨_, rfl⟩; have HPB := hide (page_bd D (P.frm + 8 * n)); rw [hpp] at hR HRD HPB; obtain ⟨pg, c1⟩ := pp
      dsimp only at hR HRD HPB
      have HRR := hide hR; clear hR hx hv hts hts2 htn hK hpp
      go_enter Tryz.func11, Tryz.ntmps11
      go_wp2_with fail
      refine (ohas_any _ p d l fb mb P T0 HX.out.sh.pool (n : Int)).mono ?_; rintro e w1 ⟨rfl, hw1⟩; rw [HC.out]
      have HX1 : Hid (Ft w w1 p d l fb mb g m P D G B ao cp v8 T mb T0) := by rw [hw1]; exact HX.out
      clear hw1 HX
      go_wp2_with fail
      refine (holder_any _ p d l fb mb P T0 HX1.out.sh.pool (n : Int)).mono ?_; rintro e w2 ⟨rfl, hw2⟩; rw [HV.out]
      have HX2 : Hid (Ft w w2 p d l fb mb g m P D G B ao cp v8 T mb T0) := by rw [hw2]; exact HX1.out
      clear hw2 HX1 HV
      go_wp2_with fail
      refine (HRD.out _ HX2.out.sh).mono ?_; rintro e w3 ⟨Bq, aq, cq, rfl, hq1, hq2, ho3, hq3⟩; have HX3 := hide (HX2.out.more ho3); have HQ := hide (And.intro hq1 (And.intro hq2 hq3)); have HLT := hide HX2.out.res.lt; have HSZ := hide ho3.size; clear hq1 hq2 hq3 ho3 HRD
      go_upto_region 8 with fail
      have HO5 := hide (onlyA w3 (.cells #[.int .i64 pg.lsn, .int .i64 pg.kind, .int .i64 pg.level, .int .i64 pg.right, .string pg.high, .slice aq pg.items.length cq] 45)); have HB5 := hide (Pag.new w3 (.int .i64 pg.lsn) (.int .i64 pg.kind) (.int .i64 pg.level) (.int .i64 pg.right) (.string pg.high) (.slice aq pg.items.length cq)); obtain ⟨W5, hW5⟩ : ∃ W5, w3.alloc (.cells #[.int .i64 pg.lsn, .int .i64 pg.kind, .int .i64 pg.level, .int .i64 pg.right, .string pg.high, .slice aq pg.items.length cq] 45) = W5 := ⟨_, rfl⟩; rw [hW5] at HO5 HB5 ⊢; have HX5 := hide (HX3.out.more HO5.out); obtain ⟨b5, hb5⟩ : ∃ b5, w3.heap.size = b5 := ⟨_, rfl⟩; have HB5L := hide hb5; rw [hb5] at HB5 ⊢; clear hW5 hb5
      by_cases hz : c1 = 0
      · subst hz
        have HR2 := HRR.out; rw [if_neg (by simp)] at HR2; have HR3 := hide HR2; clear HR2 HRR; have hsz5 := HO5.out.size; have hz3 := HSZ.out
        have hT0 : ∀ k, T0 k → ¬ (own d g m k ∨ k = l ∨ k = p ∨ k = fb ∨ k = mb) := fun k hk e => by
          rcases e with e | e | e | e | e
          · exact (HX5.out.sh.xT k hk).1 e
          · exact (HX5.out.sh.xT k hk).2 e
          · exact HX5.out.sh.pool.t1 (e ▸ hk)
          · exact HX5.out.sh.pool.t2 (e ▸ hk)
          · exact HX5.out.sh.pool.t3 (e ▸ hk)
        have hbT : T0 b5 := HX2.out.sh.pool.new b5 (by have := HB5L.out; omega)
        have hqT : 0 < pg.items.length → T0 Bq := fun h0 => HX2.out.sh.pool.new Bq (HQ.out.2.2 h0)
        have HTT := hide (And.intro hT0 (And.intro hbT hqT)); have hql := HX2.out.sh.pool.flt
        have hbf : ¬ b5 = fb := fun e => hT0 b5 hbT (.inr (.inr (.inr (.inl e))))
        clear hT0 hbT hqT hql hz3 hsz5
        go_wp2_with fail
        refine (HTK.out _ HX5.out.sh).mono ?_; rintro e w6 ⟨rfl, mb6, T6, hs6, ht6, hk6, hm6, ho6⟩
        have HX6 : Hid (Ft w w6 p d l fb mb g m O.P O.D O.G B ao cp v8 T mb6 T6) := by
          have hr := HX5.out.res.lt; obtain ⟨r1, r2, r3, r4, r5⟩ := HX5.out.ro; refine ⟨hs6, fun k e => HX5.out.sub k (ht6 k e), fun k hk e => hk6 k (by omega) (HX5.out.keep k hk e), hm6.elim .inl (fun e => .inr (by omega)), HX5.out.only.trans ho6 (fun _ _ e => e), HX5.out.res.kept ho6 (fun e => ?_), ⟨r1, r2, r3, r4, ?_⟩, fun e => HX5.out.rT (ht6 _ e), fun h0 => HX5.out.rB (by rw [← HST.out]; exact h0)⟩
          · rcases e with e | e | e | e | e
            · exact r1 e
            · exact r2 e
            · exact r3 e
            · exact r4 e
            · exact r5 e
          · rcases hm6 with e | e
            · rw [e]; exact r5
            · omega
        have HB6 := hide (HB5.out.kept ho6 (HTT.out.1 b5 HTT.out.2.1))
        have HQ6 : Hid (Strs w6 Bq aq pg.items ∧ (0 < pg.items.length → T6 Bq)) := by
          have h5 := HQ.out.1.more HO5.out
          exact ⟨h5.kept ho6 (fun h0 => HTT.out.1 Bq (HTT.out.2.2 h0)), fun h0 => hk6 Bq (h5.lt h0) (HTT.out.2.2 h0)⟩
        clear hs6 ht6 hk6 hm6 ho6 HX5 HB5 HTK HOK HX3 HX2 HO5
        cases q with
        | none =>
          have hcz := HTS.out.2 rfl; have HW : Hid ((O, Pg.none) = R) := HR3.out; obtain ⟨c, hc⟩ : ∃ c, O.c = c := ⟨_, rfl⟩; have HC3 := hide hc; rw [hc] at hcz ⊢
          have hb : (c == 0) = false := by simp [hcz]
          clear hcz HTS HR3 hc; obtain ⟨q0, q1, q2, q3, q4, q5, t0, t1, t2, t3, t4, t5, tl⟩ := HX6.out.res
          go_wp2_with fail
          refine bodyPost_ret (results_page rfl rfl (Pag.six HX6.out.res _ _ _ _ _ _)) rfl ?_; rw [← HW.out]; have hfin := HX6.out.zero c; rw [← HC3.out] at hfin ⊢
          exact hfin
        | some i =>
          obtain ⟨hc0, hil, hpp⟩ := HTS.out.1 i rfl; have HW : Hid ((⟨0, O.P.setF i ⟨pg, (n : Int), false⟩, O.D, O.G⟩, pg) = R) := HR3.out; rw [hc0]; obtain ⟨P4, hP4⟩ : ∃ P4, O.P = P4 := ⟨_, rfl⟩; obtain ⟨D4, hD4⟩ : ∃ D4, O.D = D4 := ⟨_, rfl⟩; obtain ⟨G4, hG4⟩ : ∃ G4, O.G = G4 := ⟨_, rfl⟩
          have hnn4 : n < O.P.pages := by rw [hpp]; exact HN.out
          rw [hP4] at HW HX6 hil hnn4; rw [hD4, hG4] at HW HX6; unfold fptr
          dsimp only [Option.map]
          have hL := HX6.out.sh.lay i hil ⟨pg, (n : Int), false⟩ Bq aq cq HQ6.out.1 HQ.out.2.1 HQ6.out.2 HPB.out.1 HPB.out.2 (.inr ⟨by show (0 : Int) ≤ (n : Int); omega, by show (n : Int) < _; omega⟩); rw [show (⟨pg, (n : Int), false⟩ : Fm).cl aq cq = [.int .i64 pg.lsn, .int .i64 pg.kind, .int .i64 pg.level, .int .i64 pg.right, .string pg.high, .slice aq pg.items.length cq, .int .i64 (n : Int), .bool false] from rfl, setCells8] at hL; have HX7 := hide (HX6.out.laid hL.1 hL.2); have HS7 := hide (HQ6.out.1.kept hL.2 (fun h0 e => HX6.out.sh.pool.t2 (e ▸ HQ6.out.2 h0))); obtain ⟨u0, u1, u2, u3, u4, u5, u6, u7, ⟨k0, k1, k2, k3, k4, k5, k6, k7⟩, ⟨f0, f1, f2, f3, f4, f5, f6, f7⟩⟩ := HX6.out.sh.pool.slots i hil; obtain ⟨p0, p1, p2, p3, p4, p5, _⟩ := HB6.out; have HLT6 := hide HX6.out.res.lt; clear hc0 hpp hP4 hD4 hG4 hnn4 hL hil HR3 HTS HX6 HB6
          go_wp2_with fail
          refine (apart_any _ pg Bq cq aq HS7.out).mono ?_; rintro e w8 ⟨B8, a8, c8, rfl, g1, g2, ho8, g3⟩; have HX8 := hide (HX7.out.more ho8); have HQ8 := hide (And.intro g1 (And.intro g2 (And.intro g3 HX7.out.res.lt))); clear g1 g2 g3 ho8 HX7 HS7 k0 k1 k2 k3 k4 k5 k6 k7 f0 f1 f2 f3 f4 f5 f6 f7 p0 p1 p2 p3 p4 p5; obtain ⟨q0, q1, q2, q3, q4, q5, t0, t1, t2, t3, t4, t5, tl⟩ := HX8.out.res
          go_wp2_with fail
          refine bodyPost_ret (results_page rfl rfl (Pag.six HX8.out.res _ _ _ _ _ _)) rfl ?_; rw [← HW.out]; obtain ⟨g1, g2, g3, g4⟩ := HQ8.out
          exact HX8.out.page 0 pg B8 c8 a8 g1 g2 (fun h0 => by have := g3 h0; omega)
      · have HR2 := HRR.out
        rw [if_pos hz] at HR2; have HR3 := hide HR2
        have hb : (c1 == 0) = false := by simp [hz]
        clear HR2 HRR hz; obtain ⟨q0, q1, q2, q3, q4, q5, t0, t1, t2, t3, t4, t5, tl⟩ := HX5.out.res
        go_wp2_with fail
        refine bodyPost_ret (results_page rfl rfl (Pag.six HX5.out.res _ _ _ _ _ _)) rfl ?_; rw [← HR3.out]
        exact HX5.out.zero c1
end Go.Proofs.YtebijheonkagfaaGreatDoor
