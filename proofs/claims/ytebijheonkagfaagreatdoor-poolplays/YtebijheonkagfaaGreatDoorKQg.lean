/- The walk of the law's own example. -/
import Derived.Test.YtebijheonkagfaaGreatDoorKQe
namespace Go.Proofs.YtebijheonkagfaaGreatDoor
open Go.RowKit
theorem write_yes (P : Pl) (G : Lg) (i : Nat) (F : Fm) (N : Nat) (D : Dk) (f : Nat → List UInt8) (h : D.Wk N f) (hv : F.pg.out.2 = 0) (hN : P.frm + 8 * F.num.toNat + 8 ≤ N) (hn : 0 < G.n) (hG : G.frm + G.n ≤ P.frm) (hf : (G.flushed : Int) ≤ F.pg.lsn) :
    (P.write D G i F).c = 0 ∧ (P.write D G i F).P = P.synced.setF i { F with chg := false } ∧ (P.write D G i F).G = { G with flushed := G.tail } ∧ ∃ f', (P.write D G i F).D.Wk N f' ∧ ∀ j, P.frm ≤ j → f' j = if P.frm + 8 * F.num.toNat ≤ j ∧ j < P.frm + 8 * F.num.toNat + 8 then (F.pg.enc.drop (64 * (j - (P.frm + 8 * F.num.toNat)))).take 64 else f j := by
  unfold Pl.write; rw [if_pos hf]; obtain ⟨a1, a2, f1, a3, a4⟩ := fl_out G hn N (by omega) D f h; rw [if_pos a1]; obtain ⟨b1, b2, b3, b4⟩ := wr_out P.synced { G with flushed := (G.fl D).2.2 } i F N (G.fl D).1 f1 a3 hv hN; refine ⟨b1, b2, by rw [b3, a2], _, b4, fun j hj => ?_⟩
  show (if P.frm + 8 * F.num.toNat ≤ j ∧ j < P.frm + 8 * F.num.toNat + 8 then _ else f1 j) = _
  rw [a4 j (.inr (by omega))]
  rfl
theorem write_no (P : Pl) (G : Lg) (i : Nat) (F : Fm) (N : Nat) (D : Dk) (f : Nat → List UInt8) (h : D.Wk N f) (hv : F.pg.out.2 = 0) (hN : P.frm + 8 * F.num.toNat + 8 ≤ N) (hf : ¬ (G.flushed : Int) ≤ F.pg.lsn) :
    (P.write D G i F).c = 0 ∧ (P.write D G i F).P = P.setF i { F with chg := false } ∧ (P.write D G i F).G = G ∧ ∃ f', (P.write D G i F).D.Wk N f' ∧ ∀ j, P.frm ≤ j → f' j = if P.frm + 8 * F.num.toNat ≤ j ∧ j < P.frm + 8 * F.num.toNat + 8 then (F.pg.enc.drop (64 * (j - (P.frm + 8 * F.num.toNat)))).take 64 else f j := by
  unfold Pl.write; rw [if_neg hf]; obtain ⟨b1, b2, b3, b4⟩ := wr_out P G i F N D f h hv hN
  exact ⟨b1, b2, b3, _, b4, fun j _ => rfl⟩
def bX : Pg := ⟨1, 2, 0, 0, ⟨#[]⟩, [⟨#[120]⟩]⟩
def bY : Pg := ⟨1, 2, 0, 0, ⟨#[]⟩, []⟩
theorem bX_valid : bX.valid := ⟨⟨by decide, by decide, by decide, by decide, by decide, by decide, by decide⟩, ⟨by decide, by decide, by decide⟩, by decide⟩
theorem bY_valid : bY.valid := ⟨⟨by decide, by decide, by decide, by decide, by decide, by decide, by decide⟩, ⟨by decide, by decide, by decide⟩, by decide⟩
theorem bX_out : bX.out.2 = 0 := by rw [out_ok bX_valid.rng bX_valid.fit]
theorem bY_out : bY.out.2 = 0 := by rw [out_ok bY_valid.rng bY_valid.fit]
theorem bX_set : bX.setC = 0 := by
  unfold Pg.setC; rw [bX_out]
  decide
theorem bY_set : bY.setC = 0 := by
  unfold Pg.setC; rw [bY_out]
  decide
def aP1 : Pl := ⟨10, 4, [⟨bX, 2, true⟩], fun j => if j = 2 then some 1 else none⟩
theorem ax_one (D : Dk) (G : Lg) : (Pl.new 10 4 1).set D G 2 bX 0 = ⟨0, aP1, D, G⟩ := by
  unfold Pl.set; rw [if_neg (by decide), if_neg (by rw [bX_set]; decide)]
  have h1 : (Pl.new 10 4 1).idx 2 = none := by decide
  have h2 : (Pl.new 10 4 1).idx (-1) = some 0 := by decide
  have h3 : (Pl.new 10 4 1).take D G 0 = (⟨0, Pl.new 10 4 1, D, G⟩, some 0) := by
    unfold Pl.take; rw [h2]
  rw [h1, h3]
  dsimp only
  unfold Pl.setAt; rw [if_neg (by decide)]
  rfl
theorem ax_two {D : Dk} {G : Lg} (hD : D.Wk 60 (fun _ => zs64)) (hg1 : G.flushed = 1) (hn : G.n = 10) (hf : G.frm = 0) :
    (aP1.set D G 3 bY 0).c = 0 ∧ (aP1.set D G 3 bY 0).P.fs = [⟨bY, 3, true⟩] ∧ ((aP1.set D G 3 bY 0).P.ow 2).isSome = true ∧ (aP1.set D G 3 bY 0).P.frm = 10 ∧ (aP1.set D G 3 bY 0).P.pages = 4 ∧ (aP1.set D G 3 bY 0).G = { G with flushed := G.tail } ∧ ∃ f, (aP1.set D G 3 bY 0).D.Wk 60 f ∧ ∀ i, i < 8 → f (26 + i) = (bX.enc.drop (64 * i)).take 64 := by
  obtain ⟨w1, w2, w3, f, w4, w5⟩ := write_yes aP1 G 0 ⟨bX, 2, true⟩ 60 D _ hD bX_out (by show 10 + 8 * 2 + 8 ≤ 60; omega) (by omega) (by rw [hf, hn]; show 0 + 10 ≤ 10; omega) (by rw [hg1]; decide)
  have h1 : aP1.idx 3 = none := by decide
  have h2 : aP1.idx (-1) = none := by decide
  have hg : aP1.get 0 = ⟨bX, 2, true⟩ := rfl
  have h3 : aP1.take D G 0 = (⟨0, (aP1.write D G 0 ⟨bX, 2, true⟩).P.setF 0 Fm.none, (aP1.write D G 0 ⟨bX, 2, true⟩).D, (aP1.write D G 0 ⟨bX, 2, true⟩).G⟩, some 0) := by
    unfold Pl.take; rw [h2]
    show aP1.takeAt D G 0 = _
    unfold Pl.takeAt; rw [hg, if_pos rfl, if_pos w1]
  have h4 : aP1.set D G 3 bY 0 = ⟨0, ((aP1.write D G 0 ⟨bX, 2, true⟩).P.setF 0 Fm.none).setAt 0 3 bY, (aP1.write D G 0 ⟨bX, 2, true⟩).D, (aP1.write D G 0 ⟨bX, 2, true⟩).G⟩ := by
    unfold Pl.set; rw [if_neg (by decide), if_neg (by rw [bY_set]; decide), h1, h3]
    rfl
  have hs2 : aP1.synced.ow 2 = some 1 := by
    unfold Pl.synced; have : ∃ f ∈ aP1.fs, f.chg = true ∧ f.num = ((2 : Nat) : Int) := ⟨⟨bX, 2, true⟩, by simp [aP1], rfl, rfl⟩; simp only [this, if_true]
    rfl
  have hs3 : aP1.synced.ow 3 = none := by
    unfold Pl.synced
    have : ¬ ∃ f ∈ aP1.fs, f.chg = true ∧ f.num = ((3 : Nat) : Int) := by
      rintro ⟨f, hf, _, hn⟩
      simp [aP1] at hf
      subst hf
      cases hn
    simp only [this, if_false]
  rw [h4]
  dsimp only
  rw [w2]
  have hset : ((aP1.synced.setF 0 { (⟨bX, 2, true⟩ : Fm) with chg := false }).setF 0 Fm.none).setAt 0 3 bY = { ((aP1.synced.setF 0 { (⟨bX, 2, true⟩ : Fm) with chg := false }).setF 0 Fm.none).setF 0 ⟨bY, 3, true⟩ with ow := fun j => if j = 3 then some bY.lsn else aP1.synced.ow j } := by
    unfold Pl.setAt; rw [if_neg (by show ¬ (aP1.synced.ow 3).isSome = true; rw [hs3]; decide)]
    rfl
  rw [hset]; refine ⟨rfl, rfl, ?_, rfl, rfl, w3, f, w4, fun i hi => ?_⟩
  · show (if (2 : Nat) = 3 then some bY.lsn else aP1.synced.ow 2).isSome = true
    rw [if_neg (by decide), hs2]
    rfl
  · have := w5 (26 + i) (by show 10 ≤ _; omega)
    rw [this, if_pos (by show 10 + 8 * 2 ≤ 26 + i ∧ 26 + i < 10 + 8 * 2 + 8; omega)]
    show (bX.enc.drop (64 * (26 + i - (10 + 8 * 2)))).take 64 = _
    rw [show 26 + i - (10 + 8 * 2) = i by omega]
theorem ax_three {P : Pl} {D : Dk} {G : Lg} {f : Nat → List UInt8} (hfs : P.fs = [⟨bY, 3, true⟩]) (hfr : P.frm = 10) (hpg : P.pages = 4) (hD : D.Wk 60 f) (hf : ∀ i, i < 8 → f (26 + i) = (bX.enc.drop (64 * i)).take 64) (hg : 1 < G.flushed) :
    (P.fetch D G 2 0).2 = bX ∧ (P.fetch D G 2 0).1.c = 0 ∧ (P.fetch D G 2 0).1.P.ow = P.ow ∧ (P.fetch D G 2 0).1.P.pages = 4 ∧ (P.fetch D G 2 0).1.G = G := by
  have hp : D.page 26 = (bX, 0) := page_back hD 26 (by omega) bX bX_valid hf; obtain ⟨w1, w2, w3, _⟩ := write_no P G 0 ⟨bY, 3, true⟩ 60 D f hD bY_out (by rw [hfr]; show 10 + 8 * 3 + 8 ≤ 60; omega) (by show ¬ (G.flushed : Int) ≤ 1; omega)
  have h1 : P.idx 2 = none := by unfold Pl.idx; rw [hfs]; decide
  have h2 : P.idx (-1) = none := by unfold Pl.idx; rw [hfs]; decide
  have hgt : P.get 0 = ⟨bY, 3, true⟩ := by unfold Pl.get; rw [hfs]; rfl
  have hlen : P.fs.length = 1 := by rw [hfs]; rfl
  have h3 : P.take D G 0 = (⟨0, (P.write D G 0 ⟨bY, 3, true⟩).P.setF 0 Fm.none, (P.write D G 0 ⟨bY, 3, true⟩).D, (P.write D G 0 ⟨bY, 3, true⟩).G⟩, some 0) := by
    unfold Pl.take; rw [h2, hlen]
    show P.takeAt D G 0 = _
    unfold Pl.takeAt; rw [hgt, if_pos rfl, if_pos w1]
  have hpa : P.frm + 8 * (2 : Int).toNat = 26 := by rw [hfr]; rfl
  have h4 : P.fetch D G 2 0 = (⟨0, ((P.write D G 0 ⟨bY, 3, true⟩).P.setF 0 Fm.none).setF 0 ⟨bX, 2, false⟩, (P.write D G 0 ⟨bY, 3, true⟩).D, (P.write D G 0 ⟨bY, 3, true⟩).G⟩, bX) := by
    unfold Pl.fetch; rw [if_neg (by unfold Pl.hasC; rw [hpg]; decide), h1, hpa, hp, h3]
    rfl
  rw [h4]
  dsimp only
  rw [w2, w3]
  exact ⟨rfl, rfl, rfl, hpg, rfl⟩
theorem nt1_lay : (nt.at_ 1).lay = [1, 0, 0, 2, 1, 0, 0, 0, 0, 0, 0, 0, 0, 0, 0, 0] := by decide +kernel
theorem nt1_valid : (nt.at_ 1).valid :=
  ⟨by decide, by decide, ⟨by decide, by decide, (fun n h => by cases h), (fun n h => by cases h), (fun n h => by cases h), (fun n h => by cases h), (fun n h => by cases h)⟩, ⟨by decide, by decide, by decide, by decide, by decide, by decide⟩, rfl, by rw [nt1_lay]; decide⟩
theorem nt1_len : (nt.at_ 1).enc.length = 24 := by rw [renc_len, nt1_lay]; rfl
end Go.Proofs.YtebijheonkagfaaGreatDoor
namespace Go.Proofs.YtebijheonkagfaaGreatDoor
open Go.RowKit
def lies (o : Option Pg) (i : Nat) : List UInt8 := match o with
  | some p => (p.enc.drop (64 * i)).take 64
  | none => zs64
end Go.Proofs.YtebijheonkagfaaGreatDoor
namespace Go.Proofs.YtebijheonkagfaaGreatDoor
open Go.RowKit
theorem Sw.back2 {w W W' : World} {p d l fb mb g m : Nat} {P : Pl} {D : Dk} {G : Lg} {v7 v8 : Value} {T : Nat → Prop} (h : Sw w W p d l fb mb g m P D G v7 v8 T) {B : Nat} {ao : Option Addr} {cp : Nat} (hv : v7 = .slice ao G.stream.length cp) {o : Wo} (hr : ShR W W' p d l fb mb g m B ao cp v8 T o) (hk : o.P.Ok) (hg : G.Alike o.G) :
    ∃ mb' T', Sw w W' p d l fb mb' g m o.P o.D o.G v7 v8 T' ∧ (∀ k, T' k → T k) ∧ (mb' = mb ∨ W.heap.size ≤ mb') := by
  obtain ⟨mb', T', hs, h1, h2, h3, ho⟩ := hr; obtain ⟨x, hx⟩ := hg
  have n7 : ∀ k, v7.ownBlock = some k → ¬ (own d g m k ∨ k = l ∨ k = p ∨ k = fb ∨ k = mb) := fun k hk e => by
    obtain ⟨a1, a2, a3, a4, a5, _⟩ := h.x7 k hk
    rcases e with e | e | e | e | e
    · exact a1 e
    · exact a2 e
    · exact a3 e
    · exact a4 e
    · exact a5 e
  have n8 : ∀ k, v8.ownBlock = some k → ¬ (own d g m k ∨ k = l ∨ k = p ∨ k = fb ∨ k = mb) := fun k hk e => by
    obtain ⟨a1, a2, a3, a4, a5, _⟩ := h.x8 k hk
    rcases e with e | e | e | e | e
    · exact a1 e
    · exact a2 e
    · exact a3 e
    · exact a4 e
    · exact a5 e
  have hm7 : ∀ k, v7.ownBlock = some k → k ≠ mb' := fun k hk e => by
    have := (Row.lt7 h.log k hk).2
    rcases h3 with h3 | h3
    · exact (h.x7 k hk).2.2.2.2.1 (by rw [e, h3])
    · omega
  have hm8 : ∀ k, v8.ownBlock = some k → k ≠ mb' := fun k hk e => by
    have := (Row.lt8 h.log k hk).2
    rcases h3 with h3 | h3
    · exact (h.x8 k hk).2.2.2.2.1 (by rw [e, h3])
    · omega
  have L := hs.log
  have hst : o.G.stream = G.stream := by rw [hx]
  have hpl : o.G.places = G.places := by rw [hx]
  have c7 := L.c7; rw [hst, ← hv] at c7; have hlo := h.lo; have hsz := h.only.size; refine ⟨mb', T', ⟨hs.pool, hs.dsk, ⟨L.c0, L.c1, L.c2, L.c3, L.c4, L.c5, L.c6, c7, L.c8, L.fz, L.lt, ?_, ?_, h.log.n1, h.log.n2, h.log.n3⟩, hs.ok, hs.sf, hs.tb, hk, hs.xp, hs.xf, hs.xm, hs.xT, hs.xl, ?_, ?_, ?_, ?_⟩, h1, h3⟩
  · rw [hst]; exact h.log.row.kept ho n7
  · rw [hpl]; exact own_only h.log.pl ho n8
  · exact fun k hk => ⟨(h.x7 k hk).1, (h.x7 k hk).2.1, (h.x7 k hk).2.2.1, (h.x7 k hk).2.2.2.1, hm7 k hk, fun e => (h.x7 k hk).2.2.2.2.2 (h1 k e)⟩
  · exact fun k hk => ⟨(h.x8 k hk).1, (h.x8 k hk).2.1, (h.x8 k hk).2.2.1, (h.x8 k hk).2.2.2.1, hm8 k hk, fun e => (h.x8 k hk).2.2.2.2.2 (h1 k e)⟩
  · refine h.only.trans ho (fun i hi e => ?_)
    rcases e with e | e | e | e | e
    · have := hlo.2.2.2.2 i e; omega
    · omega
    · omega
    · omega
    · omega
  · refine ⟨hlo.1, hlo.2.1, ?_, hlo.2.2.2⟩
    rcases h3 with h3 | h3
    · rw [h3]; exact hlo.2.2.1
    · omega
theorem sw_append2 {w W : World} {p d l fb mb g m : Nat} {P : Pl} {D : Dk} {G : Lg} {v7 v8 : Value} {T : Nat → Prop} (h : Sw w W p d l fb mb g m P D G v7 v8 T) (hv : (nt.at_ G.tail).valid) (hroom : (nt.at_ G.tail).enc.length ≤ G.room) (hpl : G.places.length ≤ 1000000000)
    (ok : (G.app (nt.at_ G.tail).enc).Ok) (htb : (G.app (nt.at_ G.tail).enc).tail < 4294967295) :
    Calls Tryz.prog 14 #[.pointer (some ⟨l, 0, none⟩), .agg (nt.cells Loc.none)] W fun e w' => e = .returned (.tuple #[.int .i64 (G.tail : Int), .int .i64 0]) ∧ ∃ v7' v8' T', Sw w w' p d l fb mb g m P D (G.app (nt.at_ G.tail).enc) v7' v8' T' ∧ (∀ k, T' k → T k) ∧ (∀ k, v7'.ownBlock = some k → v7.ownBlock = some k ∨ W.heap.size ≤ k) ∧ (∀ k, v8'.ownBlock = some k → v8.ownBlock = some k ∨ W.heap.size ≤ k) ∧ Only (fun k => k = l ∨ some k = v7.ownBlock ∨ some k = v8.ownBlock) W w' := by
  refine (append_ok W l d G w.heap.size v7 v8 h.log h.ok h.only.size nt Loc.none (nt_at W) hv hroom hpl).mono ?_; rintro e w' ⟨he, v7', v8', hlo, ho, k7, k8⟩; have hl := h.lo
  have hS : ∀ k, ¬ (k = l) → ¬ (v7.ownBlock = some k) → ¬ (v8.ownBlock = some k) → ¬ (k = l ∨ some k = v7.ownBlock ∨ some k = v8.ownBlock) := by
    rintro k e1 e2 e3 (e | e | e)
    · exact e1 e
    · exact e2 e.symm
    · exact e3 e.symm
  have hT : ∀ k, T k → ¬ (k = l ∨ some k = v7.ownBlock ∨ some k = v8.ownBlock) := fun k hk => hS k (h.xT k hk).2 (fun e => (h.x7 k e).2.2.2.2.2 hk) (fun e => (h.x8 k e).2.2.2.2.2 hk)
  have hp : ¬ (p = l ∨ some p = v7.ownBlock ∨ some p = v8.ownBlock) := hS p h.xp.2 (fun e => (h.x7 p e).2.2.1 rfl) (fun e => (h.x8 p e).2.2.1 rfl); have hf : ¬ (fb = l ∨ some fb = v7.ownBlock ∨ some fb = v8.ownBlock) := hS fb h.xf.2 (fun e => (h.x7 fb e).2.2.2.1 rfl) (fun e => (h.x8 fb e).2.2.2.1 rfl); have hm : ¬ (mb = l ∨ some mb = v7.ownBlock ∨ some mb = v8.ownBlock) := hS mb h.xm.2 (fun e => (h.x7 mb e).2.2.2.2.1 rfl) (fun e => (h.x8 mb e).2.2.2.2.1 rfl)
  have hd : ∀ k, own d g m k → ¬ (k = l ∨ some k = v7.ownBlock ∨ some k = v8.ownBlock) := fun k hk => hS k (fun e => h.xl (e ▸ hk)) (fun e => (h.x7 k e).1 hk) (fun e => (h.x8 k e).1 hk)
  have hP := h.pool.kept ho hp hf hm (fun B hB => hT B hB); have hplt := h.pool.lt; have hflt := h.pool.flt; have hmlt := h.pool.map.lt
  have hdl : ∀ k, own d g m k → k < W.heap.size := fun k hk => by
    have := h.dsk.lt; have := h.dsk.old.lt; have := h.dsk.map.lt
    rcases hk with e | e | e <;> omega
  have hll := h.log.lt
  refine ⟨he, v7', v8', fun k => T k ∧ v7'.ownBlock ≠ some k ∧ v8'.ownBlock ≠ some k, ⟨⟨hP.c0, hP.c1, hP.c2, hP.c3, hP.c4, hP.c5, hP.fz, hP.lt, fun i hi => ?_, hP.ffz, hP.flt, hP.map, hP.n1, hP.n2, hP.n3, fun e => hP.t1 e.1, fun e => hP.t2 e.1, fun e => hP.t3 e.1, hP.nf, hP.np, hP.nm, hP.nn, fun k hk => ⟨hP.new k hk, fun e => by have := (Row.lt7 hlo k e).2; omega, fun e => by have := (Row.lt8 hlo k e).2; omega⟩⟩,
    h.dsk.kept ho (hd d (.inl rfl)) (hd g (.inr (.inl rfl))) (hd m (.inr (.inr rfl))), hlo, ok, h.sf, htb, h.pok, h.xp, h.xf, h.xm, fun k hk => h.xT k hk.1, h.xl, ?_, ?_, ?_, hl⟩, fun k e => e.1, k7, k8, ho⟩
  · obtain ⟨⟨B, ao, cp, f1, f2, f3, f4⟩, f5, f6⟩ := h.pool.fr i hi
    obtain ⟨⟨B2, ao2, cp2, g1, g2, g3, g4⟩, g5, g6⟩ := hP.fr i hi; refine ⟨⟨B, ao, cp, fun j v hv => ?_, f2.kept ho (fun h0 => hT B (f4 h0)), f3, fun h0 => ⟨f4 h0, fun e => ?_, fun e => ?_⟩⟩, f5, f6⟩
    · have := f1 j v hv
      exact (ho.cell (p := ⟨fb, i * 8 + j, Option.none⟩) (World.block_lt_of_cell? W _ this) hf).trans this
    · rcases k7 B e with e1 | e1
      · exact (h.x7 B e1).2.2.2.2.2 (f4 h0)
      · have := f2.lt h0; omega
    · rcases k8 B e with e1 | e1
      · exact (h.x8 B e1).2.2.2.2.2 (f4 h0)
      · have := f2.lt h0; omega
  · intro k hk
    rcases k7 k hk with e1 | e1
    · obtain ⟨a1, a2, a3, a4, a5, a6⟩ := h.x7 k e1
      exact ⟨a1, a2, a3, a4, a5, fun e => a6 e.1⟩
    · exact ⟨fun e => by have := hdl k e; omega, by omega, by omega, by omega, by omega, fun e => e.2.1 hk⟩
  · intro k hk
    rcases k8 k hk with e1 | e1
    · obtain ⟨a1, a2, a3, a4, a5, a6⟩ := h.x8 k e1
      exact ⟨a1, a2, a3, a4, a5, fun e => a6 e.1⟩
    · exact ⟨fun e => by have := hdl k e; omega, by omega, by omega, by omega, by omega, fun e => e.2.2 hk⟩
  · refine h.only.trans ho (fun i hi e => ?_)
    rcases e with e | e | e
    · omega
    · have := (Row.lt7 h.log i e.symm).1; omega
    · have := (Row.lt8 h.log i e.symm).1; omega
def foot (W : World) (p d l fb mb g m : Nat) (v7 v8 : Value) (T : Nat → Prop) (k : Nat) : Prop := own d g m k ∨ k = l ∨ k = p ∨ k = fb ∨ k = mb ∨ v7.ownBlock = some k ∨ v8.ownBlock = some k ∨ T k ∧ k < W.heap.size
theorem Sw.lt {w W : World} {p d l fb mb g m : Nat} {P : Pl} {D : Dk} {G : Lg} {v7 v8 : Value} {T : Nat → Prop} (h : Sw w W p d l fb mb g m P D G v7 v8 T) : d < W.heap.size ∧ g < W.heap.size ∧ m < W.heap.size ∧ l < W.heap.size ∧ p < W.heap.size ∧ fb < W.heap.size ∧ mb < W.heap.size := by
  exact ⟨h.dsk.lt, h.dsk.old.lt, h.dsk.map.lt, h.log.lt, h.pool.lt, h.pool.flt, h.pool.map.lt⟩
theorem Sw.own_lt {w W : World} {p d l fb mb g m : Nat} {P : Pl} {D : Dk} {G : Lg} {v7 v8 : Value} {T : Nat → Prop} (h : Sw w W p d l fb mb g m P D G v7 v8 T) (k : Nat) (hk : own d g m k) : k < W.heap.size := by
  have := h.lt
  rcases hk with e | e | e <;> omega
theorem Sw.kept {S : Nat → Prop} {w W W' : World} {p d l fb mb g m : Nat} {P : Pl} {D : Dk} {G : Lg} {v7 v8 : Value} {T : Nat → Prop} (h : Sw w W p d l fb mb g m P D G v7 v8 T) (ho : Only S W W') (hS : ∀ k, foot W p d l fb mb g m v7 v8 T k → ¬ S k) (hw : Only (fun _ => False) w W') :
    Sw w W' p d l fb mb g m P D G v7 v8 (fun k => T k ∧ k < W.heap.size ∨ W'.heap.size ≤ k) := by
  have hlt := h.lt; have hsz := ho.size
  have sown : ∀ k, own d g m k → ¬ S k := fun k hk => hS k (.inl hk)
  have sl : ¬ S l := hS l (.inr (.inl rfl)); have sp : ¬ S p := hS p (.inr (.inr (.inl rfl))); have sf : ¬ S fb := hS fb (.inr (.inr (.inr (.inl rfl)))); have sm : ¬ S mb := hS mb (.inr (.inr (.inr (.inr (.inl rfl)))))
  have s7 : ∀ k, v7.ownBlock = some k → ¬ S k := fun k hk => hS k (.inr (.inr (.inr (.inr (.inr (.inl hk))))))
  have s8 : ∀ k, v8.ownBlock = some k → ¬ S k := fun k hk => hS k (.inr (.inr (.inr (.inr (.inr (.inr (.inl hk)))))))
  have sT : ∀ k, T k → k < W.heap.size → ¬ S k := fun k hk hk2 => hS k (.inr (.inr (.inr (.inr (.inr (.inr (.inr ⟨hk, hk2⟩)))))))
  have hp := h.pool
  have k : ∀ (j : Nat) (v : Value), W.cell? ⟨p, j, none⟩ = some v → W'.cell? ⟨p, j, none⟩ = some v := fun j v hj => (ho.cell (p := ⟨p, j, none⟩) hp.lt sp).trans hj
  refine ⟨⟨k _ _ hp.c0, k _ _ hp.c1, k _ _ hp.c2, k _ _ hp.c3, k _ _ hp.c4, k _ _ hp.c5, fun j => (ho.frozen (p := ⟨p, j, none⟩) hp.lt sp).trans (hp.fz j), Nat.lt_of_lt_of_le hp.lt ho.size, fun i hi => ?_, fun j => (ho.frozen (p := ⟨fb, j, none⟩) hp.flt sf).trans (hp.ffz j), Nat.lt_of_lt_of_le hp.flt ho.size, hp.map.kept ho sm, hp.n1, hp.n2, hp.n3, ?_, ?_, ?_, hp.nf, hp.np, hp.nm, hp.nn, fun k hk => .inr hk⟩,
    h.dsk.kept ho (sown d (.inl rfl)) (sown g (.inr (.inl rfl))) (sown m (.inr (.inr rfl))), h.log.kept ho sl s7 s8, h.ok, h.sf, h.tb, h.pok, h.xp, h.xf, h.xm, ?_, h.xl, ?_, ?_, hw, h.lo⟩
  · obtain ⟨⟨B, ao, cp, f1, f2, f3, f4⟩, f5, f6⟩ := hp.fr i hi
    refine ⟨⟨B, ao, cp, fun j v hv => ?_, f2.kept ho (fun h0 => sT B (f4 h0) (f2.lt h0)), f3, fun h0 => .inl ⟨f4 h0, f2.lt h0⟩⟩, f5, f6⟩; have := f1 j v hv
    exact (ho.cell (p := ⟨fb, i * 8 + j, none⟩) (World.block_lt_of_cell? W _ this) sf).trans this
  · rintro (e | e)
    · exact hp.t1 e.1
    · omega
  · rintro (e | e)
    · exact hp.t2 e.1
    · omega
  · rintro (e | e)
    · exact hp.t3 e.1
    · omega
  · rintro k (e | e)
    · exact h.xT k e.1
    · exact ⟨fun e2 => by have := h.own_lt k e2; omega, by omega⟩
  · intro k hk
    obtain ⟨a1, a2, a3, a4, a5, a6⟩ := h.x7 k hk; refine ⟨a1, a2, a3, a4, a5, ?_⟩; rintro (e | e)
    · exact a6 e.1
    · have := (Row.lt7 h.log k hk).2; omega
  · intro k hk
    obtain ⟨a1, a2, a3, a4, a5, a6⟩ := h.x8 k hk; refine ⟨a1, a2, a3, a4, a5, ?_⟩; rintro (e | e)
    · exact a6 e.1
    · have := (Row.lt8 h.log k hk).2; omega
theorem nt_lay (t : Nat) : (nt.at_ (t : Int)).lay.length ≤ 25 := by
  have h0 : sev 0 = [0] := by decide
  have h1 : sev 1 = [1] := by decide
  have h2 : sev 2 = [2] := by decide
  have := sev_len t; simp only [Rc.lay, nums, nt, Rc.at_, textL, List.length_append]
  simp [h0, h1, h2, bl]
  have e : (⟨#[]⟩ : ByteArray).size = 0 := rfl
  first
    | omega
    | (rw [e, h0]; simp; omega)
theorem nt_valid (t : Nat) (h1 : 1 ≤ t) (h2 : t ≤ 100000) : (nt.at_ (t : Int)).valid := by
  refine ⟨(by decide : (1 : Int) ≤ 2), (by decide : (2 : Int) ≤ 13), ⟨?_, fun n hn => ?_, (fun n h => by cases h), (fun n h => by cases h), (fun n h => by cases h), (fun n h => by cases h), (fun n h => by cases h)⟩, ⟨(by decide : 0 ≤ 512), Nat.zero_le _, Nat.zero_le _, Nat.zero_le _, Nat.zero_le _, Nat.zero_le _⟩, rfl, by have := nt_lay t; omega⟩
  · show (1 : Int) ≤ (t : Int); omega
  · have hn' : n = (t : Int) ∨ n = 0 ∨ n = 1 := by
      simp [nt, Rc.at_] at hn
      omega
    unfold mb
    rcases hn' with e | e | e <;> (subst e; exact ⟨by omega, by unfold top; omega⟩)
theorem nt_len (t : Nat) : 8 ≤ (nt.at_ (t : Int)).enc.length ∧ (nt.at_ (t : Int)).enc.length ≤ 33 := by
  have := nt_lay t; rw [renc_len]
  omega
end Go.Proofs.YtebijheonkagfaaGreatDoor
namespace Go.Proofs.YtebijheonkagfaaGreatDoor
open Go.RowKit
def gn : Lg := (Lg.new 0 10).app (nt.at_ 1).enc
theorem gn_tail : gn.tail = 25 := by show 1 + (nt.at_ 1).enc.length = 25; rw [nt1_len]
theorem gn_ok : gn.Ok := by
  have h := gn_tail
  have hl : gn.stream.length = 24 := by show ([] ++ (nt.at_ 1).enc).length = 24; rw [List.nil_append, nt1_len]
  refine ⟨by decide, ?_, ?_, ?_, by decide, by decide, by decide, by decide, ?_⟩
  · show 1 ≤ gn.tail; omega
  · omega
  · show 1 ≤ gn.tail; omega
  · omega
theorem qa_disk (w : World) : Calls Tryz.prog 4 #[.int .i64 60] w fun e w' => ∃ d g m, e = .returned (.tuple #[.pointer (some ⟨d, 0, none⟩), .int .i64 0]) ∧ Dsk w' d g m (Dk.new 60) ∧ Only (fun _ => False) w w' ∧ (∀ k, own d g m k → w.heap.size ≤ k ∧ k < w'.heap.size) := st_disk w 60 (by omega) (by omega)
theorem qa_log {w W : World} {d g m : Nat} (hD : Dsk W d g m (Dk.new 60)) (ho : Only (fun _ => False) w W) (hk : ∀ k, own d g m k → w.heap.size ≤ k ∧ k < W.heap.size) :
    Calls Tryz.prog 6 #[.pointer (some ⟨d, 0, none⟩), .int .i64 0, .int .i64 10] W fun e w' => ∃ l D, e = .returned (.tuple #[.pointer (some ⟨l, 0, none⟩), .int .i64 0]) ∧ D.Wk 60 (fun _ => zs64) ∧ Dsk w' d g m D ∧ LogOw w' l d (Lg.new 0 10) w.heap.size (.slice none 0 0) (.slice none 0 0) ∧ ¬ own d g m l ∧ w.heap.size ≤ l ∧ Only (fun _ => False) w w' ∧ (∀ k, own d g m k → w.heap.size ≤ k ∧ k < w'.heap.size) :=
  st_log (N := 60) (n := 10) hD ho hk (by omega) (by omega)
theorem qa_pool {w W : World} {d g m l : Nat} {D : Dk} (hW : D.Wk 60 (fun _ => zs64)) (hD : Dsk W d g m D) (hL : LogOw W l d (Lg.new 0 10) w.heap.size (.slice none 0 0) (.slice none 0 0)) (hnl : ¬ own d g m l) (hlw : w.heap.size ≤ l) (ho : Only (fun _ => False) w W) (hk : ∀ k, own d g m k → w.heap.size ≤ k ∧ k < W.heap.size) :
    Calls Tryz.prog 8 #[.pointer (some ⟨d, 0, none⟩), .pointer (some ⟨l, 0, none⟩), .int .i64 10, .int .i64 4, .int .i64 1] W fun e w' => ∃ p fb mb T, e = .returned (.tuple #[.pointer (some ⟨p, 0, none⟩), .int .i64 0]) ∧ Sw w w' p d l fb mb g m (Pl.new 10 4 1) D (Lg.new 0 10) (.slice none 0 0) (.slice none 0 0) T :=
  st_pool (N := 60) (n := 10) (pages := 4) (frames := 1) hW hD hL hnl hlw ho hk (by omega) (by omega) (by omega) (by omega) (by omega) (by omega) (by omega)
theorem qa_append {w W : World} {p d l fb mb g m : Nat} {P : Pl} {D : Dk} {v7 v8 : Value} {T : Nat → Prop} (h : Sw w W p d l fb mb g m P D (Lg.new 0 10) v7 v8 T) :
    Calls Tryz.prog 14 #[.pointer (some ⟨l, 0, none⟩), .agg (nt.cells Loc.none)] W fun e w' => e = .returned (.tuple #[.int .i64 1, .int .i64 0]) ∧ ∃ v7' v8' T', Sw w w' p d l fb mb g m P D gn v7' v8' T' :=
  sw_append h nt1_valid (by show (nt.at_ 1).enc.length ≤ 432; rw [nt1_len]; omega) (by show 0 ≤ _; omega) gn_ok (by show gn.tail < _; rw [gn_tail]; omega)
theorem qa_set2 {w W : World} {p d l fb mb g m : Nat} {D : Dk} {v7 v8 : Value} {T : Nat → Prop} (h : Sw w W p d l fb mb g m (Pl.new 10 4 1) D gn v7 v8 T) (B : Nat) (hS : Strs W B (some ⟨B, 0, none⟩) [⟨#[120]⟩]) (hB : ¬ own d g m B ∧ B ≠ l ∧ B ≠ p ∧ B ≠ fb ∧ B ≠ mb) :
    Calls Tryz.prog 17 #[.pointer (some ⟨p, 0, none⟩), .int .i64 2, .agg #[.int .i64 1, .int .i64 2, .int .i64 0, .int .i64 0, .string ⟨#[]⟩, .slice (some ⟨B, 0, none⟩) 1 1], .int .i64 0] W fun e w' =>
      e = .returned (.int .i64 0) ∧ ∃ mb' T', Sw w w' p d l fb mb' g m aP1 D gn v7 v8 T' := by
  have hx := sw_set h 2 0 bX B (some ⟨B, 0, none⟩) 1 hS (fun _ => hB) (by decide) (by decide); rw [ax_one] at hx
  exact Calls.mono hx fun e w' hx => ⟨hx.1, hx.2.1⟩
theorem Sw.fresh {w W : World} {p d l fb mb g m : Nat} {P : Pl} {D : Dk} {G : Lg} {v7 v8 : Value} {T : Nat → Prop} (h : Sw w W p d l fb mb g m P D G v7 v8 T) (B : Nat) (hB : W.heap.size ≤ B) : ¬ own d g m B ∧ B ≠ l ∧ B ≠ p ∧ B ≠ fb ∧ B ≠ mb := by
  have hplt := h.pool.lt; have hflt := h.pool.flt; have hmlt := h.pool.map.lt; have hll := h.log.lt; have := h.dsk.lt; have := h.dsk.old.lt; have := h.dsk.map.lt; refine ⟨fun e => ?_, by omega, by omega, by omega, by omega⟩
  rcases e with e | e | e <;> omega
theorem strs_one (w : World) (s : ByteArray) (t : Nat) (hs : s.size ≤ 140737488355328) : Strs (w.alloc (.cells #[.string s] t)) w.heap.size (some ⟨w.heap.size, 0, none⟩) [s] := by
  refine ⟨fun _ => ⟨0, rfl, fun j hj => ?_⟩, fun _ => by simp, by simp, fun x hx => ?_⟩
  · have : j = 0 := by simpa using hj
    subst this
    simp
  · simp at hx; subst hx; exact hs
theorem qa_set3 {w W : World} {p d l fb mb g m : Nat} {D : Dk} {v7 v8 : Value} {T : Nat → Prop} (h : Sw w W p d l fb mb g m aP1 D gn v7 v8 T) (hD : D.Wk 60 (fun _ => zs64)) :
    Calls Tryz.prog 17 #[.pointer (some ⟨p, 0, none⟩), .int .i64 3, .agg #[.int .i64 1, .int .i64 2, .int .i64 0, .int .i64 0, .string ⟨#[]⟩, .slice none 0 0], .int .i64 0] W fun e w' =>
      e = .returned (.int .i64 0) ∧ ∃ mb' T' P' D' G' f, Sw w w' p d l fb mb' g m P' D' G' v7 v8 T' ∧ P'.fs = [⟨bY, 3, true⟩] ∧ (P'.ow 2).isSome = true ∧ P'.frm = 10 ∧ P'.pages = 4 ∧ G' = { gn with flushed := gn.tail } ∧ D'.Wk 60 f ∧ ∀ i, i < 8 → f (26 + i) = (bX.enc.drop (64 * i)).take 64 := by
  obtain ⟨a1, a2, a3, a4, a5, a6, f, a7, a8⟩ := ax_two (G := gn) hD rfl rfl rfl; have hx := sw_set h 3 0 bY 0 none 0 (Strs.nil _ _ _) (fun h0 => by cases h0) (by decide) (by decide); rw [a1] at hx; refine Calls.mono hx ?_; rintro e w' ⟨he, ⟨mb', T', hs⟩, _⟩
  exact ⟨he, mb', T', _, _, _, f, hs, a2, a3, a4, a5, a6, a7, a8⟩
theorem qa_fetch {w W : World} {p d l fb mb g m : Nat} {P : Pl} {D : Dk} {G : Lg} {v7 v8 : Value} {T : Nat → Prop} {f : Nat → List UInt8} (h : Sw w W p d l fb mb g m P D G v7 v8 T) (h1 : P.fs = [⟨bY, 3, true⟩]) (h2 : (P.ow 2).isSome = true) (h3 : P.frm = 10) (h4 : P.pages = 4) (h5 : G = { gn with flushed := gn.tail }) (h6 : D.Wk 60 f) (h7 : ∀ i, i < 8 → f (26 + i) = (bX.enc.drop (64 * i)).take 64) :
    Calls Tryz.prog 11 #[.pointer (some ⟨p, 0, none⟩), .int .i64 2, .int .i64 0] W fun e w' =>
      ∃ Bq aq cq, e = .returned (.tuple #[.agg #[.int .i64 1, .int .i64 2, .int .i64 0, .int .i64 0, .string ⟨#[]⟩, .slice aq 1 cq], .int .i64 0]) ∧ Strs w' Bq aq [⟨#[120]⟩] ∧ Fit aq 1 cq ∧ ∃ mb' T' P' D', Sw w w' p d l fb mb' g m P' D' { gn with flushed := gn.tail } v7 v8 T' ∧ (P'.ow 2).isSome = true ∧ P'.pages = 4 := by
  subst h5; obtain ⟨a1, a2, a3, a4, a5⟩ := ax_three (G := { gn with flushed := gn.tail }) h1 h3 h4 h6 h7 (by show 1 < gn.tail; rw [gn_tail]; omega); have hx := sw_fetch h 2 0 bX a1; rw [a2] at hx; refine Calls.mono hx ?_; rintro e w' ⟨Bq, aq, cq, he, b1, b2, _, ⟨mb', T', hs⟩, _⟩; rw [a5] at hs
  exact ⟨Bq, aq, cq, he, b1, b2, mb', T', _, _, hs, by rw [a3]; exact h2, a4⟩
theorem qa_flushed {w W : World} {p d l fb mb g m : Nat} {P : Pl} {D : Dk} {G : Lg} {v7 v8 : Value} {T : Nat → Prop} (h : Sw w W p d l fb mb g m P D G v7 v8 T) : Calls Tryz.prog 38 #[.pointer (some ⟨l, 0, none⟩)] W fun e w' => e = .returned (.int .i64 (G.flushed : Int)) ∧ w' = W := by
  obtain ⟨B, ao, cp, hv, hs⟩ := h.sh
  exact lflushed_any W l d G B ao cp v8 hs.log
theorem qa_tail {w W : World} {p d l fb mb g m : Nat} {P : Pl} {D : Dk} {G : Lg} {v7 v8 : Value} {T : Nat → Prop} (h : Sw w W p d l fb mb g m P D G v7 v8 T) : Calls Tryz.prog 49 #[.pointer (some ⟨l, 0, none⟩)] W fun e w' => e = .returned (.int .i64 (G.tail : Int)) ∧ w' = W := by
  have c4 := h.log.c4; clear h
  go_enter Tryz.func49, Tryz.ntmps49
  go_wp2
  go_ret
  exact ⟨rfl, rfl⟩
theorem qa_owes {w W : World} {p d l fb mb g m : Nat} {P : Pl} {D : Dk} {G : Lg} {v7 v8 : Value} {T : Nat → Prop} (h : Sw w W p d l fb mb g m P D G v7 v8 T) (h1 : (P.ow 2).isSome = true) (h2 : P.pages = 4) : Calls Tryz.prog 36 #[.pointer (some ⟨p, 0, none⟩), .int .i64 2] W fun e w' => e = .returned (.bool true) ∧ w' = W := by
  have hx := owes_any W p d l fb mb P T h.pool 2 (by omega); rw [h1] at hx
  exact hx
set_option maxRecDepth 100000 in
set_option maxHeartbeats 1600000 in
theorem oawake_any (w : World) : Calls Tryz.prog 10 #[] w fun e w' => e = .returned (.bool true) ∧ Only (fun _ => False) w w' := by
  obtain ⟨V, hV⟩ : ∃ V, Value.agg (nt.cells Loc.none) = V := ⟨_, rfl⟩; have HN := hide (fun W => note_any W); have HA1 := hide (fun (W : World) p d l fb mb g m P D v7 v8 T (h : Sw w W p d l fb mb g m P D (Lg.new 0 10) v7 v8 T) => qa_append h); simp only [hV] at HN HA1; clear hV
  go_enter Tryz.func10, Tryz.ntmps10
  go_wp2_with fail
  refine (qa_disk w).mono ?_; rintro e w1 ⟨d, g, m, rfl, hD, ho, hk⟩; have HF := hide (qa_log hD ho hk); clear hD ho hk
  go_wp2_with fail
  refine HF.out.mono ?_; rintro e w2 ⟨l, D, rfl, hW, hD, hL, hnl, hlw, ho, hk⟩; have HW := hide hW; have HP := hide (qa_pool hW hD hL hnl hlw ho hk); clear hW hD hL hnl hlw ho hk HF
  go_wp2_with fail
  refine HP.out.mono ?_; rintro e w3 ⟨p, fb, mb, T, rfl, hs⟩; have HS := hide hs; clear hs HP
  go_wp2_with fail
  refine (HN.out w3).mono ?_; rintro e w4 ⟨rfl, ho⟩; have HA := hide (HA1.out _ _ _ _ _ _ _ _ _ _ _ _ _ (HS.out.more ho)); clear ho HS
  go_wp2_with fail
  refine HA.out.mono ?_; rintro e w5 ⟨rfl, v7, v8, T5, hs⟩; have HS := hide hs; clear hs HA HA1 HN
  go_wp2_with fail
  refine Calls.mono (qa_set2 (HS.out.more (onlyA w5 (.cells #[.string ⟨#[120]⟩] 9))) w5.heap.size (strs_one w5 _ _ (by decide)) (HS.out.fresh _ (Nat.le_refl _))) ?_; rintro e w6 ⟨rfl, mb6, T6, hs⟩; have HT := hide (qa_set3 hs HW.out); clear hs HS HW
  go_wp2_with fail
  refine HT.out.mono ?_; rintro e w7 ⟨rfl, mb7, T7, P7, D7, G7, f, hs, h1, h2, h3, h4, h5, h6, h7⟩; have HQ := hide (qa_fetch hs h1 h2 h3 h4 h5 h6 h7); clear hs h1 h2 h3 h4 h5 h6 h7 HT
  go_wp2_with fail
  refine HQ.out.mono ?_; rintro e w8 ⟨Bq, aq, cq, rfl, hS, hF, mb8, T8, P8, D8, hs, h2, h4⟩; have HS8 := hide hs; have HStr := hide hS; have H2 := hide h2; have H4 := hide h4; clear hS hF hs h2 h4 HQ
  go_upto_region 14 with fail
  obtain ⟨W8, hW8⟩ : ∃ W8, w8.alloc (.cells #[.int .i64 1, .int .i64 2, .int .i64 0, .int .i64 0, .string ⟨#[]⟩, .slice aq 1 cq] 45) = W8 := ⟨_, rfl⟩; have HP8 := hide (Pag.new w8 (.int .i64 1) (.int .i64 2) (.int .i64 0) (.int .i64 0) (.string ⟨#[]⟩) (.slice aq 1 cq)); have hO8 := onlyA w8 (.cells #[.int .i64 1, .int .i64 2, .int .i64 0, .int .i64 0, .string ⟨#[]⟩, .slice aq 1 cq] 45); rw [hW8] at HP8 hO8 ⊢; clear hW8; have HS9 := hide (HS8.out.more hO8); obtain ⟨o, rfl, hc⟩ := HStr.out.at_ (by decide); have hx : W8.cell? ⟨Bq, o, none⟩ = some (.string ⟨#[120]⟩) := (hO8.cell (p := ⟨Bq, o, none⟩) (HStr.out.lt (by decide)) (fun e => e)).trans (hc 0 (by decide)); have HFL := hide (qa_flushed HS9.out); have HTL := hide (qa_tail HS9.out); have HOW := hide (qa_owes HS9.out H2.out H4.out); have HO := hide HS9.out.only; obtain ⟨tl, htl⟩ : ∃ tl : Nat, gn.tail = tl := ⟨_, rfl⟩; simp only [htl] at HFL HTL; clear hO8 HS8 HStr hc H2 H4 htl HS9; obtain ⟨p0, p1, p2, p3, p4, p5, _⟩ := HP8.out
  go_wp2_with fail
  refine HFL.out.mono ?_; rintro e w9 ⟨rfl, hw9⟩; obtain rfl := hw9.symm; clear hw9
  go_wp2_with fail
  refine HTL.out.mono ?_; rintro e w9 ⟨rfl, hw9⟩; obtain rfl := hw9.symm; clear hw9
  go_wp2_with fail
  refine HOW.out.mono ?_; rintro e w9 ⟨rfl, hw9⟩; obtain rfl := hw9.symm; clear hw9
  go_wp2_with fail
  go_ret
  exact ⟨rfl, HO.out⟩
end Go.Proofs.YtebijheonkagfaaGreatDoor
