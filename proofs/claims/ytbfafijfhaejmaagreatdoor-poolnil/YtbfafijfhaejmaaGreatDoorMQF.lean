/- For every number the statement PoolNil returns true: a nil pool holds nothing; no condition on it. Go's own tables of the library hold what they are laid with. -/
import Derived.Test.YtbfafijfhaejmaaGreatDoorMQE
import Derived.Test.YtbfafijfhaejmaaGreatDoorPCat
import Derived.ProofKit
import Derived.OpenShut
import Derived.ShutString
import Derived.SizedLaws
import Derived.Deep.Strs
import Derived.Test.YtbfafijfhaejmaaGreatDoorCards
import Derived.Test.YtbfafijfhaejmaaGreatDoorTie
import Derived.Deep.DeepHandedRow
import Derived.Lib.LaidTab
namespace Go.Proofs.YtbfafijfhaejmaaGreatDoor
open Go.RowKit

/-- Where a page is written: the records up to it last first, or do already. -/
theorem write_yes (P : Pl) (G : Lg) (i : Nat) (F : Fm) (N : Nat) (D : Dk) (f : Nat → List UInt8) (h : D.Wk N f) (hv : F.pg.out.2 = 0) (hN : P.frm + 8 * F.num.toNat + 8 ≤ N) (hn : 0 < G.n) (hG : G.frm + G.n ≤ P.frm) (hf : (G.flushed : Int) ≤ F.pg.lsn) :
    (P.write D G i F).c = 0 ∧ (P.write D G i F).P = P.synced.setF i { F with chg := false } ∧ (P.write D G i F).G = { G with flushed := G.tail } ∧ ∃ f', (P.write D G i F).D.Wk N f' ∧ ∀ j, P.frm ≤ j → f' j = if P.frm + 8 * F.num.toNat ≤ j ∧ j < P.frm + 8 * F.num.toNat + 8 then (F.pg.enc.drop (64 * (j - (P.frm + 8 * F.num.toNat)))).take 64 else f j := by
  unfold Pl.write
  rw [if_pos hf]
  obtain ⟨a1, a2, f1, a3, a4⟩ := fl_out G hn N (by omega) D f h
  rw [if_pos a1]
  obtain ⟨b1, b2, b3, b4⟩ := wr_out P.synced { G with flushed := (G.fl D).2.2 } i F N (G.fl D).1 f1 a3 hv hN
  refine ⟨b1, b2, by rw [b3, a2], _, b4, fun j hj => ?_⟩
  show (if P.frm + 8 * F.num.toNat ≤ j ∧ j < P.frm + 8 * F.num.toNat + 8 then _ else f1 j) = _
  rw [a4 j (.inr (by omega))]
  rfl
theorem write_no (P : Pl) (G : Lg) (i : Nat) (F : Fm) (N : Nat) (D : Dk) (f : Nat → List UInt8) (h : D.Wk N f) (hv : F.pg.out.2 = 0) (hN : P.frm + 8 * F.num.toNat + 8 ≤ N) (hf : ¬ (G.flushed : Int) ≤ F.pg.lsn) :
    (P.write D G i F).c = 0 ∧ (P.write D G i F).P = P.setF i { F with chg := false } ∧ (P.write D G i F).G = G ∧ ∃ f', (P.write D G i F).D.Wk N f' ∧ ∀ j, P.frm ≤ j → f' j = if P.frm + 8 * F.num.toNat ≤ j ∧ j < P.frm + 8 * F.num.toNat + 8 then (F.pg.enc.drop (64 * (j - (P.frm + 8 * F.num.toNat)))).take 64 else f j := by
  unfold Pl.write
  rw [if_neg hf]
  obtain ⟨b1, b2, b3, b4⟩ := wr_out P G i F N D f h hv hN
  exact ⟨b1, b2, b3, _, b4, fun j _ => rfl⟩
def bX : Pg := ⟨1, 2, 0, 0, ⟨#[]⟩, [⟨#[120]⟩]⟩
def bY : Pg := ⟨1, 2, 0, 0, ⟨#[]⟩, []⟩
theorem bX_valid : bX.valid := ⟨⟨by decide, by decide, by decide, by decide, by decide, by decide, by decide⟩, ⟨by decide, by decide, by decide⟩, by decide⟩
theorem bY_valid : bY.valid := ⟨⟨by decide, by decide, by decide, by decide, by decide, by decide, by decide⟩, ⟨by decide, by decide, by decide⟩, by decide⟩
theorem bX_out : bX.out.2 = 0 := by rw [out_ok bX_valid.rng bX_valid.fit]
theorem bY_out : bY.out.2 = 0 := by rw [out_ok bY_valid.rng bY_valid.fit]
theorem bX_set : bX.setC = 0 := by
  unfold Pg.setC
  rw [bX_out]
  decide
theorem bY_set : bY.setC = 0 := by
  unfold Pg.setC
  rw [bY_out]
  decide
/-- The pool behind the first page, the second one, and the reading. -/
def aP1 : Pl := ⟨10, 4, [⟨bX, 2, true⟩], fun j => if j = 2 then some 1 else none⟩
theorem ax_one (D : Dk) (G : Lg) : (Pl.new 10 4 1).set D G 2 bX 0 = ⟨0, aP1, D, G⟩ := by
  unfold Pl.set
  rw [if_neg (by decide), if_neg (by rw [bX_set]; decide)]
  have h1 : (Pl.new 10 4 1).idx 2 = none := by decide
  have h2 : (Pl.new 10 4 1).idx (-1) = some 0 := by decide
  have h3 : (Pl.new 10 4 1).take D G 0 = (⟨0, Pl.new 10 4 1, D, G⟩, some 0) := by
    unfold Pl.take
    rw [h2]
  rw [h1, h3]
  dsimp only
  unfold Pl.setAt
  rw [if_neg (by decide)]
  rfl
theorem ax_two {D : Dk} {G : Lg} (hD : D.Wk 60 (fun _ => zs64)) (hg1 : G.flushed = 1) (hn : G.n = 10) (hf : G.frm = 0) :
    (aP1.set D G 3 bY 0).c = 0 ∧ (aP1.set D G 3 bY 0).P.fs = [⟨bY, 3, true⟩] ∧ ((aP1.set D G 3 bY 0).P.ow 2).isSome = true ∧ (aP1.set D G 3 bY 0).P.frm = 10 ∧ (aP1.set D G 3 bY 0).P.pages = 4 ∧ (aP1.set D G 3 bY 0).G = { G with flushed := G.tail } ∧ ∃ f, (aP1.set D G 3 bY 0).D.Wk 60 f ∧ ∀ i, i < 8 → f (26 + i) = (bX.enc.drop (64 * i)).take 64 := by
  obtain ⟨w1, w2, w3, f, w4, w5⟩ := write_yes aP1 G 0 ⟨bX, 2, true⟩ 60 D _ hD bX_out (by show 10 + 8 * 2 + 8 ≤ 60; omega) (by omega) (by rw [hf, hn]; show 0 + 10 ≤ 10; omega) (by rw [hg1]; decide)
  have h1 : aP1.idx 3 = none := by decide
  have h2 : aP1.idx (-1) = none := by decide
  have hg : aP1.get 0 = ⟨bX, 2, true⟩ := rfl
  have h3 : aP1.take D G 0 = (⟨0, (aP1.write D G 0 ⟨bX, 2, true⟩).P.setF 0 Fm.none, (aP1.write D G 0 ⟨bX, 2, true⟩).D, (aP1.write D G 0 ⟨bX, 2, true⟩).G⟩, some 0) := by
    unfold Pl.take
    rw [h2]
    show aP1.takeAt D G 0 = _
    unfold Pl.takeAt
    rw [hg, if_pos rfl, if_pos w1]
  have h4 : aP1.set D G 3 bY 0 = ⟨0, ((aP1.write D G 0 ⟨bX, 2, true⟩).P.setF 0 Fm.none).setAt 0 3 bY, (aP1.write D G 0 ⟨bX, 2, true⟩).D, (aP1.write D G 0 ⟨bX, 2, true⟩).G⟩ := by
    unfold Pl.set
    rw [if_neg (by decide), if_neg (by rw [bY_set]; decide), h1, h3]
    rfl
  have hs2 : aP1.synced.ow 2 = some 1 := by
    unfold Pl.synced
    have : ∃ f ∈ aP1.fs, f.chg = true ∧ f.num = ((2 : Nat) : Int) := ⟨⟨bX, 2, true⟩, by simp [aP1], rfl, rfl⟩
    simp only [this, if_true]
    rfl
  have hs3 : aP1.synced.ow 3 = none := by
    unfold Pl.synced
    have : ¬ ∃ f ∈ aP1.fs, f.chg = true ∧ f.num = ((3 : Nat) : Int) := by
      rintro ⟨f, hf, _, hn⟩
      simp [aP1] at hf
      subst hf
      cases hn
    simp only [this, if_false]
  rw [h4]
  dsimp only
  rw [w2]
  have hset : ((aP1.synced.setF 0 { (⟨bX, 2, true⟩ : Fm) with chg := false }).setF 0 Fm.none).setAt 0 3 bY = { ((aP1.synced.setF 0 { (⟨bX, 2, true⟩ : Fm) with chg := false }).setF 0 Fm.none).setF 0 ⟨bY, 3, true⟩ with ow := fun j => if j = 3 then some bY.lsn else aP1.synced.ow j } := by
    unfold Pl.setAt
    rw [if_neg (by show ¬ (aP1.synced.ow 3).isSome = true; rw [hs3]; decide)]
    rfl
  rw [hset]
  refine ⟨rfl, rfl, ?_, rfl, rfl, w3, f, w4, fun i hi => ?_⟩
  · show (if (2 : Nat) = 3 then some bY.lsn else aP1.synced.ow 2).isSome = true
    rw [if_neg (by decide), hs2]
    rfl
  · have := w5 (26 + i) (by show 10 ≤ _; omega)
    rw [this, if_pos (by show 10 + 8 * 2 ≤ 26 + i ∧ 26 + i < 10 + 8 * 2 + 8; omega)]
    show (bX.enc.drop (64 * (26 + i - (10 + 8 * 2)))).take 64 = _
    rw [show 26 + i - (10 + 8 * 2) = i by omega]
theorem ax_three {P : Pl} {D : Dk} {G : Lg} {f : Nat → List UInt8} (hfs : P.fs = [⟨bY, 3, true⟩]) (hfr : P.frm = 10) (hpg : P.pages = 4) (hD : D.Wk 60 f) (hf : ∀ i, i < 8 → f (26 + i) = (bX.enc.drop (64 * i)).take 64) (hg : 1 < G.flushed) :
    (P.fetch D G 2 0).2 = bX ∧ (P.fetch D G 2 0).1.c = 0 ∧ (P.fetch D G 2 0).1.P.ow = P.ow ∧ (P.fetch D G 2 0).1.P.pages = 4 ∧ (P.fetch D G 2 0).1.G = G := by
  have hp : D.page 26 = (bX, 0) := page_back hD 26 (by omega) bX bX_valid hf
  obtain ⟨w1, w2, w3, _⟩ := write_no P G 0 ⟨bY, 3, true⟩ 60 D f hD bY_out (by rw [hfr]; show 10 + 8 * 3 + 8 ≤ 60; omega) (by show ¬ (G.flushed : Int) ≤ 1; omega)
  have h1 : P.idx 2 = none := by unfold Pl.idx; rw [hfs]; decide
  have h2 : P.idx (-1) = none := by unfold Pl.idx; rw [hfs]; decide
  have hgt : P.get 0 = ⟨bY, 3, true⟩ := by unfold Pl.get; rw [hfs]; rfl
  have hlen : P.fs.length = 1 := by rw [hfs]; rfl
  have h3 : P.take D G 0 = (⟨0, (P.write D G 0 ⟨bY, 3, true⟩).P.setF 0 Fm.none, (P.write D G 0 ⟨bY, 3, true⟩).D, (P.write D G 0 ⟨bY, 3, true⟩).G⟩, some 0) := by
    unfold Pl.take
    rw [h2, hlen]
    show P.takeAt D G 0 = _
    unfold Pl.takeAt
    rw [hgt, if_pos rfl, if_pos w1]
  have hpa : P.frm + 8 * (2 : Int).toNat = 26 := by rw [hfr]; rfl
  have h4 : P.fetch D G 2 0 = (⟨0, ((P.write D G 0 ⟨bY, 3, true⟩).P.setF 0 Fm.none).setF 0 ⟨bX, 2, false⟩, (P.write D G 0 ⟨bY, 3, true⟩).D, (P.write D G 0 ⟨bY, 3, true⟩).G⟩, bX) := by
    unfold Pl.fetch
    rw [if_neg (by unfold Pl.hasC; rw [hpg]; decide), h1, hpa, hp, h3]
    rfl
  rw [h4]
  dsimp only
  rw [w2, w3]
  exact ⟨rfl, rfl, rfl, hpg, rfl⟩
/-- The record that only takes a place, as the log's first. -/
theorem nt1_lay : (nt.at_ 1).lay = [1, 0, 0, 2, 1, 0, 0, 0, 0, 0, 0, 0, 0, 0, 0, 0] := by decide +kernel
theorem nt1_valid : (nt.at_ 1).valid :=
  ⟨by decide, by decide, ⟨by decide, by decide, (fun n h => by cases h), (fun n h => by cases h), (fun n h => by cases h), (fun n h => by cases h), (fun n h => by cases h)⟩, ⟨by decide, by decide, by decide, by decide, by decide, by decide⟩, rfl, by rw [nt1_lay]; decide⟩
theorem nt1_len : (nt.at_ 1).enc.length = 24 := by rw [renc_len, nt1_lay]; rfl
end Go.Proofs.YtbfafijfhaejmaaGreatDoor

namespace Go.Proofs.YtbfafijfhaejmaaGreatDoor
open Go.RowKit

def gn : Lg := (Lg.new 0 10).app (nt.at_ 1).enc
theorem gn_tail : gn.tail = 25 := by show 1 + (nt.at_ 1).enc.length = 25; rw [nt1_len]
theorem gn_ok : gn.Ok := by
  have h := gn_tail
  have hl : gn.stream.length = 24 := by show ([] ++ (nt.at_ 1).enc).length = 24; rw [List.nil_append, nt1_len]
  refine ⟨by decide, ?_, ?_, ?_, by decide, by decide, by decide, by decide, ?_⟩
  · show 1 ≤ gn.tail; omega
  · omega
  · show 1 ≤ gn.tail; omega
  · omega
theorem qa_disk (w : World) : Calls Tryz.prog 8 #[.int .i64 60] w fun e w' => ∃ d g m, e = .returned (.tuple #[.pointer (some ⟨d, 0, none⟩), .int .i64 0]) ∧ Dsk w' d g m (Dk.new 60) ∧ Only (fun _ => False) w w' ∧ (∀ k, own d g m k → w.heap.size ≤ k ∧ k < w'.heap.size) := st_disk w 60 (by omega) (by omega)
theorem qa_log {w W : World} {d g m : Nat} (hD : Dsk W d g m (Dk.new 60)) (ho : Only (fun _ => False) w W) (hk : ∀ k, own d g m k → w.heap.size ≤ k ∧ k < W.heap.size) :
    Calls Tryz.prog 10 #[.pointer (some ⟨d, 0, none⟩), .int .i64 0, .int .i64 10] W fun e w' => ∃ l D, e = .returned (.tuple #[.pointer (some ⟨l, 0, none⟩), .int .i64 0]) ∧ D.Wk 60 (fun _ => zs64) ∧ Dsk w' d g m D ∧ LogOw w' l d (Lg.new 0 10) w.heap.size (.slice none 0 0) (.slice none 0 0) ∧ ¬ own d g m l ∧ w.heap.size ≤ l ∧ Only (fun _ => False) w w' ∧ (∀ k, own d g m k → w.heap.size ≤ k ∧ k < w'.heap.size) :=
  st_log (N := 60) (n := 10) hD ho hk (by omega) (by omega)
theorem qa_pool {w W : World} {d g m l : Nat} {D : Dk} (hW : D.Wk 60 (fun _ => zs64)) (hD : Dsk W d g m D) (hL : LogOw W l d (Lg.new 0 10) w.heap.size (.slice none 0 0) (.slice none 0 0)) (hnl : ¬ own d g m l) (hlw : w.heap.size ≤ l) (ho : Only (fun _ => False) w W) (hk : ∀ k, own d g m k → w.heap.size ≤ k ∧ k < W.heap.size) :
    Calls Tryz.prog 12 #[.pointer (some ⟨d, 0, none⟩), .pointer (some ⟨l, 0, none⟩), .int .i64 10, .int .i64 4, .int .i64 1] W fun e w' => ∃ p fb mb T, e = .returned (.tuple #[.pointer (some ⟨p, 0, none⟩), .int .i64 0]) ∧ Sw w w' p d l fb mb g m (Pl.new 10 4 1) D (Lg.new 0 10) (.slice none 0 0) (.slice none 0 0) T :=
  st_pool (N := 60) (n := 10) (pages := 4) (frames := 1) hW hD hL hnl hlw ho hk (by omega) (by omega) (by omega) (by omega) (by omega) (by omega) (by omega)
theorem qa_append {w W : World} {p d l fb mb g m : Nat} {P : Pl} {D : Dk} {v7 v8 : Value} {T : Nat → Prop} (h : Sw w W p d l fb mb g m P D (Lg.new 0 10) v7 v8 T) :
    Calls Tryz.prog 18 #[.pointer (some ⟨l, 0, none⟩), .agg (nt.cells Loc.none)] W fun e w' => e = .returned (.tuple #[.int .i64 1, .int .i64 0]) ∧ ∃ v7' v8' T', Sw w w' p d l fb mb g m P D gn v7' v8' T' :=
  sw_append h nt1_valid (by show (nt.at_ 1).enc.length ≤ 432; rw [nt1_len]; omega) (by show 0 ≤ _; omega) gn_ok (by show gn.tail < _; rw [gn_tail]; omega)
theorem qa_set2 {w W : World} {p d l fb mb g m : Nat} {D : Dk} {v7 v8 : Value} {T : Nat → Prop} (h : Sw w W p d l fb mb g m (Pl.new 10 4 1) D gn v7 v8 T) (B : Nat) (hS : Strs W B (some ⟨B, 0, none⟩) [⟨#[120]⟩]) (hB : ¬ own d g m B ∧ B ≠ l ∧ B ≠ p ∧ B ≠ fb ∧ B ≠ mb) :
    Calls Tryz.prog 21 #[.pointer (some ⟨p, 0, none⟩), .int .i64 2, .agg #[.int .i64 1, .int .i64 2, .int .i64 0, .int .i64 0, .string ⟨#[]⟩, .slice (some ⟨B, 0, none⟩) 1 1], .int .i64 0] W fun e w' =>
      e = .returned (.int .i64 0) ∧ ∃ mb' T', Sw w w' p d l fb mb' g m aP1 D gn v7 v8 T' := by
  have hx := sw_set h 2 0 bX B (some ⟨B, 0, none⟩) 1 hS (fun _ => hB) (by decide) (by decide)
  rw [ax_one] at hx
  exact Calls.mono hx fun e w' hx => ⟨hx.1, hx.2.1⟩
theorem Sw.fresh {w W : World} {p d l fb mb g m : Nat} {P : Pl} {D : Dk} {G : Lg} {v7 v8 : Value} {T : Nat → Prop} (h : Sw w W p d l fb mb g m P D G v7 v8 T) (B : Nat) (hB : W.heap.size ≤ B) : ¬ own d g m B ∧ B ≠ l ∧ B ≠ p ∧ B ≠ fb ∧ B ≠ mb := by
  have hplt := h.pool.lt
  have hflt := h.pool.flt
  have hmlt := h.pool.map.lt
  have hll := h.log.lt
  have := h.dsk.lt
  have := h.dsk.old.lt
  have := h.dsk.map.lt
  refine ⟨fun e => ?_, by omega, by omega, by omega, by omega⟩
  rcases e with e | e | e <;> omega
theorem strs_one (w : World) (s : ByteArray) (t : Nat) (hs : s.size ≤ 140737488355328) : Strs (w.alloc (.cells #[.string s] t)) w.heap.size (some ⟨w.heap.size, 0, none⟩) [s] := by
  refine ⟨fun _ => ⟨0, rfl, fun j hj => ?_⟩, fun _ => by simp, by simp, fun x hx => ?_⟩
  · have : j = 0 := by simpa using hj
    subst this
    simp
  · simp at hx; subst hx; exact hs
theorem qa_set3 {w W : World} {p d l fb mb g m : Nat} {D : Dk} {v7 v8 : Value} {T : Nat → Prop} (h : Sw w W p d l fb mb g m aP1 D gn v7 v8 T) (hD : D.Wk 60 (fun _ => zs64)) :
    Calls Tryz.prog 21 #[.pointer (some ⟨p, 0, none⟩), .int .i64 3, .agg #[.int .i64 1, .int .i64 2, .int .i64 0, .int .i64 0, .string ⟨#[]⟩, .slice none 0 0], .int .i64 0] W fun e w' =>
      e = .returned (.int .i64 0) ∧ ∃ mb' T' P' D' G' f, Sw w w' p d l fb mb' g m P' D' G' v7 v8 T' ∧ P'.fs = [⟨bY, 3, true⟩] ∧ (P'.ow 2).isSome = true ∧ P'.frm = 10 ∧ P'.pages = 4 ∧ G' = { gn with flushed := gn.tail } ∧ D'.Wk 60 f ∧ ∀ i, i < 8 → f (26 + i) = (bX.enc.drop (64 * i)).take 64 := by
  obtain ⟨a1, a2, a3, a4, a5, a6, f, a7, a8⟩ := ax_two (G := gn) hD rfl rfl rfl
  have hx := sw_set h 3 0 bY 0 none 0 (Strs.nil _ _ _) (fun h0 => by cases h0) (by decide) (by decide)
  rw [a1] at hx
  refine Calls.mono hx ?_
  rintro e w' ⟨he, ⟨mb', T', hs⟩, _⟩
  exact ⟨he, mb', T', _, _, _, f, hs, a2, a3, a4, a5, a6, a7, a8⟩
theorem qa_fetch {w W : World} {p d l fb mb g m : Nat} {P : Pl} {D : Dk} {G : Lg} {v7 v8 : Value} {T : Nat → Prop} {f : Nat → List UInt8} (h : Sw w W p d l fb mb g m P D G v7 v8 T) (h1 : P.fs = [⟨bY, 3, true⟩]) (h2 : (P.ow 2).isSome = true) (h3 : P.frm = 10) (h4 : P.pages = 4) (h5 : G = { gn with flushed := gn.tail }) (h6 : D.Wk 60 f) (h7 : ∀ i, i < 8 → f (26 + i) = (bX.enc.drop (64 * i)).take 64) :
    Calls Tryz.prog 15 #[.pointer (some ⟨p, 0, none⟩), .int .i64 2, .int .i64 0] W fun e w' =>
      ∃ Bq aq cq, e = .returned (.tuple #[.agg #[.int .i64 1, .int .i64 2, .int .i64 0, .int .i64 0, .string ⟨#[]⟩, .slice aq 1 cq], .int .i64 0]) ∧ Strs w' Bq aq [⟨#[120]⟩] ∧ Fit aq 1 cq ∧ ∃ mb' T' P' D', Sw w w' p d l fb mb' g m P' D' { gn with flushed := gn.tail } v7 v8 T' ∧ (P'.ow 2).isSome = true ∧ P'.pages = 4 := by
  subst h5
  obtain ⟨a1, a2, a3, a4, a5⟩ := ax_three (G := { gn with flushed := gn.tail }) h1 h3 h4 h6 h7 (by show 1 < gn.tail; rw [gn_tail]; omega)
  have hx := sw_fetch h 2 0 bX a1
  rw [a2] at hx
  refine Calls.mono hx ?_
  rintro e w' ⟨Bq, aq, cq, he, b1, b2, _, ⟨mb', T', hs⟩, _⟩
  rw [a5] at hs
  exact ⟨Bq, aq, cq, he, b1, b2, mb', T', _, _, hs, by rw [a3]; exact h2, a4⟩
theorem qa_flushed {w W : World} {p d l fb mb g m : Nat} {P : Pl} {D : Dk} {G : Lg} {v7 v8 : Value} {T : Nat → Prop} (h : Sw w W p d l fb mb g m P D G v7 v8 T) : Calls Tryz.prog 42 #[.pointer (some ⟨l, 0, none⟩)] W fun e w' => e = .returned (.int .i64 (G.flushed : Int)) ∧ w' = W := by
  obtain ⟨B, ao, cp, hv, hs⟩ := h.sh
  exact lflushed_any W l d G B ao cp v8 hs.log
theorem qa_tail {w W : World} {p d l fb mb g m : Nat} {P : Pl} {D : Dk} {G : Lg} {v7 v8 : Value} {T : Nat → Prop} (h : Sw w W p d l fb mb g m P D G v7 v8 T) : Calls Tryz.prog 56 #[.pointer (some ⟨l, 0, none⟩)] W fun e w' => e = .returned (.int .i64 (G.tail : Int)) ∧ w' = W := by
  have c4 := h.log.c4
  clear h
  go_enter Tryz.func56, Tryz.ntmps56
  go_wp2
  go_ret
  exact ⟨rfl, rfl⟩
theorem qa_owes {w W : World} {p d l fb mb g m : Nat} {P : Pl} {D : Dk} {G : Lg} {v7 v8 : Value} {T : Nat → Prop} (h : Sw w W p d l fb mb g m P D G v7 v8 T) (h1 : (P.ow 2).isSome = true) (h2 : P.pages = 4) : Calls Tryz.prog 40 #[.pointer (some ⟨p, 0, none⟩), .int .i64 2] W fun e w' => e = .returned (.bool true) ∧ w' = W := by
  have hx := owes_any W p d l fb mb P T h.pool 2 (by omega)
  rw [h1] at hx
  exact hx
end Go.Proofs.YtbfafijfhaejmaaGreatDoor

namespace Go.Proofs.YtbfafijfhaejmaaGreatDoor
open Go.RowKit

set_option maxRecDepth 100000 in
set_option maxHeartbeats 1600000 in
theorem oawake_any (w : World) : Calls Tryz.prog 14 #[] w fun e w' => e = .returned (.bool true) ∧ Only (fun _ => False) w w' := by
  obtain ⟨V, hV⟩ : ∃ V, Value.agg (nt.cells Loc.none) = V := ⟨_, rfl⟩
  have HN := hide (fun W => note_any W)
  have HA1 := hide (fun (W : World) p d l fb mb g m P D v7 v8 T (h : Sw w W p d l fb mb g m P D (Lg.new 0 10) v7 v8 T) => qa_append h)
  simp only [hV] at HN HA1
  clear hV
  go_enter Tryz.func14, Tryz.ntmps14
  go_wp2_with fail
  refine (qa_disk w).mono ?_
  rintro e w1 ⟨d, g, m, rfl, hD, ho, hk⟩
  have HF := hide (qa_log hD ho hk)
  clear hD ho hk
  go_wp2_with fail
  refine HF.out.mono ?_
  rintro e w2 ⟨l, D, rfl, hW, hD, hL, hnl, hlw, ho, hk⟩
  have HW := hide hW
  have HP := hide (qa_pool hW hD hL hnl hlw ho hk)
  clear hW hD hL hnl hlw ho hk HF
  go_wp2_with fail
  refine HP.out.mono ?_
  rintro e w3 ⟨p, fb, mb, T, rfl, hs⟩
  have HS := hide hs
  clear hs HP
  go_wp2_with fail
  refine (HN.out w3).mono ?_
  rintro e w4 ⟨rfl, ho⟩
  have HA := hide (HA1.out _ _ _ _ _ _ _ _ _ _ _ _ _ (HS.out.more ho))
  clear ho HS
  go_wp2_with fail
  refine HA.out.mono ?_
  rintro e w5 ⟨rfl, v7, v8, T5, hs⟩
  have HS := hide hs
  clear hs HA HA1 HN
  go_wp2_with fail
  refine Calls.mono (qa_set2 (HS.out.more (onlyA w5 (.cells #[.string ⟨#[120]⟩] 9))) w5.heap.size (strs_one w5 _ _ (by decide)) (HS.out.fresh _ (Nat.le_refl _))) ?_
  rintro e w6 ⟨rfl, mb6, T6, hs⟩
  have HT := hide (qa_set3 hs HW.out)
  clear hs HS HW
  go_wp2_with fail
  refine HT.out.mono ?_
  rintro e w7 ⟨rfl, mb7, T7, P7, D7, G7, f, hs, h1, h2, h3, h4, h5, h6, h7⟩
  have HQ := hide (qa_fetch hs h1 h2 h3 h4 h5 h6 h7)
  clear hs h1 h2 h3 h4 h5 h6 h7 HT
  go_wp2_with fail
  refine HQ.out.mono ?_
  rintro e w8 ⟨Bq, aq, cq, rfl, hS, hF, mb8, T8, P8, D8, hs, h2, h4⟩
  have HS8 := hide hs
  have HStr := hide hS
  have H2 := hide h2
  have H4 := hide h4
  clear hS hF hs h2 h4 HQ
  go_upto_region 14 with fail
  obtain ⟨W8, hW8⟩ : ∃ W8, w8.alloc (.cells #[.int .i64 1, .int .i64 2, .int .i64 0, .int .i64 0, .string ⟨#[]⟩, .slice aq 1 cq] 45) = W8 := ⟨_, rfl⟩
  have HP8 := hide (Pag.new w8 (.int .i64 1) (.int .i64 2) (.int .i64 0) (.int .i64 0) (.string ⟨#[]⟩) (.slice aq 1 cq))
  have hO8 := onlyA w8 (.cells #[.int .i64 1, .int .i64 2, .int .i64 0, .int .i64 0, .string ⟨#[]⟩, .slice aq 1 cq] 45)
  rw [hW8] at HP8 hO8 ⊢
  clear hW8
  have HS9 := hide (HS8.out.more hO8)
  obtain ⟨o, rfl, hc⟩ := HStr.out.at_ (by decide)
  have hx : W8.cell? ⟨Bq, o, none⟩ = some (.string ⟨#[120]⟩) := (hO8.cell (p := ⟨Bq, o, none⟩) (HStr.out.lt (by decide)) (fun e => e)).trans (hc 0 (by decide))
  have HFL := hide (qa_flushed HS9.out)
  have HTL := hide (qa_tail HS9.out)
  have HOW := hide (qa_owes HS9.out H2.out H4.out)
  have HO := hide HS9.out.only
  obtain ⟨tl, htl⟩ : ∃ tl : Nat, gn.tail = tl := ⟨_, rfl⟩
  simp only [htl] at HFL HTL
  clear hO8 HS8 HStr hc H2 H4 htl HS9
  obtain ⟨p0, p1, p2, p3, p4, p5, _⟩ := HP8.out
  go_wp2_with fail
  refine HFL.out.mono ?_
  rintro e w9 ⟨rfl, hw9⟩
  obtain rfl := hw9.symm
  clear hw9
  go_wp2_with fail
  refine HTL.out.mono ?_
  rintro e w9 ⟨rfl, hw9⟩
  obtain rfl := hw9.symm
  clear hw9
  go_wp2_with fail
  refine HOW.out.mono ?_
  rintro e w9 ⟨rfl, hw9⟩
  obtain rfl := hw9.symm
  clear hw9
  go_wp2_with fail
  go_ret
  exact ⟨rfl, HO.out⟩
end Go.Proofs.YtbfafijfhaejmaaGreatDoor

namespace Go.Proofs.YtbfafijfhaejmaaGreatDoor
open Go.RowKit

set_option maxRecDepth 100000 in
set_option maxHeartbeats 3200000 in
theorem qnil_law (w : World) (n : Int) : Calls Tryz.prog 6 #[.int .i64 n] w fun e w' => e = .returned (.bool true) ∧ Only (fun _ => False) w w' := by
  go_enter Tryz.func6, Tryz.ntmps6
  go_wp2_with fail
  refine (synced_nil w).mono ?_
  rintro e w1 ⟨rfl, hw1⟩
  obtain rfl := hw1.symm
  clear hw1
  go_wp2_with fail
  refine (oFetch_nil w n n).mono ?_
  rintro e w2 ⟨B, ao, cp, rfl, _, _, ho, _⟩
  simp only [Pg.none, List.length_nil]
  have HO2 := hide ho
  clear ho
  go_upto_region 4 with fail
  obtain ⟨W2, hW2⟩ : ∃ W2, w2.alloc (.cells #[.int .i64 0, .int .i64 0, .int .i64 0, .int .i64 0, .string ⟨#[]⟩, .slice ao 0 cp] 45) = W2 := ⟨_, rfl⟩
  have HO3 := hide (o2 HO2.out (onlyA w2 (.cells #[.int .i64 0, .int .i64 0, .int .i64 0, .int .i64 0, .string ⟨#[]⟩, .slice ao 0 cp] 45)))
  rw [hW2] at HO3 ⊢
  clear hW2 HO2
  have HST := hide (oSet_nil W2 n n Pg.none none 0)
  simp only [Pg.none, List.length_nil] at HST
  go_wp2_with fail
  refine HST.out.mono ?_
  rintro e w4 ⟨rfl, ho⟩
  have HO4 := hide (o2 HO3.out ho)
  clear ho HST HO3
  go_wp2_with fail
  refine (owes_nil w4 n).mono ?_
  rintro e w5 ⟨rfl, hw1⟩
  obtain rfl := hw1.symm
  clear hw1
  go_wp2_with fail
  refine (oWrite_nil w4 n).mono ?_
  rintro e w5 ⟨rfl, hw1⟩
  obtain rfl := hw1.symm
  clear hw1
  go_wp2_with fail
  refine (oDirty_nil w4).mono ?_
  rintro e w5 ⟨rfl, hw1⟩
  obtain rfl := hw1.symm
  clear hw1
  go_wp2_with fail
  refine (oHeld_nil w4).mono ?_
  rintro e w5 ⟨rfl, hw1⟩
  obtain rfl := hw1.symm
  clear hw1
  go_wp2_with fail
  refine (oawake_any w4).mono ?_
  rintro e w5 ⟨rfl, ho⟩
  have HO5 := hide (o2 HO4.out ho)
  clear ho HO4
  go_wp2_with fail
  go_ret
  exact ⟨rfl, HO5.out⟩
end Go.Proofs.YtbfafijfhaejmaaGreatDoor

namespace Go.Proofs.YtbfafijfhaejmaaGreatDoor
open Go.ChangeShapes Go.WideShapes Go.ChangeAt Go.RowKit Go.Deep

theorem Tryz.laidOut : laidOutB Tryz.prog = true := by kernel_rfl
theorem Tryz.cellsInt : Tryz.prog.cellsOf 3 = 1 := by kernel_rfl
theorem Tryz.cellsStr : Tryz.prog.cellsOf 9 = 1 := by kernel_rfl
theorem Tryz.cellsStrs : Tryz.prog.cellsOf 43 = 1 := by kernel_rfl
theorem Tryz.bytesStr : Tryz.prog.bytesOf 9 = 16 := by kernel_rfl
theorem cell_spot {w : World} {a : Addr} {v : Value} (h : w.cell? a = some v) : a = ⟨a.block, a.off, none⟩ := by
  obtain ⟨b, o, s⟩ := a
  cases s with
  | none => rfl
  | some q =>
    unfold World.cell? at h
    split at h
    · simp at h
    · simp at h
theorem weightsAll_mem {H : Type} {P : Program} {e : TypeId} {d : DataW H} {l : List (DataW H)} {n : Nat} (hd : d ∈ l) (hn : n ∈ d.weights P e) : n ∈ DataW.weightsAll P e l := by
  induction l with
  | nil => cases hd
  | cons x t ih =>
    rw [DataW.weightsAll, List.mem_append]
    rcases List.mem_cons.1 hd with rfl | h
    · exact .inl hn
    · exact .inr (ih h)
/-- What a page that came in holds. -/
structure PgIn (W : World) (v : Value) (a k u r : Int) (h : ByteArray) (B : Nat) (ao : Option Addr) (cp : Nat) (l : List ByteArray) : Prop where
  val : v = .agg #[.int .i64 a, .int .i64 k, .int .i64 u, .int .i64 r, .string h, .slice ao l.length cp]
  a : -9223372036854775808 ≤ a ∧ a < 9223372036854775808
  k : -9223372036854775808 ≤ k ∧ k < 9223372036854775808
  u : -9223372036854775808 ≤ u ∧ u < 9223372036854775808
  r : -9223372036854775808 ≤ r ∧ r < 9223372036854775808
  high : h.size ≤ 140737488355328
  strs : Strs W B ao l
  fit : Fit ao l.length cp
  len : l.length ≤ 8796093021952
theorem strs_of_trod {H : Type} {enc : TypeId × Value → H} {W : World} {c : Value} {x : DataW H × List MemPlace} {n : Nat} (h : DataW.trod enc Tryz.prog W 0 (fun _ => true) true n 43 [c] = some x) (hw : ∀ m ∈ x.1.weights Tryz.prog 43, m ≤ reachBytes) :
    ∃ (B : Nat) (ao : Option Addr) (cp : Nat) (l : List ByteArray), c = .slice ao l.length cp ∧ Strs W B ao l ∧ Fit ao l.length cp ∧ l.length ≤ 8796093021952 := by
  rcases open_strs Tryz.underlying43 Tryz.underlying9 Tryz.cellsStr h with ⟨hcs, _⟩ | ⟨ad, len, cap, m, Sx, hcs, _, hl, hm, hmm, hx, hc⟩
  · simp at hcs
    subst hcs
    exact ⟨0, none, 0, [], rfl, Strs.nil _ _ _, ⟨fun _ => rfl, by simp, (by unfold maxLen; omega)⟩, by simp⟩
  · simp at hcs hmm
    subst hcs
    subst hmm
    rw [hx] at hw
    simp only [DataW.weights, Tryz.underlying43, Tryz.bytesStr] at hw
    have hwb := hw ((((List.range len).map fun i => DataW.lit (H := H) (.string (Sx i).data.toList)).length + ((List.range (m - len)).map fun j => DataW.lit (H := H) (.string (Sx (len + j)).data.toList)).length) * 16) (by simp)
    simp only [List.length_map, List.length_range] at hwb
    have hlen : ((List.range len).map Sx).length = len := by simp
    have hwr : reachBytes = 140737488351232 := by decide
    refine ⟨ad.block, some ad, m, (List.range len).map Sx, by rw [hlen], ⟨fun h0 => ?_, fun h0 => ?_, by rw [hlen]; omega, fun s hs => ?_⟩, ⟨(fun h => by cases h), (by rw [hlen]; exact hl), hm⟩, by rw [hlen]; omega⟩
    · rw [hlen] at h0
      have c0 := (hc 0 (by omega)).1
      have e0 : ad.add 0 = ad := by unfold Addr.add; split <;> simp_all
      rw [e0] at c0
      have ha := cell_spot c0
      refine ⟨ad.off, by rw [← ha], fun j hj => ?_⟩
      rw [hlen] at hj
      have cj := (hc j (by omega)).1
      rw [ha, add_at] at cj
      rw [cj]
      simp
    · rw [hlen] at h0
      have c0 := (hc 0 (by omega)).1
      have e0 : ad.add 0 = ad := by unfold Addr.add; split <;> simp_all
      rw [e0] at c0
      exact World.block_lt_of_cell? W _ c0
    · obtain ⟨i, hi, rfl⟩ := List.mem_map.1 hs
      have hmem : (DataW.lit (H := H) (.string (Sx i).data.toList)) ∈ (List.range len).map fun i => DataW.lit (H := H) (.string (Sx i).data.toList) := List.mem_map.2 ⟨i, hi, rfl⟩
      have := hw (Sx i).data.toList.length (by
        refine List.mem_cons_of_mem _ (List.mem_append.2 (.inl (weightsAll_mem hmem ?_)))
        simp [DataW.weights])
      rw [show (Sx i).data.toList.length = (Sx i).size from bl_len _] at this
      omega
set_option maxRecDepth 100000 in
theorem open_page {H : Type} {enc : TypeId × Value → H} {W : World} {base : Nat} {v : Value} {d : DataW H} {ps : List MemPlace} (hok : Value.okWide Tryz.prog W .any base 45 v) (h : DataW.Trod enc Tryz.prog W 0 (fun _ => true) true 45 v d ps)
    (hw : ∀ m ∈ d.weights Tryz.prog 45, m ≤ reachBytes) : ∃ a k u r h B ao cp l, PgIn W v a k u r h B ao cp l := by
  obtain ⟨cs, rfl, hs⟩ := okWide_struct Tryz.underlying45 hok
  obtain ⟨fuel, hf⟩ := h
  rw [Tryz.cellsPage] at hs
  obtain ⟨xs, n, _, hx, _, hlen, hfs⟩ := DataW.trod_struct Tryz.underlying45 hf
  obtain ⟨c0, c1, c2, c3, c4, c5, rfl⟩ : ∃ c0 c1 c2 c3 c4 c5, cs = #[c0, c1, c2, c3, c4, c5] := by
    obtain ⟨l⟩ := cs
    match l, hs with
    | [c0, c1, c2, c3, c4, c5], _ => exact ⟨c0, c1, c2, c3, c4, c5, rfl⟩
  match xs, hlen with
  | [y0, y1, y2, y3, y4, y5], _ =>
    simp only [Prod.mk.injEq] at hx
    have g0 := hfs 0 _ rfl
    have g1 := hfs 1 _ rfl
    have g2 := hfs 2 _ rfl
    have g3 := hfs 3 _ rfl
    have g4 := hfs 4 _ rfl
    have g5 := hfs 5 _ rfl
    simp [Value.cells, Tryz.cellsInt, Tryz.cellsStr, Tryz.cellsStrs] at g0 g1 g2 g3 g4 g5
    obtain ⟨a, e0, _, w0⟩ := DataW.trod_int Tryz.underlying3 g0
    obtain ⟨k, e1, _, w1⟩ := DataW.trod_int Tryz.underlying3 g1
    obtain ⟨u, e2, _, w2⟩ := DataW.trod_int Tryz.underlying3 g2
    obtain ⟨r, e3, _, w3⟩ := DataW.trod_int Tryz.underlying3 g3
    obtain ⟨h, e4, f4, _⟩ := DataW.trod_string Tryz.underlying9 g4
    simp at e0 e1 e2 e3 e4
    rw [hx.1] at hw
    simp only [DataW.weights, Tryz.underlying45] at hw
    have hw4 : ∀ m ∈ y4.1.weights Tryz.prog 9, m ≤ reachBytes := fun m hm => hw m (DataW.weights_mem_each (j := 4) (t := 9) (d := y4.1) rfl rfl m hm)
    have hw5 : ∀ m ∈ y5.1.weights Tryz.prog 43, m ≤ reachBytes := fun m hm => hw m (DataW.weights_mem_each (j := 5) (t := 43) (d := y5.1) rfl rfl m hm)
    obtain ⟨B, ao, cp, l, e5, hS, hF, hL⟩ := strs_of_trod g5 hw5
    have hwr : reachBytes = 140737488351232 := by decide
    have hh : h.size ≤ 140737488355328 := by
      rw [f4] at hw4
      have := hw4 h.data.toList.length (by simp [DataW.weights])
      rw [show h.data.toList.length = h.size from bl_len _] at this
      omega
    have b0 := bounds_i64 w0
    have b1 := bounds_i64 w1
    have b2 := bounds_i64 w2
    have b3 := bounds_i64 w3
    exact ⟨a, k, u, r, h, B, ao, cp, l, ⟨by rw [e0, e1, e2, e3, e4, e5], by omega, by omega, by omega, by omega, hh, hS, hF, hL⟩⟩
end Go.Proofs.YtbfafijfhaejmaaGreatDoor

namespace Go.Proofs.YtbfafijfhaejmaaGreatDoor
open Go.ChangeShapes Go.WideShapes Go.ChangeAt Go.RowKit

theorem ownKnob_none : ownKnob Tryz.prog.godebug = none := by kernel_rfl
theorem gFirst : Tryz.prog.globalNamed "unicode/utf8.first" = some 1 := by kernel_rfl
theorem gRanges : Tryz.prog.globalNamed "unicode/utf8.acceptRanges" = some 2 := by kernel_rfl
def putCells (cs : Array Value) : Obj → Obj
  | .cells _ t frozen => .cells cs t frozen
  | o => o
def firstCells : Array Value := (Go.Pinned.utf8FirstZ.map fun n : Nat => Value.int .u8 (n : Int)).toArray
def rangeCells : Array Value := #[.int .u8 128, .int .u8 191, .int .u8 160, .int .u8 191, .int .u8 128, .int .u8 159, .int .u8 144, .int .u8 191, .int .u8 128, .int .u8 143, .int .u8 0, .int .u8 0, .int .u8 0, .int .u8 0, .int .u8 0, .int .u8 0, .int .u8 0, .int .u8 0, .int .u8 0, .int .u8 0, .int .u8 0, .int .u8 0, .int .u8 0, .int .u8 0, .int .u8 0, .int .u8 0, .int .u8 0, .int .u8 0, .int .u8 0, .int .u8 0, .int .u8 0, .int .u8 0]
noncomputable def settled (os : Os) : World := World.holding Tryz.prog os ⟨#[], #[], []⟩
/-- A world for the witness: the settled one, the two tables as they are laid. -/
noncomputable def laidWorld (os : Os) : World := { settled os with heap := ((settled os).heap.modify 1 (putCells firstCells)).modify 2 (putCells rangeCells) }
theorem sized_mem {H : Type} {ts : List TypeId} {ds : List (DataW H)} (h : (DataW.weightsEach Tryz.prog ts ds).all (· ≤ reachBytes) = true) {j : Nat} {t : TypeId} {d : DataW H} (ht : ts[j]? = some t) (hd : ds[j]? = some d) : ∀ n ∈ d.weights Tryz.prog t, n ≤ reachBytes := by
  intro n hn
  have := List.all_eq_true.1 h _ (DataW.weights_mem_each ht hd n hn)
  simpa using this
end Go.Proofs.YtbfafijfhaejmaaGreatDoor

namespace Go.Proofs.YtbfafijfhaejmaaGreatDoor.poolNil
open Go.ChangeShapes Go.WideShapes Go.ChangeAt Go.RowKit

theorem laid_met (os : Os) : laidMet Tryz.prog Rows.poolNilRow.laid ((laidWorld os).forCall (fun _ _ => 0) ⟨#[], #[.int .i64 0], []⟩).memory :=
  laidMet_of_run' 8 (by kernel_rfl) (by kernel_rfl)
set_option maxRecDepth 100000 in
theorem lifted (os : Os) (started : os.Started) (H : Type) (enc : TypeId × Value → H) (F : Stop.Interp) :
    ReturnsInHanded {} Tryz.checked os 6 .any ((OpenSpec.ofChange Rows.poolNilSpec).preRow enc Tryz.prog Tryz.f6 Rows.poolNilRow.domain false Rows.poolNilRow.laid) (((OpenSpec.ofChange Rows.poolNilSpec).at F).post enc Tryz.prog Tryz.f6 false true false false) := by
  refine returnsInHanded_of_row (C := Tryz.checked) (s := OpenSpec.ofChange Rows.poolNilSpec) ownKnob_none started (by kernel_rfl) Tryz.func6
    (witness_row_at (enc := enc) (C := Tryz.checked) false (laidWorld os) #[.int .i64 0] rfl (by kernel_rfl) (by kernel_rfl) (by kernel_rfl)
      (OpenSpec.preRow_of_cond (x := ([.lit (.int .i64 0)], [], [])) 8 (by kernel_rfl) (by kernel_rfl) (fun k hk => by cases hk) (by kernel_rfl) (laid_met os))) ?_
  intro W base args ds gs before hval0 hW _ _ hsz _ _ _
  have hval : ∀ (j : Nat) t v, Tryz.f6.params[j]? = some t → args[j]? = some v → Value.okWide Tryz.prog W .any base t v := hval0
  have hW' := hW
  obtain ⟨p, q, hA0, hV, rfl, hfz, hnd⟩ := hW
  have hA : DataW.TrodAll enc Tryz.prog W 0 (fun _ => true) true Tryz.f6.params.toList args.toList ds p := hA0
  rw [Tryz.params6] at hA hval hsz
  obtain ⟨v0, vs0, d0, ds0, p0, q0, hargs, rfl, rfl, h0, r0⟩ := trodAll_cons hA
  obtain ⟨rfl, rfl, rfl⟩ := trodAll_nil r0
  obtain rfl : args = #[v0] := by cases args; simp_all
  obtain ⟨rfl, rfl⟩ := trodVars_none hV
  obtain ⟨a0, rfl, rfl, rfl, w0⟩ := open_int Tryz.underlying3 (hval 0 3 v0 rfl rfl) h0
  clear hA0 hval0
  simp only [List.append_nil] at hW'
  refine (qnil_law W a0).mono fun e W' ⟨he, ho⟩ => ?_
  subst he
  have bel : Below W.heap.size W W' := ho.below (Nat.le_refl _) (fun _ _ h => h)
  exact ⟨_, rfl, _, _, _, [], _, [], hW', trodAll_mk1 (shut_bool Tryz.underlying4 _), (trodAll_cons_mk (shut_int Tryz.underlying3 w0) trodAll_mk0), rfl, bel.frame _, fun h => by cases h⟩

theorem said : Rows.PoolNilSaid :=
  OpenClaim.holds_of_cond 6 Tryz.f6 rfl rfl rfl rfl rfl rfl rfl ⟨rfl, rfl, rfl, rfl, rfl⟩ rfl rfl rfl rfl rfl (by kernel_rfl) Tryz.func6 (by kernel_rfl)
    (of_decide_eq_true (by kernel_rfl)) (by unfold Func.isWrapper; first | (rw [if_pos (by decide +kernel)]; kernel_rfl) | (rw [if_neg (by decide +kernel)]; exact ⟨rfl, rfl⟩))
    (fun os started H enc _ F => by rw [OpenClaim.pre_eq_preRow]; exact lifted os started H enc F)
theorem plain (f : FuncId) (fn : Func) (hf : Tryz.pinned.checked.prog.funcNamed "almonry/almonrylaw06.PoolNil" = some f) (hfn : Tryz.pinned.checked.prog.funcs[f]? = some fn) :
    false = Tryz.pinned.checked.prog.looks [] ∧ ∀ (j : Nat) t, fn.params[j]? = some t → Tryz.pinned.checked.prog.wantsStandIn t = false := by
  obtain rfl : f = 6 := Option.some.inj ((show Tryz.prog.funcNamed "almonry/almonrylaw06.PoolNil" = some 6 by kernel_rfl).symm.trans hf) |>.symm
  obtain rfl : fn = Tryz.f6 := (Option.some.inj (Tryz.func6.symm.trans hfn)).symm
  refine ⟨by kernel_rfl, fun j t ht => ?_⟩
  rw [Tryz.params6] at ht
  obtain rfl : t = 3 := by simpa using Array.mem_of_getElem? ht
  exact (show Tryz.prog.wantsStandIn 3 = false by kernel_rfl)
theorem card : Rows.PoolNilCardSaid :=
  Claim7.holds_tied_plain_at .later [] _ _ _ _ said (fun _ h => by cases h) (by kernel_rfl) (fun _ h => by cases h) poolNil_row_tie rfl ⟨rfl, rfl⟩ (by kernel_rfl) rfl plain (by kernel_rfl)
end Go.Proofs.YtbfafijfhaejmaaGreatDoor.poolNil
namespace Go.Proofs.YtbfafijfhaejmaaGreatDoor
theorem poolNil_holds : Rows.PoolNilCardSaid := poolNil.card
#print axioms poolNil_holds
end Go.Proofs.YtbfafijfhaejmaaGreatDoor
