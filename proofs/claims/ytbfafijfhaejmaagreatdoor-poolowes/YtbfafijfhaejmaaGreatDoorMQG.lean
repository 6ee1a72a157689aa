/- The walk of the law's own example. -/
import Derived.Test.YtbfafijfhaejmaaGreatDoorMQE
import Derived.Test.YtbfafijfhaejmaaGreatDoorPEnc
import Derived.Test.YtbfafijfhaejmaaGreatDoorPDecX
namespace Go.Proofs.YtbfafijfhaejmaaGreatDoor
open Go.RowKit

/-- Where a page is written: the records up to it last first, or do already. -/
theorem write_yes (P : Pl) (G : Lg) (i : Nat) (F : Fm) (N : Nat) (D : Dk) (f : Nat → List UInt8) (h : D.Wk N f) (hv : F.pg.out.2 = 0) (hN : P.frm + 8 * F.num.toNat + 8 ≤ N) (hn : 0 < G.n) (hG : G.frm + G.n ≤ P.frm) (hf : (G.flushed : Int) ≤ F.pg.lsn) :
    (P.write D G i F).c = 0 ∧ (P.write D G i F).P = P.synced.setF i { F with chg := false } ∧ (P.write D G i F).G = { G with flushed := G.tail } ∧ ∃ f', (P.write D G i F).D.Wk N f' ∧ ∀ j, P.frm ≤ j → f' j = if P.frm + 8 * F.num.toNat ≤ j ∧ j < P.frm + 8 * F.num.toNat + 8 then (F.pg.enc.drop (64 * (j - (P.frm + 8 * F.num.toNat)))).take 64 else f j := by
  unfold Pl.write
  rw [if_pos hf]
  obtain ⟨a1, a2, f1, a3, a4⟩ := fl_out G hn N (by omega) D f h
  rw [if_pos a1]
  obtain ⟨b1, b2, b3, b4⟩ := wr_out P.synced { G with flushed := (G.fl D).2.2 } i F N (G.fl D).1 f1 a3 hv hN
  refine ⟨b1, b2, by rw [b3, a2], _, b4, fun j hj => ?_⟩
  show (if P.frm + 8 * F.num.toNat ≤ j ∧ j < P.frm + 8 * F.num.toNat + 8 then _ else f1 j) = _
  rw [a4 j (.inr (by omega))]
  rfl
theorem write_no (P : Pl) (G : Lg) (i : Nat) (F : Fm) (N : Nat) (D : Dk) (f : Nat → List UInt8) (h : D.Wk N f) (hv : F.pg.out.2 = 0) (hN : P.frm + 8 * F.num.toNat + 8 ≤ N) (hf : ¬ (G.flushed : Int) ≤ F.pg.lsn) :
    (P.write D G i F).c = 0 ∧ (P.write D G i F).P = P.setF i { F with chg := false } ∧ (P.write D G i F).G = G ∧ ∃ f', (P.write D G i F).D.Wk N f' ∧ ∀ j, P.frm ≤ j → f' j = if P.frm + 8 * F.num.toNat ≤ j ∧ j < P.frm + 8 * F.num.toNat + 8 then (F.pg.enc.drop (64 * (j - (P.frm + 8 * F.num.toNat)))).take 64 else f j := by
  unfold Pl.write
  rw [if_neg hf]
  obtain ⟨b1, b2, b3, b4⟩ := wr_out P G i F N D f h hv hN
  exact ⟨b1, b2, b3, _, b4, fun j _ => rfl⟩
def bX : Pg := ⟨1, 2, 0, 0, ⟨#[]⟩, [⟨#[120]⟩]⟩
def bY : Pg := ⟨1, 2, 0, 0, ⟨#[]⟩, []⟩
theorem bX_valid : bX.valid := ⟨⟨by decide, by decide, by decide, by decide, by decide, by decide, by decide⟩, ⟨by decide, by decide, by decide⟩, by decide⟩
theorem bY_valid : bY.valid := ⟨⟨by decide, by decide, by decide, by decide, by decide, by decide, by decide⟩, ⟨by decide, by decide, by decide⟩, by decide⟩
theorem bX_out : bX.out.2 = 0 := by rw [out_ok bX_valid.rng bX_valid.fit]
theorem bY_out : bY.out.2 = 0 := by rw [out_ok bY_valid.rng bY_valid.fit]
theorem bX_set : bX.setC = 0 := by
  unfold Pg.setC
  rw [bX_out]
  decide
theorem bY_set : bY.setC = 0 := by
  unfold Pg.setC
  rw [bY_out]
  decide
/-- The pool behind the first page, the second one, and the reading. -/
def aP1 : Pl := ⟨10, 4, [⟨bX, 2, true⟩], fun j => if j = 2 then some 1 else none⟩
theorem ax_one (D : Dk) (G : Lg) : (Pl.new 10 4 1).set D G 2 bX 0 = ⟨0, aP1, D, G⟩ := by
  unfold Pl.set
  rw [if_neg (by decide), if_neg (by rw [bX_set]; decide)]
  have h1 : (Pl.new 10 4 1).idx 2 = none := by decide
  have h2 : (Pl.new 10 4 1).idx (-1) = some 0 := by decide
  have h3 : (Pl.new 10 4 1).take D G 0 = (⟨0, Pl.new 10 4 1, D, G⟩, some 0) := by
    unfold Pl.take
    rw [h2]
  rw [h1, h3]
  dsimp only
  unfold Pl.setAt
  rw [if_neg (by decide)]
  rfl
theorem ax_two {D : Dk} {G : Lg} (hD : D.Wk 60 (fun _ => zs64)) (hg1 : G.flushed = 1) (hn : G.n = 10) (hf : G.frm = 0) :
    (aP1.set D G 3 bY 0).c = 0 ∧ (aP1.set D G 3 bY 0).P.fs = [⟨bY, 3, true⟩] ∧ ((aP1.set D G 3 bY 0).P.ow 2).isSome = true ∧ (aP1.set D G 3 bY 0).P.frm = 10 ∧ (aP1.set D G 3 bY 0).P.pages = 4 ∧ (aP1.set D G 3 bY 0).G = { G with flushed := G.tail } ∧ ∃ f, (aP1.set D G 3 bY 0).D.Wk 60 f ∧ ∀ i, i < 8 → f (26 + i) = (bX.enc.drop (64 * i)).take 64 := by
  obtain ⟨w1, w2, w3, f, w4, w5⟩ := write_yes aP1 G 0 ⟨bX, 2, true⟩ 60 D _ hD bX_out (by show 10 + 8 * 2 + 8 ≤ 60; omega) (by omega) (by rw [hf, hn]; show 0 + 10 ≤ 10; omega) (by rw [hg1]; decide)
  have h1 : aP1.idx 3 = none := by decide
  have h2 : aP1.idx (-1) = none := by decide
  have hg : aP1.get 0 = ⟨bX, 2, true⟩ := rfl
  have h3 : aP1.take D G 0 = (⟨0, (aP1.write D G 0 ⟨bX, 2, true⟩).P.setF 0 Fm.none, (aP1.write D G 0 ⟨bX, 2, true⟩).D, (aP1.write D G 0 ⟨bX, 2, true⟩).G⟩, some 0) := by
    unfold Pl.take
    rw [h2]
    show aP1.takeAt D G 0 = _
    unfold Pl.takeAt
    rw [hg, if_pos rfl, if_pos w1]
  have h4 : aP1.set D G 3 bY 0 = ⟨0, ((aP1.write D G 0 ⟨bX, 2, true⟩).P.setF 0 Fm.none).setAt 0 3 bY, (aP1.write D G 0 ⟨bX, 2, true⟩).D, (aP1.write D G 0 ⟨bX, 2, true⟩).G⟩ := by
    unfold Pl.set
    rw [if_neg (by decide), if_neg (by rw [bY_set]; decide), h1, h3]
    rfl
  have hs2 : aP1.synced.ow 2 = some 1 := by
    unfold Pl.synced
    have : ∃ f ∈ aP1.fs, f.chg = true ∧ f.num = ((2 : Nat) : Int) := ⟨⟨bX, 2, true⟩, by simp [aP1], rfl, rfl⟩
    simp only [this, if_true]
    rfl
  have hs3 : aP1.synced.ow 3 = none := by
    unfold Pl.synced
    have : ¬ ∃ f ∈ aP1.fs, f.chg = true ∧ f.num = ((3 : Nat) : Int) := by
      rintro ⟨f, hf, _, hn⟩
      simp [aP1] at hf
      subst hf
      cases hn
    simp only [this, if_false]
  rw [h4]
  dsimp only
  rw [w2]
  have hset : ((aP1.synced.setF 0 { (⟨bX, 2, true⟩ : Fm) with chg := false }).setF 0 Fm.none).setAt 0 3 bY = { ((aP1.synced.setF 0 { (⟨bX, 2, true⟩ : Fm) with chg := false }).setF 0 Fm.none).setF 0 ⟨bY, 3, true⟩ with ow := fun j => if j = 3 then some bY.lsn else aP1.synced.ow j } := by
    unfold Pl.setAt
    rw [if_neg (by show ¬ (aP1.synced.ow 3).isSome = true; rw [hs3]; decide)]
    rfl
  rw [hset]
  refine ⟨rfl, rfl, ?_, rfl, rfl, w3, f, w4, fun i hi => ?_⟩
  · show (if (2 : Nat) = 3 then some bY.lsn else aP1.synced.ow 2).isSome = true
    rw [if_neg (by decide), hs2]
    rfl
  · have := w5 (26 + i) (by show 10 ≤ _; omega)
    rw [this, if_pos (by show 10 + 8 * 2 ≤ 26 + i ∧ 26 + i < 10 + 8 * 2 + 8; omega)]
    show (bX.enc.drop (64 * (26 + i - (10 + 8 * 2)))).take 64 = _
    rw [show 26 + i - (10 + 8 * 2) = i by omega]
theorem ax_three {P : Pl} {D : Dk} {G : Lg} {f : Nat → List UInt8} (hfs : P.fs = [⟨bY, 3, true⟩]) (hfr : P.frm = 10) (hpg : P.pages = 4) (hD : D.Wk 60 f) (hf : ∀ i, i < 8 → f (26 + i) = (bX.enc.drop (64 * i)).take 64) (hg : 1 < G.flushed) :
    (P.fetch D G 2 0).2 = bX ∧ (P.fetch D G 2 0).1.c = 0 ∧ (P.fetch D G 2 0).1.P.ow = P.ow ∧ (P.fetch D G 2 0).1.P.pages = 4 ∧ (P.fetch D G 2 0).1.G = G := by
  have hp : D.page 26 = (bX, 0) := page_back hD 26 (by omega) bX bX_valid hf
  obtain ⟨w1, w2, w3, _⟩ := write_no P G 0 ⟨bY, 3, true⟩ 60 D f hD bY_out (by rw [hfr]; show 10 + 8 * 3 + 8 ≤ 60; omega) (by show ¬ (G.flushed : Int) ≤ 1; omega)
  have h1 : P.idx 2 = none := by unfold Pl.idx; rw [hfs]; decide
  have h2 : P.idx (-1) = none := by unfold Pl.idx; rw [hfs]; decide
  have hgt : P.get 0 = ⟨bY, 3, true⟩ := by unfold Pl.get; rw [hfs]; rfl
  have hlen : P.fs.length = 1 := by rw [hfs]; rfl
  have h3 : P.take D G 0 = (⟨0, (P.write D G 0 ⟨bY, 3, true⟩).P.setF 0 Fm.none, (P.write D G 0 ⟨bY, 3, true⟩).D, (P.write D G 0 ⟨bY, 3, true⟩).G⟩, some 0) := by
    unfold Pl.take
    rw [h2, hlen]
    show P.takeAt D G 0 = _
    unfold Pl.takeAt
    rw [hgt, if_pos rfl, if_pos w1]
  have hpa : P.frm + 8 * (2 : Int).toNat = 26 := by rw [hfr]; rfl
  have h4 : P.fetch D G 2 0 = (⟨0, ((P.write D G 0 ⟨bY, 3, true⟩).P.setF 0 Fm.none).setF 0 ⟨bX, 2, false⟩, (P.write D G 0 ⟨bY, 3, true⟩).D, (P.write D G 0 ⟨bY, 3, true⟩).G⟩, bX) := by
    unfold Pl.fetch
    rw [if_neg (by unfold Pl.hasC; rw [hpg]; decide), h1, hpa, hp, h3]
    rfl
  rw [h4]
  dsimp only
  rw [w2, w3]
  exact ⟨rfl, rfl, rfl, hpg, rfl⟩
/-- The record that only takes a place, as the log's first. -/
theorem nt1_lay : (nt.at_ 1).lay = [1, 0, 0, 2, 1, 0, 0, 0, 0, 0, 0, 0, 0, 0, 0, 0] := by decide +kernel
theorem nt1_valid : (nt.at_ 1).valid :=
  ⟨by decide, by decide, ⟨by decide, by decide, (fun n h => by cases h), (fun n h => by cases h), (fun n h => by cases h), (fun n h => by cases h), (fun n h => by cases h)⟩, ⟨by decide, by decide, by decide, by decide, by decide, by decide⟩, rfl, by rw [nt1_lay]; decide⟩
theorem nt1_len : (nt.at_ 1).enc.length = 24 := by rw [renc_len, nt1_lay]; rfl
end Go.Proofs.YtbfafijfhaejmaaGreatDoor

namespace Go.Proofs.YtbfafijfhaejmaaGreatDoor
open Go.RowKit

set_option maxRecDepth 100000 in
theorem aw_z0 : (List.replicate 127 (0 : UInt8)).foldl (fun c (b : UInt8) => sby 8 (bits BinOp.xor IntKind.u32 c ((b.toNat : Int) % 4294967296))) 4294967295 = 2408625509 := by decide +kernel
set_option maxRecDepth 100000 in
theorem aw_z1 : (List.replicate 127 (0 : UInt8)).foldl (fun c (b : UInt8) => sby 8 (bits BinOp.xor IntKind.u32 c ((b.toNat : Int) % 4294967296))) 2408625509 = 2704700111 := by decide +kernel
set_option maxRecDepth 100000 in
theorem aw_z2 : (List.replicate 127 (0 : UInt8)).foldl (fun c (b : UInt8) => sby 8 (bits BinOp.xor IntKind.u32 c ((b.toNat : Int) % 4294967296))) 2704700111 = 177498411 := by decide +kernel
set_option maxRecDepth 100000 in
theorem aw_z3 : (List.replicate 127 (0 : UInt8)).foldl (fun c (b : UInt8) => sby 8 (bits BinOp.xor IntKind.u32 c ((b.toNat : Int) % 4294967296))) 177498411 = 4031025835 := by decide +kernel
theorem aw_to : sumTo (List.replicate 508 0) = 4031025835 := by
  rw [show (508 : Nat) = 127 + 127 + 127 + 127 from rfl, ← List.replicate_append_replicate, ← List.replicate_append_replicate, ← List.replicate_append_replicate]
  unfold sumTo
  rw [List.foldl_append, List.foldl_append, List.foldl_append, aw_z0, aw_z1, aw_z2, aw_z3]
theorem aw_zero : sum (List.replicate 508 0) ≠ 0 := by
  unfold sum
  rw [aw_to]
  decide +kernel
def awp : Pg := ⟨5, 2, 0, 0, ⟨#[]⟩, [⟨#[97, 98]⟩]⟩
theorem aw_size : awp.size = 24 := rfl
theorem aw_valid : awp.valid := ⟨⟨by decide, by decide, by decide, by decide, by decide, by decide, by decide⟩, ⟨by decide, by decide, by decide⟩, by decide⟩
theorem aw_out : awp.out = (awp.enc, 0) := out_ok aw_valid.rng aw_valid.fit
theorem aw_ext : (str awp.enc).extract 11 13 = ⟨#[5, 2]⟩ := by
  have e : bl ((str awp.enc).extract 11 13) = [5, 2] := by
    rw [ext_bl, bl_str]
    unfold Pg.enc
    have h1 : (bigF 4 (sum awp.body).toNat).length = 4 := bigF_len _ _
    rw [List.take_append, List.take_of_length_le (by omega), List.drop_append, List.drop_of_length_le (by omega), h1]
    decide
  rw [← str_bl ((str awp.enc).extract 11 13), e]
  rfl
theorem aw_dec : dec awp.enc = (awp, 0) := dec_enc _ aw_valid
theorem aw_none : dec (List.replicate 512 0) = (.none, 30) := by
  refine dec_sum List.length_replicate ?_
  rw [show (List.replicate 512 (0 : UInt8)).take 4 = [0, 0, 0, 0] from rfl, show (List.replicate 512 (0 : UInt8)).drop 4 = List.replicate 508 0 from rfl, show ofTo [0, 0, 0, 0] = 0 from rfl]
  exact fun e => aw_zero e.symm
end Go.Proofs.YtbfafijfhaejmaaGreatDoor

namespace Go.Proofs.YtbfafijfhaejmaaGreatDoor
open Go.RowKit

/-- A page's sectors, or those of none. -/
def lies (o : Option Pg) (i : Nat) : List UInt8 := match o with
  | some p => (p.enc.drop (64 * i)).take 64
  | none => zs64
/-- C: the pages as they were set; K: as they lie on the disk. -/
structure Inv (N : Nat) (P : Pl) (D : Dk) (G : Lg) (C K : Nat → Option Pg) : Prop where
  sz : P.frm + 8 * P.pages ≤ N
  gn : 0 < G.n
  gf : G.frm + G.n ≤ P.frm
  gl : G.flushed ≤ G.tail
  ln : 1 ≤ P.fs.length
  fr : ∀ i, i < P.fs.length → (P.get i).num = -1 ∧ (P.get i).chg = false ∨ 0 ≤ (P.get i).num ∧ (P.get i).num < (P.pages : Int) ∧ C (P.get i).num.toNat = some (P.get i).pg
  ne : ∀ i j, i < P.fs.length → j < P.fs.length → (P.get i).num = (P.get j).num → (P.get i).num ≠ -1 → i = j
  va : ∀ k p, C k = some p → p.valid ∧ k < P.pages ∧ p.lsn < (G.tail : Int)
  kc : ∀ k : Nat, (∀ i, i < P.fs.length → (P.get i).num = (k : Int) → (P.get i).chg = false) → K k = C k
  kv : ∀ k p, K k = some p → p.valid ∧ k < P.pages ∧ p.lsn < (G.flushed : Int)
  dk : ∃ f, D.Wk N f ∧ ∀ k, k < P.pages → ∀ i, i < 8 → f (P.frm + 8 * k + i) = lies (K k) i
theorem get_set {P P' : Pl} {i : Nat} {F : Fm} (hi : i < P.fs.length) (h : P'.fs = P.fs.set i F) (j : Nat) : P'.get j = if j = i then F else P.get j := by
  unfold Pl.get
  rw [h, List.getD_eq_getElem?_getD, List.getD_eq_getElem?_getD, List.getElem?_set]
  by_cases e : i = j
  · subst e
    simp [hi]
  · rw [if_neg e, if_neg (fun h => e h.symm)]
theorem len_set {P P' : Pl} {i : Nat} {F : Fm} (h : P'.fs = P.fs.set i F) : P'.fs.length = P.fs.length := by rw [h, List.length_set]
theorem idx_some {P : Pl} {n : Int} {i : Nat} (h : P.idx n = some i) : i < P.fs.length ∧ (P.get i).num = n := by
  unfold Pl.idx at h
  rw [List.findIdx?_eq_some_iff_getElem] at h
  obtain ⟨hi, h1, _⟩ := h
  refine ⟨hi, ?_⟩
  rw [← get_at hi]
  simpa using h1
theorem idx_none {P : Pl} {n : Int} (h : P.idx n = none) (j : Nat) (hj : j < P.fs.length) : (P.get j).num ≠ n := by
  unfold Pl.idx at h
  rw [List.findIdx?_eq_none_iff] at h
  have := h (P.fs[j]) (List.getElem_mem hj)
  rw [get_at hj] at this
  simpa using this
/-- A frame's page was laid in its sectors. -/
theorem inv_laid {N : Nat} {P P' : Pl} {D D' : Dk} {G G' : Lg} {C K : Nat → Option Pg} (h : Inv N P D G C K) (i : Nat) (hi : i < P.fs.length) (hc : (P.get i).chg = true) (hfs : P'.fs = P.fs.set i { P.get i with chg := false }) (hfm : P'.frm = P.frm) (hpg : P'.pages = P.pages)
    (g1 : G'.n = G.n) (g2 : G'.frm = G.frm) (g3 : G'.tail = G.tail) (g4 : G.flushed ≤ G'.flushed) (g5 : G'.flushed ≤ G.tail) (g6 : (P.get i).pg.lsn < (G'.flushed : Int))
    (hD : ∀ f, D.Wk N f → ∃ f', D'.Wk N f' ∧ ∀ j, P.frm ≤ j → f' j = if P.frm + 8 * (P.get i).num.toNat ≤ j ∧ j < P.frm + 8 * (P.get i).num.toNat + 8 then ((P.get i).pg.enc.drop (64 * (j - (P.frm + 8 * (P.get i).num.toNat)))).take 64 else f j) :
    Inv N P' D' G' C (fun k => if k = (P.get i).num.toNat then some (P.get i).pg else K k) := by
  have hl := len_set hfs
  have hg := get_set hi hfs
  obtain ⟨n0, n1, n2⟩ : 0 ≤ (P.get i).num ∧ (P.get i).num < (P.pages : Int) ∧ C (P.get i).num.toNat = some (P.get i).pg := by
    rcases h.fr i hi with e | e
    · rw [hc] at e; cases e.2
    · exact e
  have hnum : ∀ j, (P'.get j).num = (P.get j).num := fun j => by
    rw [hg j]
    split
    · rename_i e; rw [e]
    · rfl
  have hpage : ∀ j, (P'.get j).pg = (P.get j).pg := fun j => by
    rw [hg j]
    split
    · rename_i e; rw [e]
    · rfl
  obtain ⟨f, f1, f2⟩ := h.dk
  obtain ⟨f', f3, f4⟩ := hD f f1
  refine ⟨by rw [hfm, hpg]; exact h.sz, by rw [g1]; exact h.gn, by rw [g1, g2, hfm]; exact h.gf, by rw [g3]; exact g5, by rw [hl]; exact h.ln, fun j hj => ?_, fun a b ha hb => ?_, fun k p hk => ?_, fun k hk => ?_, fun k p hk => ?_, f', f3, fun k hk j hj => ?_⟩
  · rw [hl] at hj
    rw [hnum, hpage, hpg]
    rcases h.fr j hj with e | e
    · refine .inl ⟨e.1, ?_⟩
      rw [hg j]
      split
      · rfl
      · exact e.2
    · exact .inr e
  · rw [hl] at ha hb
    rw [hnum, hnum]
    exact h.ne a b ha hb
  · have := h.va k p hk
    rw [hpg, g3]
    exact this
  · split
    · rename_i e
      rw [e]
      exact n2.symm
    · rename_i e
      refine h.kc k (fun j hj hj2 => ?_)
      have := hk j (by rw [hl]; exact hj) (by rw [hnum]; exact hj2)
      rw [hg j, if_neg (fun e2 => e (by rw [← e2, hj2]; rfl))] at this
      exact this
  · rw [hpg]
    split at hk
    · injection hk with hk
      subst hk
      exact ⟨(h.va _ _ n2).1, by omega, g6⟩
    · have := h.kv k p hk
      exact ⟨this.1, this.2.1, by omega⟩
  · rw [hpg] at hk
    rw [hfm, f4 _ (by omega)]
    by_cases e : k = (P.get i).num.toNat
    · rw [if_pos (by omega), if_pos e]
      show _ = ((P.get i).pg.enc.drop (64 * j)).take 64
      rw [show P.frm + 8 * k + j - (P.frm + 8 * (P.get i).num.toNat) = j by omega]
    · rw [if_neg (by omega), if_neg e]
      exact f2 k hk j hj
/-- A changed frame is written. -/
theorem inv_write {N : Nat} {P : Pl} {D : Dk} {G : Lg} {C K : Nat → Option Pg} (h : Inv N P D G C K) (i : Nat) (hi : i < P.fs.length) (hc : (P.get i).chg = true) :
    (P.write D G i (P.get i)).c = 0 ∧ (P.write D G i (P.get i)).P.fs = P.fs.set i { P.get i with chg := false } ∧ (P.write D G i (P.get i)).P.frm = P.frm ∧ (P.write D G i (P.get i)).P.pages = P.pages ∧ ∃ K', Inv N (P.write D G i (P.get i)).P (P.write D G i (P.get i)).D (P.write D G i (P.get i)).G C K' := by
  obtain ⟨n0, n1, n2⟩ : 0 ≤ (P.get i).num ∧ (P.get i).num < (P.pages : Int) ∧ C (P.get i).num.toNat = some (P.get i).pg := by
    rcases h.fr i hi with e | e
    · rw [hc] at e; cases e.2
    · exact e
  obtain ⟨v1, v2, v3⟩ := h.va _ _ n2
  have ho : (P.get i).pg.out.2 = 0 := by rw [out_ok v1.rng v1.fit]
  have hsz := h.sz
  have hN : P.frm + 8 * (P.get i).num.toNat + 8 ≤ N := by omega
  obtain ⟨f, f1, f2⟩ := h.dk
  by_cases hf : (G.flushed : Int) ≤ (P.get i).pg.lsn
  · obtain ⟨a1, a2, a3, _⟩ := write_yes P G i (P.get i) N D f f1 ho hN h.gn h.gf hf
    refine ⟨a1, by rw [a2]; rfl, by rw [a2]; rfl, by rw [a2]; rfl, fun k => if k = (P.get i).num.toNat then some (P.get i).pg else K k, ?_⟩
    refine inv_laid h i hi hc (by rw [a2]; rfl) (by rw [a2]; rfl) (by rw [a2]; rfl) (by rw [a3]) (by rw [a3]) (by rw [a3]) (by rw [a3]; exact h.gl) (by rw [a3]; exact Nat.le_refl _) (by rw [a3]; exact v3) (fun f hf' => ?_)
    obtain ⟨_, _, _, b⟩ := write_yes P G i (P.get i) N D f hf' ho hN h.gn h.gf hf
    exact b
  · obtain ⟨a1, a2, a3, _⟩ := write_no P G i (P.get i) N D f f1 ho hN hf
    refine ⟨a1, by rw [a2]; rfl, by rw [a2]; rfl, by rw [a2]; rfl, fun k => if k = (P.get i).num.toNat then some (P.get i).pg else K k, ?_⟩
    refine inv_laid h i hi hc (by rw [a2]; rfl) (by rw [a2]; rfl) (by rw [a2]; rfl) (by rw [a3]) (by rw [a3]) (by rw [a3]) (by rw [a3]; exact Nat.le_refl _) (by rw [a3]; exact h.gl) (by rw [a3]; omega) (fun f hf' => ?_)
    obtain ⟨_, _, _, b⟩ := write_no P G i (P.get i) N D f hf' ho hN hf
    exact b
/-- An unchanged frame takes on what lies in the sectors, or nothing. -/
theorem inv_bring {N : Nat} {P P' : Pl} {D : Dk} {G : Lg} {C K : Nat → Option Pg} (h : Inv N P D G C K) (i : Nat) (hi : i < P.fs.length) (hc : (P.get i).chg = false) (F : Fm) (hF : F.chg = false) (hfs : P'.fs = P.fs.set i F) (hfm : P'.frm = P.frm) (hpg : P'.pages = P.pages)
    (hn : F.num = -1 ∨ 0 ≤ F.num ∧ F.num < (P.pages : Int) ∧ C F.num.toNat = some F.pg ∧ ∀ j, j < P.fs.length → (P.get j).num ≠ F.num) : Inv N P' D G C K := by
  have hl := len_set hfs
  have hg := get_set hi hfs
  refine ⟨by rw [hfm, hpg]; exact h.sz, h.gn, by rw [hfm]; exact h.gf, h.gl, by rw [hl]; exact h.ln, fun j hj => ?_, fun a b ha hb hab hna => ?_, fun k p hk => by rw [hpg]; exact h.va k p hk, fun k hk => ?_, fun k p hk => by rw [hpg]; exact h.kv k p hk, ?_⟩
  · rw [hl] at hj
    rw [hg j, hpg]
    split
    · rcases hn with e | e
      · exact .inl ⟨e, hF⟩
      · exact .inr ⟨e.1, e.2.1, e.2.2.1⟩
    · exact h.fr j hj
  · rw [hl] at ha hb
    rw [hg a] at hab hna
    rw [hg b] at hab
    by_cases ea : a = i <;> by_cases eb : b = i
    · rw [ea, eb]
    · rw [if_pos ea] at hab hna
      rw [if_neg eb] at hab
      rcases hn with e | e
      · exact absurd e hna
      · exact absurd hab.symm (e.2.2.2 b hb)
    · rw [if_neg ea] at hab hna
      rw [if_pos eb] at hab
      rcases hn with e | e
      · exact absurd (hab.trans e) hna
      · exact absurd hab (e.2.2.2 a ha)
    · rw [if_neg ea] at hab hna
      rw [if_neg eb] at hab
      exact h.ne a b ha hb hab hna
  · refine h.kc k (fun j hj hj2 => ?_)
    by_cases e : j = i
    · rw [e]; exact hc
    · have := hk j (by rw [hl]; exact hj) (by rw [hg j, if_neg e]; exact hj2)
      rw [hg j, if_neg e] at this
      exact this
  · rw [hfm, hpg]
    exact h.dk
/-- A frame takes on a page that is set. -/
theorem inv_lay {N : Nat} {P P' : Pl} {D : Dk} {G : Lg} {C K : Nat → Option Pg} (h : Inv N P D G C K) (i : Nat) (hi : i < P.fs.length) (n : Nat) (hn : n < P.pages) (hnum : (P.get i).num = -1 ∨ (P.get i).num = (n : Int)) (hno : ∀ j, j < P.fs.length → j ≠ i → (P.get j).num ≠ (n : Int)) (body : Pg) (hv : body.valid) (hl' : body.lsn < (G.tail : Int)) (hfs : P'.fs = P.fs.set i ⟨body, (n : Int), true⟩) (hfm : P'.frm = P.frm) (hpg : P'.pages = P.pages) :
    Inv N P' D G (fun k => if k = n then some body else C k) K := by
  have hl := len_set hfs
  have hg := get_set hi hfs
  refine ⟨by rw [hfm, hpg]; exact h.sz, h.gn, by rw [hfm]; exact h.gf, h.gl, by rw [hl]; exact h.ln, fun j hj => ?_, fun a b ha hb hab hna => ?_, fun k p hk => ?_, fun k hk => ?_, fun k p hk => by rw [hpg]; exact h.kv k p hk, ?_⟩
  · rw [hl] at hj
    rw [hg j, hpg]
    split
    · exact .inr ⟨by show (0 : Int) ≤ (n : Int); omega, by show (n : Int) < _; omega, by show (if (n : Int).toNat = n then some body else _) = _; rw [if_pos (by simp)]⟩
    · rename_i e
      rcases h.fr j hj with e1 | e1
      · exact .inl e1
      · have := hno j hj e
        exact .inr ⟨e1.1, e1.2.1, by rw [if_neg (by omega)]; exact e1.2.2⟩
  · rw [hl] at ha hb
    rw [hg a] at hab hna
    rw [hg b] at hab
    by_cases ea : a = i <;> by_cases eb : b = i
    · rw [ea, eb]
    · rw [if_pos ea] at hab
      rw [if_neg eb] at hab
      exact absurd hab.symm (hno b hb eb)
    · rw [if_neg ea] at hab
      rw [if_pos eb] at hab
      exact absurd hab (hno a ha ea)
    · rw [if_neg ea] at hab hna
      rw [if_neg eb] at hab
      exact h.ne a b ha hb hab hna
  · rw [hpg]
    split at hk
    · rename_i e
      injection hk with hk
      subst hk
      exact ⟨hv, by omega, hl'⟩
    · exact h.va k p hk
  · by_cases e : k = n
    · have := hk i (by rw [hl]; exact hi) (by rw [hg i, if_pos rfl, e])
      rw [hg i, if_pos rfl] at this
      cases this
    · rw [if_neg e]
      refine h.kc k (fun j hj hj2 => ?_)
      have ej : j ≠ i := by
        intro ej
        rw [ej] at hj2
        rcases hnum with e1 | e1 <;> omega
      have := hk j (by rw [hl]; exact hj) (by rw [hg j, if_neg ej]; exact hj2)
      rw [hg j, if_neg ej] at this
      exact this
  · rw [hfm, hpg]
    exact h.dk
end Go.Proofs.YtbfafijfhaejmaaGreatDoor

namespace Go.Proofs.YtbfafijfhaejmaaGreatDoor
open Go.RowKit

theorem alike_tail {G G' : Lg} (h : G.Alike G') : G'.tail = G.tail ∧ G'.n = G.n ∧ G'.frm = G.frm ∧ G'.start = G.start ∧ G'.reserved = G.reserved ∧ G'.places = G.places ∧ G'.stream = G.stream := by
  obtain ⟨x, rfl⟩ := h
  exact ⟨rfl, rfl, rfl, rfl, rfl, rfl, rfl⟩
/-- What stays through a call. -/
structure Held (P P' : Pl) : Prop where
  frm : P'.frm = P.frm
  pages : P'.pages = P.pages
  len : P'.fs.length = P.fs.length
theorem inv_take {N : Nat} {P : Pl} {D : Dk} {G : Lg} {C K : Nat → Option Pg} (h : Inv N P D G C K) (pick : Int) :
    ∃ i K', (P.take D G pick).2 = some i ∧ i < P.fs.length ∧ Held P (P.take D G pick).1.P ∧ ((P.take D G pick).1.P.get i).num = -1 ∧ ((P.take D G pick).1.P.get i).chg = false ∧ Inv N (P.take D G pick).1.P (P.take D G pick).1.D (P.take D G pick).1.G C K' ∧ ∀ n : Int, n ≠ -1 → (∀ j, j < P.fs.length → (P.get j).num ≠ n) → ∀ j, j < P.fs.length → ((P.take D G pick).1.P.get j).num ≠ n := by
  unfold Pl.take
  split
  · rename_i i hi
    obtain ⟨h1, h2⟩ := idx_some hi
    refine ⟨i, K, rfl, h1, ⟨rfl, rfl, rfl⟩, h2, ?_, h, fun n _ hn => hn⟩
    rcases h.fr i h1 with e | e
    · exact e.2
    · omega
  · obtain ⟨j, hj⟩ : ∃ j, (pick % (P.fs.length : Int)).toNat = j := ⟨_, rfl⟩
    have hl := h.ln
    have hjl : j < P.fs.length := by
      have h1 := Int.emod_lt_of_pos pick (show (0 : Int) < (P.fs.length : Int) by omega)
      have h2 := Int.emod_nonneg pick (show (P.fs.length : Int) ≠ 0 by omega)
      omega
    rw [hj]
    unfold Pl.takeAt
    by_cases hc : (P.get j).chg = true
    · rw [if_pos hc]
      obtain ⟨a1, a2, a3, a4, K', a5⟩ := inv_write h j hjl hc
      rw [if_pos a1]
      have hl2 := len_set a2
      have hg2 := get_set hjl a2
      have hjl2 : j < (P.write D G j (P.get j)).P.fs.length := by rw [hl2]; exact hjl
      have hfs : ((P.write D G j (P.get j)).P.setF j Fm.none).fs = (P.write D G j (P.get j)).P.fs.set j Fm.none := rfl
      have hg3 := get_set hjl2 hfs
      refine ⟨j, K', rfl, hjl, ⟨a3, a4, by show (List.set _ _ _).length = _; rw [List.length_set]; exact hl2⟩, ?_, ?_, ?_, fun n hn1 hn k hk => ?_⟩
      · rw [hg3 j, if_pos rfl]; rfl
      · rw [hg3 j, if_pos rfl]; rfl
      · exact inv_bring a5 j hjl2 (by rw [hg2 j, if_pos rfl]) Fm.none rfl hfs rfl rfl (.inl rfl)
      · rw [hg3 k]
        split
        · exact fun e => hn1 e.symm
        · rw [hg2 k]
          split
          · exact hn j hjl
          · exact hn k hk
    · rw [if_neg hc]
      have hc' : (P.get j).chg = false := by simpa using hc
      have hfs : (P.setF j Fm.none).fs = P.fs.set j Fm.none := rfl
      have hg3 := get_set hjl hfs
      refine ⟨j, K, rfl, hjl, ⟨rfl, rfl, by show (List.set _ _ _).length = _; rw [List.length_set]⟩, ?_, ?_, ?_, fun n hn1 hn k hk => ?_⟩
      · rw [hg3 j, if_pos rfl]; rfl
      · rw [hg3 j, if_pos rfl]; rfl
      · exact inv_bring h j hjl hc' Fm.none rfl hfs rfl rfl (.inl rfl)
      · rw [hg3 k]
        split
        · exact fun e => hn1 e.symm
        · exact hn k hk
theorem setAt_fs (P : Pl) (i n : Nat) (body : Pg) : (P.setAt i n body).fs = P.fs.set i ⟨body, (n : Int), true⟩ ∧ (P.setAt i n body).frm = P.frm ∧ (P.setAt i n body).pages = P.pages := by
  unfold Pl.setAt
  split <;> exact ⟨rfl, rfl, rfl⟩
theorem has_in {P : Pl} {n : Nat} (h : n < P.pages) : ¬ P.hasC (n : Int) ≠ 0 := by
  unfold Pl.hasC
  rw [if_pos (by omega)]
  simp
theorem set_valid {body : Pg} (h : body.setC = 0) (hl : body.lsn < 9223372036854775808) : body.valid := by
  have ho : body.out.2 = 0 := setC_out (by simp [h])
  unfold Pg.out at ho
  split at ho
  · rename_i h1
    split at ho
    · rename_i h2
      exact ⟨h1, h2, hl⟩
    · cases ho
  · cases ho
/-- Set of a page that may not be set. -/
theorem set_bad {P : Pl} {D : Dk} {G : Lg} (n : Nat) (hn : n < P.pages) (body : Pg) (pick : Int) (hb : body.setC ≠ 0) : P.set D G (n : Int) body pick = ⟨body.setC, P, D, G⟩ := by
  unfold Pl.set
  rw [if_neg (has_in hn), if_pos hb]
theorem inv_set {N : Nat} {P : Pl} {D : Dk} {G : Lg} {C K : Nat → Option Pg} (h : Inv N P D G C K) (n : Nat) (hn : n < P.pages) (body : Pg) (pick : Int) (hb : body.setC = 0) (hl : body.lsn < 9223372036854775808) (ht : body.lsn < (G.tail : Int)) :
    (P.set D G (n : Int) body pick).c = 0 ∧ Held P (P.set D G (n : Int) body pick).P ∧ ∃ K', Inv N (P.set D G (n : Int) body pick).P (P.set D G (n : Int) body pick).D (P.set D G (n : Int) body pick).G (fun k => if k = n then some body else C k) K' := by
  have hv := set_valid hb hl
  unfold Pl.set
  rw [if_neg (has_in hn), if_neg (by rw [hb]; simp)]
  split
  · rename_i i hi
    obtain ⟨h1, h2⟩ := idx_some hi
    obtain ⟨s1, s2, s3⟩ := setAt_fs P i (n : Int).toNat body
    rw [show ((n : Int).toNat : Int) = (n : Int) by simp] at s1
    refine ⟨rfl, ⟨s2, s3, len_set s1⟩, K, ?_⟩
    exact inv_lay h i h1 n hn (.inr h2) (fun j hj e e2 => e (h.ne j i hj h1 (e2.trans h2.symm) (by omega))) body hv ht s1 s2 s3
  · rename_i hi
    have hno := idx_none hi
    obtain ⟨i, K', t1, t2, t3, t4, t5, t6, t7⟩ := inv_take h pick
    have ht' := (alike_tail (alike_take P D G pick)).1
    rw [t1]
    dsimp only
    obtain ⟨s1, s2, s3⟩ := setAt_fs (P.take D G pick).1.P i (n : Int).toNat body
    rw [show ((n : Int).toNat : Int) = (n : Int) by simp] at s1
    refine ⟨rfl, ⟨s2.trans t3.frm, s3.trans t3.pages, (len_set s1).trans t3.len⟩, K', ?_⟩
    exact inv_lay t6 i (by rw [t3.len]; exact t2) n (by rw [t3.pages]; exact hn) (.inl t4) (fun j hj e => t7 (n : Int) (by omega) hno j (by rw [← t3.len]; exact hj)) body hv (by rw [ht']; exact ht) s1 s2 s3
/-- Sectors of nothing but zeros are no page. -/
theorem page_zero {D : Dk} {N : Nat} {f : Nat → List UInt8} (h : D.Wk N f) (a : Nat) (ha : a + 8 ≤ N) (hf : ∀ i, i < 8 → f (a + i) = zs64) : (D.page a).2 = 60 ∧ (D.page a).1 = .none := by
  have hr : D.read (a : Int) 8 = (List.replicate 512 0, 0) := by
    unfold Dk.read
    rw [h.dead, if_neg (by simp), h.len, if_pos (by unfold hasB; simp; omega)]
    have e : D.bytes (a : Int).toNat (8 : Int).toNat = List.replicate 512 0 := by
      unfold Dk.bytes
      rw [Int.toNat_natCast, show (8 : Int).toNat = 8 from rfl]
      have e2 : ((List.range 8).map fun i => D.cur (a + i)) = (List.range 8).map fun _ => zs64 := by
        apply List.map_congr_left
        intro i hi
        have hi := List.mem_range.1 hi
        rw [h.cur (a + i) (by omega), hf i hi]
      rw [e2]
      decide +kernel
    rw [e]
  unfold Dk.page
  rw [hr]
  dsimp only
  rw [aw_none]
  exact ⟨by simp, by simp⟩
/-- What a page's sectors are read as. -/
theorem inv_page {N : Nat} {P : Pl} {D : Dk} {G : Lg} {C K : Nat → Option Pg} (h : Inv N P D G C K) (n : Nat) (hn : n < P.pages) : D.page (P.frm + 8 * n) = match K n with
    | some p => (p, 0)
    | none => (.none, 60) := by
  obtain ⟨f, f1, f2⟩ := h.dk
  have hs := h.sz
  have f3 := f2 n hn
  cases hK : K n with
  | some p =>
    rw [hK] at f3
    exact page_back f1 _ (by omega) p (h.kv n p hK).1 f3
  | none =>
    rw [hK] at f3
    obtain ⟨a, b⟩ := page_zero f1 (P.frm + 8 * n) (by omega) f3
    exact Prod.ext b a
/-- What Fetch answers. -/
def fetC (o : Option Pg) : Int := if o.isSome = true then 0 else 60
def fetP (o : Option Pg) : Pg := o.getD .none
theorem inv_fetch {N : Nat} {P : Pl} {D : Dk} {G : Lg} {C K : Nat → Option Pg} (h : Inv N P D G C K) (n : Nat) (hn : n < P.pages) (pick : Int) :
    (P.fetch D G (n : Int) pick).1.c = fetC (C n) ∧ (P.fetch D G (n : Int) pick).2 = fetP (C n) ∧ Held P (P.fetch D G (n : Int) pick).1.P ∧ ∃ K', Inv N (P.fetch D G (n : Int) pick).1.P (P.fetch D G (n : Int) pick).1.D (P.fetch D G (n : Int) pick).1.G C K' := by
  unfold Pl.fetch
  rw [if_neg (has_in hn)]
  split
  · rename_i i hi
    obtain ⟨h1, h2⟩ := idx_some hi
    rcases h.fr i h1 with e | e
    · omega
    · have e2 := e.2.2
      rw [h2] at e2
      have e3 : C n = some (P.get i).pg := by rw [← e2]; simp
      rw [e3]
      exact ⟨rfl, rfl, ⟨rfl, rfl, rfl⟩, K, h⟩
  · rename_i hi
    have hno := idx_none hi
    have hk : K n = C n := h.kc n (fun j hj e => absurd e (hno j hj))
    have hp := inv_page h n hn
    rw [hk] at hp
    rw [show (n : Int).toNat = n by simp]
    cases hC : C n with
    | none =>
      rw [hC] at hp
      rw [hp]
      exact ⟨rfl, rfl, ⟨rfl, rfl, rfl⟩, K, h⟩
    | some p =>
      rw [hC] at hp
      rw [hp]
      obtain ⟨i, K', t1, t2, t3, t4, t5, t6, t7⟩ := inv_take h pick
      rw [if_neg (by simp), t1]
      dsimp only
      refine ⟨rfl, rfl, ⟨t3.frm, t3.pages, by show (List.set _ _ _).length = _; rw [List.length_set]; exact t3.len⟩, K', ?_⟩
      exact inv_bring t6 i (by rw [t3.len]; exact t2) t5 ⟨p, (n : Int), false⟩ rfl rfl rfl rfl (.inr ⟨by show (0 : Int) ≤ (n : Int); omega, by show (n : Int) < _; rw [t3.pages]; omega, by show C (n : Int).toNat = _; rw [Int.toNat_natCast]; exact hC, fun j hj => t7 (n : Int) (by omega) hno j (by rw [← t3.len]; exact hj)⟩)
theorem inv_writeN {N : Nat} {P : Pl} {D : Dk} {G : Lg} {C K : Nat → Option Pg} (h : Inv N P D G C K) (n : Nat) (hn : n < P.pages) :
    (P.writeN D G (n : Int)).c = 0 ∧ Held P (P.writeN D G (n : Int)).P ∧ ∃ K', Inv N (P.writeN D G (n : Int)).P (P.writeN D G (n : Int)).D (P.writeN D G (n : Int)).G C K' := by
  unfold Pl.writeN
  rw [if_neg (has_in hn)]
  split
  · rename_i i hi
    obtain ⟨h1, h2⟩ := idx_some hi
    split
    · rename_i hc
      obtain ⟨a1, a2, a3, a4, K', a5⟩ := inv_write h i h1 hc
      exact ⟨a1, ⟨a3, a4, len_set a2⟩, K', a5⟩
    · exact ⟨rfl, ⟨rfl, rfl, rfl⟩, K, h⟩
  · exact ⟨rfl, ⟨rfl, rfl, rfl⟩, K, h⟩
/-- A record is appended; the disk is synced; the pool is told so. -/
theorem inv_app {N : Nat} {P : Pl} {D : Dk} {G G' : Lg} {C K : Nat → Option Pg} (h : Inv N P D G C K) (g1 : G'.n = G.n) (g2 : G'.frm = G.frm) (g3 : G.tail ≤ G'.tail) (g4 : G'.flushed = G.flushed) : Inv N P D G' C K :=
  ⟨h.sz, by rw [g1]; exact h.gn, by rw [g1, g2]; exact h.gf, by have := h.gl; omega, h.ln, h.fr, h.ne, fun k p hk => by have := h.va k p hk; exact ⟨this.1, this.2.1, by omega⟩, h.kc, fun k p hk => by rw [g4]; exact h.kv k p hk, h.dk⟩
theorem inv_sync {N : Nat} {P : Pl} {D : Dk} {G : Lg} {C K : Nat → Option Pg} (h : Inv N P D G C K) : D.sync.2 = 0 ∧ Inv N P.synced D.sync.1 G C K := by
  obtain ⟨f, f1, f2⟩ := h.dk
  exact ⟨f1.sync.1, h.sz, h.gn, h.gf, h.gl, h.ln, h.fr, h.ne, h.va, h.kc, h.kv, f, f1.sync.2, f2⟩
theorem inv_new {N n pages frames : Nat} {D : Dk} (hD : D.Wk N (fun _ => zs64)) (h1 : n + 8 * pages ≤ N) (h2 : 1 ≤ n) (h3 : 1 ≤ frames) : Inv N (Pl.new n pages frames) D (Lg.new 0 n) (fun _ => none) (fun _ => none) := by
  have hg : ∀ i, (Pl.new n pages frames).get i = Fm.none := fun i => by
    unfold Pl.get Pl.new
    rw [List.getD_eq_getElem?_getD]
    by_cases e : i < frames
    · simp [e]
    · simp [e]
  refine ⟨h1, h2, by show 0 + n ≤ n; omega, Nat.le_refl _, by show 1 ≤ (List.replicate _ _).length; simpa using h3, fun i _ => .inl ?_, fun i j _ _ _ e => ?_, (fun k p e => by cases e), fun _ _ => rfl, (fun k p e => by cases e), _, hD, fun _ _ _ _ => rfl⟩
  · rw [hg]; exact ⟨rfl, rfl⟩
  · rw [hg] at e; exact absurd rfl e
end Go.Proofs.YtbfafijfhaejmaaGreatDoor

namespace Go.Proofs.YtbfafijfhaejmaaGreatDoor
open Go.RowKit

/-- Back from a call, with what is new in it. -/
theorem Sw.back2 {w W W' : World} {p d l fb mb g m : Nat} {P : Pl} {D : Dk} {G : Lg} {v7 v8 : Value} {T : Nat → Prop} (h : Sw w W p d l fb mb g m P D G v7 v8 T) {B : Nat} {ao : Option Addr} {cp : Nat} (hv : v7 = .slice ao G.stream.length cp) {o : Wo} (hr : ShR W W' p d l fb mb g m B ao cp v8 T o) (hk : o.P.Ok) (hg : G.Alike o.G) :
    ∃ mb' T', Sw w W' p d l fb mb' g m o.P o.D o.G v7 v8 T' ∧ (∀ k, T' k → T k) ∧ (mb' = mb ∨ W.heap.size ≤ mb') := by
  obtain ⟨mb', T', hs, h1, h2, h3, ho⟩ := hr
  obtain ⟨x, hx⟩ := hg
  have n7 : ∀ k, v7.ownBlock = some k → ¬ (own d g m k ∨ k = l ∨ k = p ∨ k = fb ∨ k = mb) := fun k hk e => by
    obtain ⟨a1, a2, a3, a4, a5, _⟩ := h.x7 k hk
    rcases e with e | e | e | e | e
    · exact a1 e
    · exact a2 e
    · exact a3 e
    · exact a4 e
    · exact a5 e
  have n8 : ∀ k, v8.ownBlock = some k → ¬ (own d g m k ∨ k = l ∨ k = p ∨ k = fb ∨ k = mb) := fun k hk e => by
    obtain ⟨a1, a2, a3, a4, a5, _⟩ := h.x8 k hk
    rcases e with e | e | e | e | e
    · exact a1 e
    · exact a2 e
    · exact a3 e
    · exact a4 e
    · exact a5 e
  have hm7 : ∀ k, v7.ownBlock = some k → k ≠ mb' := fun k hk e => by
    have := (Row.lt7 h.log k hk).2
    rcases h3 with h3 | h3
    · exact (h.x7 k hk).2.2.2.2.1 (by rw [e, h3])
    · omega
  have hm8 : ∀ k, v8.ownBlock = some k → k ≠ mb' := fun k hk e => by
    have := (Row.lt8 h.log k hk).2
    rcases h3 with h3 | h3
    · exact (h.x8 k hk).2.2.2.2.1 (by rw [e, h3])
    · omega
  have L := hs.log
  have hst : o.G.stream = G.stream := by rw [hx]
  have hpl : o.G.places = G.places := by rw [hx]
  have c7 := L.c7
  rw [hst, ← hv] at c7
  have hlo := h.lo
  have hsz := h.only.size
  refine ⟨mb', T', ⟨hs.pool, hs.dsk, ⟨L.c0, L.c1, L.c2, L.c3, L.c4, L.c5, L.c6, c7, L.c8, L.fz, L.lt, ?_, ?_, h.log.n1, h.log.n2, h.log.n3⟩, hs.ok, hs.sf, hs.tb, hk, hs.xp, hs.xf, hs.xm, hs.xT, hs.xl, ?_, ?_, ?_, ?_⟩, h1, h3⟩
  · rw [hst]; exact h.log.row.kept ho n7
  · rw [hpl]; exact own_only h.log.pl ho n8
  · exact fun k hk => ⟨(h.x7 k hk).1, (h.x7 k hk).2.1, (h.x7 k hk).2.2.1, (h.x7 k hk).2.2.2.1, hm7 k hk, fun e => (h.x7 k hk).2.2.2.2.2 (h1 k e)⟩
  · exact fun k hk => ⟨(h.x8 k hk).1, (h.x8 k hk).2.1, (h.x8 k hk).2.2.1, (h.x8 k hk).2.2.2.1, hm8 k hk, fun e => (h.x8 k hk).2.2.2.2.2 (h1 k e)⟩
  · refine h.only.trans ho (fun i hi e => ?_)
    rcases e with e | e | e | e | e
    · have := hlo.2.2.2.2 i e; omega
    · omega
    · omega
    · omega
    · omega
  · refine ⟨hlo.1, hlo.2.1, ?_, hlo.2.2.2⟩
    rcases h3 with h3 | h3
    · rw [h3]; exact hlo.2.2.1
    · omega
theorem sw_append2 {w W : World} {p d l fb mb g m : Nat} {P : Pl} {D : Dk} {G : Lg} {v7 v8 : Value} {T : Nat → Prop} (h : Sw w W p d l fb mb g m P D G v7 v8 T) (hv : (nt.at_ G.tail).valid) (hroom : (nt.at_ G.tail).enc.length ≤ G.room) (hpl : G.places.length ≤ 1000000000)
    (ok : (G.app (nt.at_ G.tail).enc).Ok) (htb : (G.app (nt.at_ G.tail).enc).tail < 4294967295) :
    Calls Tryz.prog 18 #[.pointer (some ⟨l, 0, none⟩), .agg (nt.cells Loc.none)] W fun e w' => e = .returned (.tuple #[.int .i64 (G.tail : Int), .int .i64 0]) ∧ ∃ v7' v8' T', Sw w w' p d l fb mb g m P D (G.app (nt.at_ G.tail).enc) v7' v8' T' ∧ (∀ k, T' k → T k) ∧ (∀ k, v7'.ownBlock = some k → v7.ownBlock = some k ∨ W.heap.size ≤ k) ∧ (∀ k, v8'.ownBlock = some k → v8.ownBlock = some k ∨ W.heap.size ≤ k) ∧ Only (fun k => k = l ∨ some k = v7.ownBlock ∨ some k = v8.ownBlock) W w' := by
  refine (append_ok W l d G w.heap.size v7 v8 h.log h.ok h.only.size nt Loc.none (nt_at W) hv hroom hpl).mono ?_
  rintro e w' ⟨he, v7', v8', hlo, ho, k7, k8⟩
  have hl := h.lo
  have hS : ∀ k, ¬ (k = l) → ¬ (v7.ownBlock = some k) → ¬ (v8.ownBlock = some k) → ¬ (k = l ∨ some k = v7.ownBlock ∨ some k = v8.ownBlock) := by
    rintro k e1 e2 e3 (e | e | e)
    · exact e1 e
    · exact e2 e.symm
    · exact e3 e.symm
  have hT : ∀ k, T k → ¬ (k = l ∨ some k = v7.ownBlock ∨ some k = v8.ownBlock) := fun k hk => hS k (h.xT k hk).2 (fun e => (h.x7 k e).2.2.2.2.2 hk) (fun e => (h.x8 k e).2.2.2.2.2 hk)
  have hp : ¬ (p = l ∨ some p = v7.ownBlock ∨ some p = v8.ownBlock) := hS p h.xp.2 (fun e => (h.x7 p e).2.2.1 rfl) (fun e => (h.x8 p e).2.2.1 rfl)
  have hf : ¬ (fb = l ∨ some fb = v7.ownBlock ∨ some fb = v8.ownBlock) := hS fb h.xf.2 (fun e => (h.x7 fb e).2.2.2.1 rfl) (fun e => (h.x8 fb e).2.2.2.1 rfl)
  have hm : ¬ (mb = l ∨ some mb = v7.ownBlock ∨ some mb = v8.ownBlock) := hS mb h.xm.2 (fun e => (h.x7 mb e).2.2.2.2.1 rfl) (fun e => (h.x8 mb e).2.2.2.2.1 rfl)
  have hd : ∀ k, own d g m k → ¬ (k = l ∨ some k = v7.ownBlock ∨ some k = v8.ownBlock) := fun k hk => hS k (fun e => h.xl (e ▸ hk)) (fun e => (h.x7 k e).1 hk) (fun e => (h.x8 k e).1 hk)
  have hP := h.pool.kept ho hp hf hm (fun B hB => hT B hB)
  have hplt := h.pool.lt
  have hflt := h.pool.flt
  have hmlt := h.pool.map.lt
  have hdl : ∀ k, own d g m k → k < W.heap.size := fun k hk => by
    have := h.dsk.lt
    have := h.dsk.old.lt
    have := h.dsk.map.lt
    rcases hk with e | e | e <;> omega
  have hll := h.log.lt
  refine ⟨he, v7', v8', fun k => T k ∧ v7'.ownBlock ≠ some k ∧ v8'.ownBlock ≠ some k, ⟨⟨hP.c0, hP.c1, hP.c2, hP.c3, hP.c4, hP.c5, hP.fz, hP.lt, fun i hi => ?_, hP.ffz, hP.flt, hP.map, hP.n1, hP.n2, hP.n3, fun e => hP.t1 e.1, fun e => hP.t2 e.1, fun e => hP.t3 e.1, hP.nf, hP.np, hP.nm, hP.nn, fun k hk => ⟨hP.new k hk, fun e => by have := (Row.lt7 hlo k e).2; omega, fun e => by have := (Row.lt8 hlo k e).2; omega⟩⟩,
    h.dsk.kept ho (hd d (.inl rfl)) (hd g (.inr (.inl rfl))) (hd m (.inr (.inr rfl))), hlo, ok, h.sf, htb, h.pok, h.xp, h.xf, h.xm, fun k hk => h.xT k hk.1, h.xl, ?_, ?_, ?_, hl⟩, fun k e => e.1, k7, k8, ho⟩
  · obtain ⟨⟨B, ao, cp, f1, f2, f3, f4⟩, f5, f6⟩ := h.pool.fr i hi
    obtain ⟨⟨B2, ao2, cp2, g1, g2, g3, g4⟩, g5, g6⟩ := hP.fr i hi
    refine ⟨⟨B, ao, cp, fun j v hv => ?_, f2.kept ho (fun h0 => hT B (f4 h0)), f3, fun h0 => ⟨f4 h0, fun e => ?_, fun e => ?_⟩⟩, f5, f6⟩
    · have := f1 j v hv
      exact (ho.cell (p := ⟨fb, i * 8 + j, Option.none⟩) (World.block_lt_of_cell? W _ this) hf).trans this
    · rcases k7 B e with e1 | e1
      · exact (h.x7 B e1).2.2.2.2.2 (f4 h0)
      · have := f2.lt h0; omega
    · rcases k8 B e with e1 | e1
      · exact (h.x8 B e1).2.2.2.2.2 (f4 h0)
      · have := f2.lt h0; omega
  · intro k hk
    rcases k7 k hk with e1 | e1
    · obtain ⟨a1, a2, a3, a4, a5, a6⟩ := h.x7 k e1
      exact ⟨a1, a2, a3, a4, a5, fun e => a6 e.1⟩
    · exact ⟨fun e => by have := hdl k e; omega, by omega, by omega, by omega, by omega, fun e => e.2.1 hk⟩
  · intro k hk
    rcases k8 k hk with e1 | e1
    · obtain ⟨a1, a2, a3, a4, a5, a6⟩ := h.x8 k e1
      exact ⟨a1, a2, a3, a4, a5, fun e => a6 e.1⟩
    · exact ⟨fun e => by have := hdl k e; omega, by omega, by omega, by omega, by omega, fun e => e.2.2 hk⟩
  · refine h.only.trans ho (fun i hi e => ?_)
    rcases e with e | e | e
    · omega
    · have := (Row.lt7 h.log i e.symm).1; omega
    · have := (Row.lt8 h.log i e.symm).1; omega
/-- The blocks that a pool, its log and its disk lie in. -/
def foot (W : World) (p d l fb mb g m : Nat) (v7 v8 : Value) (T : Nat → Prop) (k : Nat) : Prop := own d g m k ∨ k = l ∨ k = p ∨ k = fb ∨ k = mb ∨ v7.ownBlock = some k ∨ v8.ownBlock = some k ∨ T k ∧ k < W.heap.size
theorem Sw.lt {w W : World} {p d l fb mb g m : Nat} {P : Pl} {D : Dk} {G : Lg} {v7 v8 : Value} {T : Nat → Prop} (h : Sw w W p d l fb mb g m P D G v7 v8 T) : d < W.heap.size ∧ g < W.heap.size ∧ m < W.heap.size ∧ l < W.heap.size ∧ p < W.heap.size ∧ fb < W.heap.size ∧ mb < W.heap.size := by
  exact ⟨h.dsk.lt, h.dsk.old.lt, h.dsk.map.lt, h.log.lt, h.pool.lt, h.pool.flt, h.pool.map.lt⟩
theorem Sw.own_lt {w W : World} {p d l fb mb g m : Nat} {P : Pl} {D : Dk} {G : Lg} {v7 v8 : Value} {T : Nat → Prop} (h : Sw w W p d l fb mb g m P D G v7 v8 T) (k : Nat) (hk : own d g m k) : k < W.heap.size := by
  have := h.lt
  rcases hk with e | e | e <;> omega
theorem Sw.foot_lt {w W : World} {p d l fb mb g m : Nat} {P : Pl} {D : Dk} {G : Lg} {v7 v8 : Value} {T : Nat → Prop} (h : Sw w W p d l fb mb g m P D G v7 v8 T) (k : Nat) (hk : foot W p d l fb mb g m v7 v8 T k) : k < W.heap.size := by
  have := h.lt
  rcases hk with e | e | e | e | e | e | e | e
  · exact h.own_lt k e
  · omega
  · omega
  · omega
  · omega
  · exact (Row.lt7 h.log k e).2
  · exact (Row.lt8 h.log k e).2
  · exact e.2
/-- It stays, whatever else is changed. -/
theorem Sw.kept {S : Nat → Prop} {w W W' : World} {p d l fb mb g m : Nat} {P : Pl} {D : Dk} {G : Lg} {v7 v8 : Value} {T : Nat → Prop} (h : Sw w W p d l fb mb g m P D G v7 v8 T) (ho : Only S W W') (hS : ∀ k, foot W p d l fb mb g m v7 v8 T k → ¬ S k) (hw : Only (fun _ => False) w W') :
    Sw w W' p d l fb mb g m P D G v7 v8 (fun k => T k ∧ k < W.heap.size ∨ W'.heap.size ≤ k) := by
  have hlt := h.lt
  have hsz := ho.size
  have sown : ∀ k, own d g m k → ¬ S k := fun k hk => hS k (.inl hk)
  have sl : ¬ S l := hS l (.inr (.inl rfl))
  have sp : ¬ S p := hS p (.inr (.inr (.inl rfl)))
  have sf : ¬ S fb := hS fb (.inr (.inr (.inr (.inl rfl))))
  have sm : ¬ S mb := hS mb (.inr (.inr (.inr (.inr (.inl rfl)))))
  have s7 : ∀ k, v7.ownBlock = some k → ¬ S k := fun k hk => hS k (.inr (.inr (.inr (.inr (.inr (.inl hk))))))
  have s8 : ∀ k, v8.ownBlock = some k → ¬ S k := fun k hk => hS k (.inr (.inr (.inr (.inr (.inr (.inr (.inl hk)))))))
  have sT : ∀ k, T k → k < W.heap.size → ¬ S k := fun k hk hk2 => hS k (.inr (.inr (.inr (.inr (.inr (.inr (.inr ⟨hk, hk2⟩)))))))
  have hp := h.pool
  have k : ∀ (j : Nat) (v : Value), W.cell? ⟨p, j, none⟩ = some v → W'.cell? ⟨p, j, none⟩ = some v := fun j v hj => (ho.cell (p := ⟨p, j, none⟩) hp.lt sp).trans hj
  refine ⟨⟨k _ _ hp.c0, k _ _ hp.c1, k _ _ hp.c2, k _ _ hp.c3, k _ _ hp.c4, k _ _ hp.c5, fun j => (ho.frozen (p := ⟨p, j, none⟩) hp.lt sp).trans (hp.fz j), Nat.lt_of_lt_of_le hp.lt ho.size, fun i hi => ?_, fun j => (ho.frozen (p := ⟨fb, j, none⟩) hp.flt sf).trans (hp.ffz j), Nat.lt_of_lt_of_le hp.flt ho.size, hp.map.kept ho sm, hp.n1, hp.n2, hp.n3, ?_, ?_, ?_, hp.nf, hp.np, hp.nm, hp.nn, fun k hk => .inr hk⟩,
    h.dsk.kept ho (sown d (.inl rfl)) (sown g (.inr (.inl rfl))) (sown m (.inr (.inr rfl))), h.log.kept ho sl s7 s8, h.ok, h.sf, h.tb, h.pok, h.xp, h.xf, h.xm, ?_, h.xl, ?_, ?_, hw, h.lo⟩
  · obtain ⟨⟨B, ao, cp, f1, f2, f3, f4⟩, f5, f6⟩ := hp.fr i hi
    refine ⟨⟨B, ao, cp, fun j v hv => ?_, f2.kept ho (fun h0 => sT B (f4 h0) (f2.lt h0)), f3, fun h0 => .inl ⟨f4 h0, f2.lt h0⟩⟩, f5, f6⟩
    have := f1 j v hv
    exact (ho.cell (p := ⟨fb, i * 8 + j, none⟩) (World.block_lt_of_cell? W _ this) sf).trans this
  · rintro (e | e)
    · exact hp.t1 e.1
    · omega
  · rintro (e | e)
    · exact hp.t2 e.1
    · omega
  · rintro (e | e)
    · exact hp.t3 e.1
    · omega
  · rintro k (e | e)
    · exact h.xT k e.1
    · exact ⟨fun e2 => by have := h.own_lt k e2; omega, by omega⟩
  · intro k hk
    obtain ⟨a1, a2, a3, a4, a5, a6⟩ := h.x7 k hk
    refine ⟨a1, a2, a3, a4, a5, ?_⟩
    rintro (e | e)
    · exact a6 e.1
    · have := (Row.lt7 h.log k hk).2; omega
  · intro k hk
    obtain ⟨a1, a2, a3, a4, a5, a6⟩ := h.x8 k hk
    refine ⟨a1, a2, a3, a4, a5, ?_⟩
    rintro (e | e)
    · exact a6 e.1
    · have := (Row.lt8 h.log k hk).2; omega
theorem foot_kept {W W' : World} {p d l fb mb g m : Nat} {v7 v8 : Value} {T : Nat → Prop} (k : Nat) (hk : foot W' p d l fb mb g m v7 v8 (fun k => T k ∧ k < W.heap.size ∨ W'.heap.size ≤ k) k) : foot W p d l fb mb g m v7 v8 T k := by
  rcases hk with e | e | e | e | e | e | e | e
  · exact .inl e
  · exact .inr (.inl e)
  · exact .inr (.inr (.inl e))
  · exact .inr (.inr (.inr (.inl e)))
  · exact .inr (.inr (.inr (.inr (.inl e))))
  · exact .inr (.inr (.inr (.inr (.inr (.inl e)))))
  · exact .inr (.inr (.inr (.inr (.inr (.inr (.inl e))))))
  · rcases e.1 with e1 | e1
    · exact .inr (.inr (.inr (.inr (.inr (.inr (.inr e1))))))
    · have := e.2; omega
/-- Behind a call its blocks are those that it had, and new ones. -/
theorem foot_back {W W' : World} {p d l fb mb mb' g m : Nat} {v7 v8 v7' v8' : Value} {T T' : Nat → Prop} (hT : ∀ k, T' k → T k) (hm : mb' = mb ∨ W.heap.size ≤ mb') (h7 : ∀ k, v7'.ownBlock = some k → v7.ownBlock = some k ∨ W.heap.size ≤ k) (h8 : ∀ k, v8'.ownBlock = some k → v8.ownBlock = some k ∨ W.heap.size ≤ k) (k : Nat) (hk : foot W' p d l fb mb' g m v7' v8' T' k) : foot W p d l fb mb g m v7 v8 T k ∨ W.heap.size ≤ k := by
  rcases hk with e | e | e | e | e | e | e | e
  · exact .inl (.inl e)
  · exact .inl (.inr (.inl e))
  · exact .inl (.inr (.inr (.inl e)))
  · exact .inl (.inr (.inr (.inr (.inl e))))
  · rcases hm with e1 | e1
    · exact .inl (.inr (.inr (.inr (.inr (.inl (e.trans e1))))))
    · exact .inr (by omega)
  · rcases h7 k e with e1 | e1
    · exact .inl (.inr (.inr (.inr (.inr (.inr (.inl e1))))))
    · exact .inr e1
  · rcases h8 k e with e1 | e1
    · exact .inl (.inr (.inr (.inr (.inr (.inr (.inr (.inl e1)))))))
    · exact .inr e1
  · by_cases hs : k < W.heap.size
    · exact .inl (.inr (.inr (.inr (.inr (.inr (.inr (.inr ⟨hT k e.1, hs⟩)))))))
    · exact .inr (by omega)
theorem foot_pw {W : World} {p d l fb mb g m : Nat} {v7 v8 : Value} {T : Nat → Prop} (k : Nat) (hk : pw p d l fb mb g m k) : foot W p d l fb mb g m v7 v8 T k := by
  rcases hk with e | e | e | e | e
  · exact .inl e
  · exact .inr (.inl e)
  · exact .inr (.inr (.inl e))
  · exact .inr (.inr (.inr (.inl e)))
  · exact .inr (.inr (.inr (.inr (.inl e))))
/-- The record that only takes a place, anywhere. -/
theorem nt_lay (t : Nat) : (nt.at_ (t : Int)).lay.length ≤ 25 := by
  have h0 : sev 0 = [0] := by decide
  have h1 : sev 1 = [1] := by decide
  have h2 : sev 2 = [2] := by decide
  have := sev_len t
  simp only [Rc.lay, nums, nt, Rc.at_, textL, List.length_append]
  simp [h0, h1, h2, bl]
  have e : (⟨#[]⟩ : ByteArray).size = 0 := rfl
  first
    | omega
    | (rw [e, h0]; simp; omega)
theorem nt_valid (t : Nat) (h1 : 1 ≤ t) (h2 : t ≤ 100000) : (nt.at_ (t : Int)).valid := by
  refine ⟨(by decide : (1 : Int) ≤ 2), (by decide : (2 : Int) ≤ 13), ⟨?_, fun n hn => ?_, (fun n h => by cases h), (fun n h => by cases h), (fun n h => by cases h), (fun n h => by cases h), (fun n h => by cases h)⟩, ⟨(by decide : 0 ≤ 512), Nat.zero_le _, Nat.zero_le _, Nat.zero_le _, Nat.zero_le _, Nat.zero_le _⟩, rfl, by have := nt_lay t; omega⟩
  · show (1 : Int) ≤ (t : Int); omega
  · have hn' : n = (t : Int) ∨ n = 0 ∨ n = 1 := by
      simp [nt, Rc.at_] at hn
      omega
    unfold mb
    rcases hn' with e | e | e <;> (subst e; exact ⟨by omega, by unfold top; omega⟩)
theorem nt_len (t : Nat) : 8 ≤ (nt.at_ (t : Int)).enc.length ∧ (nt.at_ (t : Int)).enc.length ≤ 33 := by
  have := nt_lay t
  rw [renc_len]
  omega
end Go.Proofs.YtbfafijfhaejmaaGreatDoor

namespace Go.Proofs.YtbfafijfhaejmaaGreatDoor
open Go.RowKit

/-- A pool over both. -/
theorem st_pool2 {w W : World} {d g m l N n pages frames : Nat} {D : Dk} (hW : D.Wk N (fun _ => zs64)) (hD : Dsk W d g m D) (hL : LogOw W l d (Lg.new 0 n) w.heap.size (.slice none 0 0) (.slice none 0 0)) (hnl : ¬ own d g m l) (hlw : w.heap.size ≤ l) (ho : Only (fun _ => False) w W) (hk : ∀ k, own d g m k → w.heap.size ≤ k ∧ k < W.heap.size)
    (hn : 4 ≤ n) (hf1 : 1 ≤ frames) (hf : frames ≤ 1024) (hp1 : 1 ≤ pages) (hp : pages ≤ 8192) (hN : n + 8 * pages ≤ N) (hN2 : N ≤ 65536) :
    Calls Tryz.prog 12 #[.pointer (some ⟨d, 0, none⟩), .pointer (some ⟨l, 0, none⟩), .int .i64 (n : Int), .int .i64 (pages : Int), .int .i64 (frames : Int)] W fun e w' => ∃ p fb mb T, e = .returned (.tuple #[.pointer (some ⟨p, 0, none⟩), .int .i64 0]) ∧ Sw w w' p d l fb mb g m (Pl.new n pages frames) D (Lg.new 0 n) (.slice none 0 0) (.slice none 0 0) T ∧ ∀ k, T k → w'.heap.size ≤ k := by
  refine (onew_ok W d l g m D hD n pages frames hf1 hf hp1 hp (by rw [hW.len]; omega) (by rw [hW.len]; omega)).mono ?_
  rintro e w' ⟨p, fb, mb, T, he, hP, ho', h1, h2, h3, hT⟩
  have hs := ho.size
  have hs' := ho'.size
  have hll := hL.lt
  refine ⟨p, fb, mb, T, he, ⟨hP, hD.same ho', hL.more ho', ⟨?_, ?_, ?_, ?_, ?_, ?_, ?_, ?_, ?_⟩, ?_, ?_, ok_new _ _ _, ⟨fun e => by have := (hk _ e).2; omega, by omega⟩, ⟨fun e => by have := (hk _ e).2; omega, by omega⟩, ⟨fun e => by have := (hk _ e).2; omega, by omega⟩, fun k hk' => ⟨fun e => by have := (hk _ e).2; have := hT k hk'; omega, by have := hT k hk'; omega⟩, hnl, (fun k hk' => by cases hk'), (fun k hk' => by cases hk'), o2 ho ho', ⟨by omega, by omega, by omega, hlw, fun k hk' => (hk k hk').1⟩⟩, hT⟩
  all_goals (try simp only [Lg.new])
  all_goals (try simp)
  all_goals omega
theorem owns_low {W : World} {base base' n : Nat} {e : TypeId} {v : Value} {xs : List Value} (h : W.ownsRow base e 1 v n xs) (hb : base' ≤ base) : W.ownsRow base' e 1 v n xs := by
  obtain ⟨h1, h2⟩ := h
  refine ⟨h1, ?_⟩
  rcases h2 with h2 | ⟨g, cap, cur, hv, hg, hh, r⟩
  · exact .inl h2
  · exact .inr ⟨g, cap, cur, hv, by omega, hh, r⟩
theorem Sw.low {w w0 W : World} {p d l fb mb g m : Nat} {P : Pl} {D : Dk} {G : Lg} {v7 v8 : Value} {T : Nat → Prop} (h : Sw w0 W p d l fb mb g m P D G v7 v8 T) (hs : w.heap.size ≤ w0.heap.size) (ho : Only (fun _ => False) w W) : Sw w W p d l fb mb g m P D G v7 v8 T :=
  ⟨h.pool, h.dsk, ⟨h.log.c0, h.log.c1, h.log.c2, h.log.c3, h.log.c4, h.log.c5, h.log.c6, h.log.c7, h.log.c8, h.log.fz, h.log.lt, ⟨owns_low h.log.row.own hs, h.log.row.at_⟩, owns_low h.log.pl hs, h.log.n1, h.log.n2, h.log.n3⟩, h.ok, h.sf, h.tb, h.pok, h.xp, h.xf, h.xm, h.xT, h.xl, h.x7, h.x8, ho, by have := h.lo; exact ⟨by omega, by omega, by omega, by omega, fun k hk => by have := this.2.2.2.2 k hk; omega⟩⟩
/-- A pool told by its pages: C as they were set, K as they lie on the disk; t the log's tail, fl what lasts of it; F its blocks. -/
structure Pw (w W : World) (p d l : Nat) (F : Nat → Prop) (t fl : Nat) (C K : Nat → Option Pg) : Prop where
  ex : ∃ fb mb g m P D G v7 v8 T, Sw w W p d l fb mb g m P D G v7 v8 T ∧ Inv 2000 P D G C K ∧ (P.frm = 200 ∧ P.pages = 12) ∧ (G.tail = t ∧ G.flushed = fl ∧ G.n = 200 ∧ G.frm = 0 ∧ G.start = 1 ∧ G.reserved = 0 ∧ G.places.length ≤ t ∧ G.stream.length ≤ t) ∧ ∀ k, foot W p d l fb mb g m v7 v8 T k → F k
  lt : ∀ k, F k → w.heap.size ≤ k ∧ k < W.heap.size
  only : Only (fun _ => False) w W
theorem Pw.kept {S : Nat → Prop} {w W W' : World} {p d l : Nat} {F : Nat → Prop} {t fl : Nat} {C K : Nat → Option Pg} (h : Pw w W p d l F t fl C K) (ho : Only S W W') (hS : ∀ k, F k → ¬ S k) (hw : Only (fun _ => False) w W') : Pw w W' p d l F t fl C K := by
  obtain ⟨fb, mb, g, m, P, D, G, v7, v8, T, h1, h2, h3, h4, h5⟩ := h.ex
  exact ⟨⟨fb, mb, g, m, P, D, G, v7, v8, _, h1.kept ho (fun k hk => hS k (h5 k hk)) hw, h2, h3, h4, fun k hk => h5 k (foot_kept k hk)⟩, fun k hk => ⟨(h.lt k hk).1, Nat.lt_of_lt_of_le (h.lt k hk).2 ho.size⟩, hw⟩
theorem Pw.more {w W W' : World} {p d l : Nat} {F : Nat → Prop} {t fl : Nat} {C K : Nat → Option Pg} (h : Pw w W p d l F t fl C K) (ho : Only (fun _ => False) W W') : Pw w W' p d l F t fl C K := h.kept ho (fun _ _ e => e) (o2 h.only ho)
/-- What a call leaves. -/
def Pn (w W W' : World) (p d l : Nat) (F : Nat → Prop) (t : Nat) (C : Nat → Option Pg) : Prop := ∃ F' fl K, Pw w W' p d l F' t fl C K ∧ (∀ k, F' k → F k ∨ W.heap.size ≤ k) ∧ Only F W W'
theorem pn_mk {w W W' : World} {p d l : Nat} {F : Nat → Prop} {t t' fl : Nat} {C C' K K' : Nat → Option Pg} (h : Pw w W p d l F t fl C K) {fb mb mb' g m : Nat} {P' : Pl} {D' : Dk} {G' : Lg} {v7 v8 v7' v8' : Value} {T T' : Nat → Prop} (hf : ∀ k, foot W p d l fb mb g m v7 v8 T k → F k) (hS : Sw w W' p d l fb mb' g m P' D' G' v7' v8' T') (hI : Inv 2000 P' D' G' C' K') (hP : P'.frm = 200 ∧ P'.pages = 12) (hG : G'.tail = t' ∧ G'.n = 200 ∧ G'.frm = 0 ∧ G'.start = 1 ∧ G'.reserved = 0 ∧ G'.places.length ≤ t' ∧ G'.stream.length ≤ t')
    (hT : ∀ k, T' k → T k) (hm : mb' = mb ∨ W.heap.size ≤ mb') (h7 : ∀ k, v7'.ownBlock = some k → v7.ownBlock = some k ∨ W.heap.size ≤ k) (h8 : ∀ k, v8'.ownBlock = some k → v8.ownBlock = some k ∨ W.heap.size ≤ k) {S : Nat → Prop} (ho : Only S W W') (hSf : ∀ k, S k → foot W p d l fb mb g m v7 v8 T k) : Pn w W W' p d l F t' C' := by
  have hsz := h.only.size
  have hsz' := ho.size
  refine ⟨fun k => F k ∨ W.heap.size ≤ k ∧ k < W'.heap.size, G'.flushed, K', ⟨⟨fb, mb', g, m, P', D', G', v7', v8', T', hS, hI, hP, ⟨hG.1, rfl, hG.2⟩, fun k hk => ?_⟩, fun k hk => ?_, hS.only⟩, fun k hk => ?_, ho.mono (fun k _ hk => hf k (hSf k hk))⟩
  · rcases foot_back hT hm h7 h8 k hk with e | e
    · exact .inl (hf k e)
    · exact .inr ⟨e, hS.foot_lt k hk⟩
  · rcases hk with e | e
    · have := h.lt k e; omega
    · omega
  · rcases hk with e | e
    · exact .inl e
    · exact .inr e.1
theorem pw_append {w W : World} {p d l : Nat} {F : Nat → Prop} {t fl : Nat} {C K : Nat → Option Pg} (h : Pw w W p d l F t fl C K) (ht : t ≤ 9000) :
    Calls Tryz.prog 18 #[.pointer (some ⟨l, 0, none⟩), .agg (nt.cells Loc.none)] W fun e w' => e = .returned (.tuple #[.int .i64 (t : Int), .int .i64 0]) ∧ Pn w W w' p d l F (t + (nt.at_ (t : Int)).enc.length) C := by
  obtain ⟨fb, mb, g, m, P, D, G, v7, v8, T, h1, h2, h3, ⟨g1, g2, g3, g4, g5, g6, g7, g8⟩, h5⟩ := h.ex
  have hn := nt_len t
  have hok := h1.ok
  have ht1 : 1 ≤ t := by have := hok.st; have := hok.tl; omega
  have hsl := hok.ln
  have htb := h1.tb
  have hx := sw_append2 h1 (by rw [g1]; exact nt_valid t ht1 (by omega)) (by rw [g1]; unfold Lg.room; rw [g1, g3, g5, g6]; omega) (by omega)
    (by
      rw [g1]
      refine ⟨hok.st, ?_, ?_, ?_, hok.n4, hok.nb, hok.fb, hok.rs, ?_⟩
      · show G.start ≤ G.tail + _; have := hok.tl; omega
      · show G.tail + (nt.at_ (t : Int)).enc.length < _; omega
      · show G.flushed ≤ G.tail + _; have := hok.fl; omega
      · show (G.stream ++ (nt.at_ (t : Int)).enc).length < _
        rw [List.length_append]
        omega) (by rw [g1]; show G.tail + (nt.at_ (t : Int)).enc.length < _; omega)
  rw [g1] at hx
  refine Calls.mono hx ?_
  rintro e w' ⟨he, v7', v8', T', hS, hT, k7, k8, ho⟩
  refine ⟨he, pn_mk h h5 hS (inv_app h2 rfl rfl (by show G.tail ≤ G.tail + _; omega) rfl) h3 ⟨by show G.tail + _ = _; rw [g1], g3, g4, g5, g6, by show (G.places ++ [_]).length ≤ _; rw [List.length_append]; simp; omega, by show (G.stream ++ _).length ≤ _; rw [List.length_append]; omega⟩ hT (.inl rfl) k7 k8 ho (fun k hk => ?_)⟩
  rcases hk with e | e | e
  · exact .inr (.inl e)
  · exact .inr (.inr (.inr (.inr (.inr (.inl e.symm)))))
  · exact .inr (.inr (.inr (.inr (.inr (.inr (.inl e.symm))))))
/-- The pages behind a Set. -/
noncomputable def setP (C : Nat → Option Pg) (n : Nat) (body : Pg) : Nat → Option Pg := if body.setC = 0 then (fun k => if k = n then some body else C k) else C
theorem pw_set {w W : World} {p d l : Nat} {F : Nat → Prop} {t fl : Nat} {C K : Nat → Option Pg} (h : Pw w W p d l F t fl C K) (n : Nat) (hn : n < 12) (pick : Int) (body : Pg) (Bb : Nat) (ab : Option Addr) (cb : Nat) (hS : Strs W Bb ab body.items) (hB : 0 < body.items.length → ¬ F Bb) (hh : body.high.size ≤ 140737488355328) (hl : body.lsn < (t : Int)) :
    Calls Tryz.prog 21 #[.pointer (some ⟨p, 0, none⟩), .int .i64 (n : Int), .agg #[.int .i64 body.lsn, .int .i64 body.kind, .int .i64 body.level, .int .i64 body.right, .string body.high, .slice ab body.items.length cb], .int .i64 pick] W fun e w' =>
      e = .returned (.int .i64 body.setC) ∧ Pn w W w' p d l F t (setP C n body) := by
  obtain ⟨fb, mb, g, m, P, D, G, v7, v8, T, h1, h2, h3, ⟨g1, g2, g3, g4, g5, g6, g7, g8⟩, h5⟩ := h.ex
  have htb := h1.tb
  have hl2 : body.lsn < 9223372036854775808 := by omega
  have hn' : n < P.pages := by omega
  obtain ⟨B, ao, cp, hv, hs⟩ := h1.sh
  refine (oset_any W p d l fb mb g m P D G B ao cp v8 T hs h1.pok (n : Int) pick body Bb ab cb hS (fun h0 => ?_) hh hl2).mono ?_
  · have hF := hB h0
    exact ⟨fun e => hF (h5 _ (.inl e)), fun e => hF (h5 _ (.inr (.inl e))), fun e => hF (h5 _ (.inr (.inr (.inl e)))), fun e => hF (h5 _ (.inr (.inr (.inr (.inl e))))), fun e => hF (h5 _ (.inr (.inr (.inr (.inr (.inl e))))))⟩
  · rintro e w' ⟨rfl, hr⟩
    have ho := hr.choose_spec.choose_spec.2.2.2.2
    have hal := alike_set P D G (n : Int) body pick
    obtain ⟨mb', T', hS', hT, hm⟩ := h1.back2 hv hr (ok_set h1.pok _ _ _ _ _) hal
    obtain ⟨t1, t2, t3, t4, t5, t6, t7⟩ := alike_tail hal
    have hG : (P.set D G (n : Int) body pick).G.tail = t ∧ (P.set D G (n : Int) body pick).G.n = 200 ∧ (P.set D G (n : Int) body pick).G.frm = 0 ∧ (P.set D G (n : Int) body pick).G.start = 1 ∧ (P.set D G (n : Int) body pick).G.reserved = 0 ∧ (P.set D G (n : Int) body pick).G.places.length ≤ t ∧ (P.set D G (n : Int) body pick).G.stream.length ≤ t := ⟨t1.trans g1, t2.trans g3, t3.trans g4, t4.trans g5, t5.trans g6, by rw [t6]; exact g7, by rw [t7]; exact g8⟩
    by_cases hb : body.setC = 0
    · obtain ⟨a1, a2, K', a3⟩ := inv_set h2 n hn' body pick hb hl2 (by omega)
      refine ⟨by rw [a1, hb], pn_mk h h5 hS' (by unfold setP; rw [if_pos hb]; exact a3) ⟨a2.frm.trans h3.1, a2.pages.trans h3.2⟩ hG hT hm (fun k e => .inl e) (fun k e => .inl e) ho (fun k hk => foot_pw k hk)⟩
    · have a := set_bad (D := D) (G := G) n hn' body pick hb
      refine ⟨by rw [a], pn_mk h h5 hS' (K' := K) (by unfold setP; rw [if_neg hb, a]; exact h2) (by rw [a]; exact h3) hG hT hm (fun k e => .inl e) (fun k e => .inl e) ho (fun k hk => foot_pw k hk)⟩
theorem pw_fetch {w W : World} {p d l : Nat} {F : Nat → Prop} {t fl : Nat} {C K : Nat → Option Pg} (h : Pw w W p d l F t fl C K) (n : Nat) (hn : n < 12) (pick : Int) :
    Calls Tryz.prog 15 #[.pointer (some ⟨p, 0, none⟩), .int .i64 (n : Int), .int .i64 pick] W fun e w' =>
      ∃ Bq aq cq, e = .returned (.tuple #[.agg #[.int .i64 (fetP (C n)).lsn, .int .i64 (fetP (C n)).kind, .int .i64 (fetP (C n)).level, .int .i64 (fetP (C n)).right, .string (fetP (C n)).high, .slice aq (fetP (C n)).items.length cq], .int .i64 (fetC (C n))]) ∧ Strs w' Bq aq (fetP (C n)).items ∧ Fit aq (fetP (C n)).items.length cq ∧ (0 < (fetP (C n)).items.length → W.heap.size ≤ Bq) ∧ Pn w W w' p d l F t C := by
  obtain ⟨fb, mb, g, m, P, D, G, v7, v8, T, h1, h2, h3, ⟨g1, g2, g3, g4, g5, g6, g7, g8⟩, h5⟩ := h.ex
  obtain ⟨B, ao, cp, hv, hs⟩ := h1.sh
  obtain ⟨a1, a2, a3, K', a4⟩ := inv_fetch h2 n (by omega) pick
  refine (ofetch_any W p d l fb mb g m P D G B ao cp v8 T hs h1.pok (n : Int) pick).mono ?_
  rintro e w' ⟨Bq, aq, cq, rfl, b1, b2, b3, hr⟩
  have ho := hr.choose_spec.choose_spec.2.2.2.2
  have hal := alike_fetch P D G (n : Int) pick
  obtain ⟨mb', T', hS', hT, hm⟩ := h1.back2 hv hr (ok_fetch h1.pok _ _ _ _) hal
  obtain ⟨t1, t2, t3, t4, t5, t6, t7⟩ := alike_tail hal
  have hG : (P.fetch D G (n : Int) pick).1.G.tail = t ∧ (P.fetch D G (n : Int) pick).1.G.n = 200 ∧ (P.fetch D G (n : Int) pick).1.G.frm = 0 ∧ (P.fetch D G (n : Int) pick).1.G.start = 1 ∧ (P.fetch D G (n : Int) pick).1.G.reserved = 0 ∧ (P.fetch D G (n : Int) pick).1.G.places.length ≤ t ∧ (P.fetch D G (n : Int) pick).1.G.stream.length ≤ t := ⟨t1.trans g1, t2.trans g3, t3.trans g4, t4.trans g5, t5.trans g6, by rw [t6]; exact g7, by rw [t7]; exact g8⟩
  rw [a2] at b1 b2 b3
  rw [a1, a2]
  exact ⟨Bq, aq, cq, rfl, b1, b2, b3, pn_mk h h5 hS' a4 ⟨a3.frm.trans h3.1, a3.pages.trans h3.2⟩ hG hT hm (fun k e => .inl e) (fun k e => .inl e) ho (fun k hk => foot_pw k hk)⟩
theorem pw_write {w W : World} {p d l : Nat} {F : Nat → Prop} {t fl : Nat} {C K : Nat → Option Pg} (h : Pw w W p d l F t fl C K) (n : Nat) (hn : n < 12) :
    Calls Tryz.prog 23 #[.pointer (some ⟨p, 0, none⟩), .int .i64 (n : Int)] W fun e w' => e = .returned (.int .i64 0) ∧ Pn w W w' p d l F t C := by
  obtain ⟨fb, mb, g, m, P, D, G, v7, v8, T, h1, h2, h3, ⟨g1, g2, g3, g4, g5, g6, g7, g8⟩, h5⟩ := h.ex
  obtain ⟨B, ao, cp, hv, hs⟩ := h1.sh
  obtain ⟨a1, a3, K', a4⟩ := inv_writeN h2 n (by omega)
  refine (oWrite_any W p d l fb mb g m P D G B ao cp v8 T hs h1.pok (n : Int)).mono ?_
  rintro e w' ⟨rfl, hr⟩
  have ho := hr.choose_spec.choose_spec.2.2.2.2
  have hal := alike_writeN P D G (n : Int)
  obtain ⟨mb', T', hS', hT, hm⟩ := h1.back2 hv hr (ok_writeN h1.pok _ _ _) hal
  obtain ⟨t1, t2, t3, t4, t5, t6, t7⟩ := alike_tail hal
  exact ⟨by rw [a1], pn_mk h h5 hS' a4 ⟨a3.frm.trans h3.1, a3.pages.trans h3.2⟩ ⟨t1.trans g1, t2.trans g3, t3.trans g4, t4.trans g5, t5.trans g6, by rw [t6]; exact g7, by rw [t7]; exact g8⟩ hT hm (fun k e => .inl e) (fun k e => .inl e) ho (fun k hk => foot_pw k hk)⟩
end Go.Proofs.YtbfafijfhaejmaaGreatDoor

namespace Go.Proofs.YtbfafijfhaejmaaGreatDoor
open Go.RowKit

def gn : Lg := (Lg.new 0 10).app (nt.at_ 1).enc
theorem gn_tail : gn.tail = 25 := by show 1 + (nt.at_ 1).enc.length = 25; rw [nt1_len]
theorem gn_ok : gn.Ok := by
  have h := gn_tail
  have hl : gn.stream.length = 24 := by show ([] ++ (nt.at_ 1).enc).length = 24; rw [List.nil_append, nt1_len]
  refine ⟨by decide, ?_, ?_, ?_, by decide, by decide, by decide, by decide, ?_⟩
  · show 1 ≤ gn.tail; omega
  · omega
  · show 1 ≤ gn.tail; omega
  · omega
theorem qa_disk (w : World) : Calls Tryz.prog 8 #[.int .i64 60] w fun e w' => ∃ d g m, e = .returned (.tuple #[.pointer (some ⟨d, 0, none⟩), .int .i64 0]) ∧ Dsk w' d g m (Dk.new 60) ∧ Only (fun _ => False) w w' ∧ (∀ k, own d g m k → w.heap.size ≤ k ∧ k < w'.heap.size) := st_disk w 60 (by omega) (by omega)
theorem qa_log {w W : World} {d g m : Nat} (hD : Dsk W d g m (Dk.new 60)) (ho : Only (fun _ => False) w W) (hk : ∀ k, own d g m k → w.heap.size ≤ k ∧ k < W.heap.size) :
    Calls Tryz.prog 10 #[.pointer (some ⟨d, 0, none⟩), .int .i64 0, .int .i64 10] W fun e w' => ∃ l D, e = .returned (.tuple #[.pointer (some ⟨l, 0, none⟩), .int .i64 0]) ∧ D.Wk 60 (fun _ => zs64) ∧ Dsk w' d g m D ∧ LogOw w' l d (Lg.new 0 10) w.heap.size (.slice none 0 0) (.slice none 0 0) ∧ ¬ own d g m l ∧ w.heap.size ≤ l ∧ Only (fun _ => False) w w' ∧ (∀ k, own d g m k → w.heap.size ≤ k ∧ k < w'.heap.size) :=
  st_log (N := 60) (n := 10) hD ho hk (by omega) (by omega)
theorem qa_pool {w W : World} {d g m l : Nat} {D : Dk} (hW : D.Wk 60 (fun _ => zs64)) (hD : Dsk W d g m D) (hL : LogOw W l d (Lg.new 0 10) w.heap.size (.slice none 0 0) (.slice none 0 0)) (hnl : ¬ own d g m l) (hlw : w.heap.size ≤ l) (ho : Only (fun _ => False) w W) (hk : ∀ k, own d g m k → w.heap.size ≤ k ∧ k < W.heap.size) :
    Calls Tryz.prog 12 #[.pointer (some ⟨d, 0, none⟩), .pointer (some ⟨l, 0, none⟩), .int .i64 10, .int .i64 4, .int .i64 1] W fun e w' => ∃ p fb mb T, e = .returned (.tuple #[.pointer (some ⟨p, 0, none⟩), .int .i64 0]) ∧ Sw w w' p d l fb mb g m (Pl.new 10 4 1) D (Lg.new 0 10) (.slice none 0 0) (.slice none 0 0) T :=
  st_pool (N := 60) (n := 10) (pages := 4) (frames := 1) hW hD hL hnl hlw ho hk (by omega) (by omega) (by omega) (by omega) (by omega) (by omega) (by omega)
theorem qa_append {w W : World} {p d l fb mb g m : Nat} {P : Pl} {D : Dk} {v7 v8 : Value} {T : Nat → Prop} (h : Sw w W p d l fb mb g m P D (Lg.new 0 10) v7 v8 T) :
    Calls Tryz.prog 18 #[.pointer (some ⟨l, 0, none⟩), .agg (nt.cells Loc.none)] W fun e w' => e = .returned (.tuple #[.int .i64 1, .int .i64 0]) ∧ ∃ v7' v8' T', Sw w w' p d l fb mb g m P D gn v7' v8' T' :=
  sw_append h nt1_valid (by show (nt.at_ 1).enc.length ≤ 432; rw [nt1_len]; omega) (by show 0 ≤ _; omega) gn_ok (by show gn.tail < _; rw [gn_tail]; omega)
theorem qa_set2 {w W : World} {p d l fb mb g m : Nat} {D : Dk} {v7 v8 : Value} {T : Nat → Prop} (h : Sw w W p d l fb mb g m (Pl.new 10 4 1) D gn v7 v8 T) (B : Nat) (hS : Strs W B (some ⟨B, 0, none⟩) [⟨#[120]⟩]) (hB : ¬ own d g m B ∧ B ≠ l ∧ B ≠ p ∧ B ≠ fb ∧ B ≠ mb) :
    Calls Tryz.prog 21 #[.pointer (some ⟨p, 0, none⟩), .int .i64 2, .agg #[.int .i64 1, .int .i64 2, .int .i64 0, .int .i64 0, .string ⟨#[]⟩, .slice (some ⟨B, 0, none⟩) 1 1], .int .i64 0] W fun e w' =>
      e = .returned (.int .i64 0) ∧ ∃ mb' T', Sw w w' p d l fb mb' g m aP1 D gn v7 v8 T' := by
  have hx := sw_set h 2 0 bX B (some ⟨B, 0, none⟩) 1 hS (fun _ => hB) (by decide) (by decide)
  rw [ax_one] at hx
  exact Calls.mono hx fun e w' hx => ⟨hx.1, hx.2.1⟩
theorem Sw.fresh {w W : World} {p d l fb mb g m : Nat} {P : Pl} {D : Dk} {G : Lg} {v7 v8 : Value} {T : Nat → Prop} (h : Sw w W p d l fb mb g m P D G v7 v8 T) (B : Nat) (hB : W.heap.size ≤ B) : ¬ own d g m B ∧ B ≠ l ∧ B ≠ p ∧ B ≠ fb ∧ B ≠ mb := by
  have hplt := h.pool.lt
  have hflt := h.pool.flt
  have hmlt := h.pool.map.lt
  have hll := h.log.lt
  have := h.dsk.lt
  have := h.dsk.old.lt
  have := h.dsk.map.lt
  refine ⟨fun e => ?_, by omega, by omega, by omega, by omega⟩
  rcases e with e | e | e <;> omega
theorem strs_one (w : World) (s : ByteArray) (t : Nat) (hs : s.size ≤ 140737488355328) : Strs (w.alloc (.cells #[.string s] t)) w.heap.size (some ⟨w.heap.size, 0, none⟩) [s] := by
  refine ⟨fun _ => ⟨0, rfl, fun j hj => ?_⟩, fun _ => by simp, by simp, fun x hx => ?_⟩
  · have : j = 0 := by simpa using hj
    subst this
    simp
  · simp at hx; subst hx; exact hs
theorem qa_set3 {w W : World} {p d l fb mb g m : Nat} {D : Dk} {v7 v8 : Value} {T : Nat → Prop} (h : Sw w W p d l fb mb g m aP1 D gn v7 v8 T) (hD : D.Wk 60 (fun _ => zs64)) :
    Calls Tryz.prog 21 #[.pointer (some ⟨p, 0, none⟩), .int .i64 3, .agg #[.int .i64 1, .int .i64 2, .int .i64 0, .int .i64 0, .string ⟨#[]⟩, .slice none 0 0], .int .i64 0] W fun e w' =>
      e = .returned (.int .i64 0) ∧ ∃ mb' T' P' D' G' f, Sw w w' p d l fb mb' g m P' D' G' v7 v8 T' ∧ P'.fs = [⟨bY, 3, true⟩] ∧ (P'.ow 2).isSome = true ∧ P'.frm = 10 ∧ P'.pages = 4 ∧ G' = { gn with flushed := gn.tail } ∧ D'.Wk 60 f ∧ ∀ i, i < 8 → f (26 + i) = (bX.enc.drop (64 * i)).take 64 := by
  obtain ⟨a1, a2, a3, a4, a5, a6, f, a7, a8⟩ := ax_two (G := gn) hD rfl rfl rfl
  have hx := sw_set h 3 0 bY 0 none 0 (Strs.nil _ _ _) (fun h0 => by cases h0) (by decide) (by decide)
  rw [a1] at hx
  refine Calls.mono hx ?_
  rintro e w' ⟨he, ⟨mb', T', hs⟩, _⟩
  exact ⟨he, mb', T', _, _, _, f, hs, a2, a3, a4, a5, a6, a7, a8⟩
theorem qa_fetch {w W : World} {p d l fb mb g m : Nat} {P : Pl} {D : Dk} {G : Lg} {v7 v8 : Value} {T : Nat → Prop} {f : Nat → List UInt8} (h : Sw w W p d l fb mb g m P D G v7 v8 T) (h1 : P.fs = [⟨bY, 3, true⟩]) (h2 : (P.ow 2).isSome = true) (h3 : P.frm = 10) (h4 : P.pages = 4) (h5 : G = { gn with flushed := gn.tail }) (h6 : D.Wk 60 f) (h7 : ∀ i, i < 8 → f (26 + i) = (bX.enc.drop (64 * i)).take 64) :
    Calls Tryz.prog 15 #[.pointer (some ⟨p, 0, none⟩), .int .i64 2, .int .i64 0] W fun e w' =>
      ∃ Bq aq cq, e = .returned (.tuple #[.agg #[.int .i64 1, .int .i64 2, .int .i64 0, .int .i64 0, .string ⟨#[]⟩, .slice aq 1 cq], .int .i64 0]) ∧ Strs w' Bq aq [⟨#[120]⟩] ∧ Fit aq 1 cq ∧ ∃ mb' T' P' D', Sw w w' p d l fb mb' g m P' D' { gn with flushed := gn.tail } v7 v8 T' ∧ (P'.ow 2).isSome = true ∧ P'.pages = 4 := by
  subst h5
  obtain ⟨a1, a2, a3, a4, a5⟩ := ax_three (G := { gn with flushed := gn.tail }) h1 h3 h4 h6 h7 (by show 1 < gn.tail; rw [gn_tail]; omega)
  have hx := sw_fetch h 2 0 bX a1
  rw [a2] at hx
  refine Calls.mono hx ?_
  rintro e w' ⟨Bq, aq, cq, he, b1, b2, _, ⟨mb', T', hs⟩, _⟩
  rw [a5] at hs
  exact ⟨Bq, aq, cq, he, b1, b2, mb', T', _, _, hs, by rw [a3]; exact h2, a4⟩
theorem qa_flushed {w W : World} {p d l fb mb g m : Nat} {P : Pl} {D : Dk} {G : Lg} {v7 v8 : Value} {T : Nat → Prop} (h : Sw w W p d l fb mb g m P D G v7 v8 T) : Calls Tryz.prog 42 #[.pointer (some ⟨l, 0, none⟩)] W fun e w' => e = .returned (.int .i64 (G.flushed : Int)) ∧ w' = W := by
  obtain ⟨B, ao, cp, hv, hs⟩ := h.sh
  exact lflushed_any W l d G B ao cp v8 hs.log
theorem qa_tail {w W : World} {p d l fb mb g m : Nat} {P : Pl} {D : Dk} {G : Lg} {v7 v8 : Value} {T : Nat → Prop} (h : Sw w W p d l fb mb g m P D G v7 v8 T) : Calls Tryz.prog 56 #[.pointer (some ⟨l, 0, none⟩)] W fun e w' => e = .returned (.int .i64 (G.tail : Int)) ∧ w' = W := by
  have c4 := h.log.c4
  clear h
  go_enter Tryz.func56, Tryz.ntmps56
  go_wp2
  go_ret
  exact ⟨rfl, rfl⟩
theorem qa_owes {w W : World} {p d l fb mb g m : Nat} {P : Pl} {D : Dk} {G : Lg} {v7 v8 : Value} {T : Nat → Prop} (h : Sw w W p d l fb mb g m P D G v7 v8 T) (h1 : (P.ow 2).isSome = true) (h2 : P.pages = 4) : Calls Tryz.prog 40 #[.pointer (some ⟨p, 0, none⟩), .int .i64 2] W fun e w' => e = .returned (.bool true) ∧ w' = W := by
  have hx := owes_any W p d l fb mb P T h.pool 2 (by omega)
  rw [h1] at hx
  exact hx
end Go.Proofs.YtbfafijfhaejmaaGreatDoor

namespace Go.Proofs.YtbfafijfhaejmaaGreatDoor
open Go.RowKit

set_option maxRecDepth 100000 in
set_option maxHeartbeats 1600000 in
theorem oawake_any (w : World) : Calls Tryz.prog 14 #[] w fun e w' => e = .returned (.bool true) ∧ Only (fun _ => False) w w' := by
  obtain ⟨V, hV⟩ : ∃ V, Value.agg (nt.cells Loc.none) = V := ⟨_, rfl⟩
  have HN := hide (fun W => note_any W)
  have HA1 := hide (fun (W : World) p d l fb mb g m P D v7 v8 T (h : Sw w W p d l fb mb g m P D (Lg.new 0 10) v7 v8 T) => qa_append h)
  simp only [hV] at HN HA1
  clear hV
  go_enter Tryz.func14, Tryz.ntmps14
  go_wp2_with fail
  refine (qa_disk w).mono ?_
  rintro e w1 ⟨d, g, m, rfl, hD, ho, hk⟩
  have HF := hide (qa_log hD ho hk)
  clear hD ho hk
  go_wp2_with fail
  refine HF.out.mono ?_
  rintro e w2 ⟨l, D, rfl, hW, hD, hL, hnl, hlw, ho, hk⟩
  have HW := hide hW
  have HP := hide (qa_pool hW hD hL hnl hlw ho hk)
  clear hW hD hL hnl hlw ho hk HF
  go_wp2_with fail
  refine HP.out.mono ?_
  rintro e w3 ⟨p, fb, mb, T, rfl, hs⟩
  have HS := hide hs
  clear hs HP
  go_wp2_with fail
  refine (HN.out w3).mono ?_
  rintro e w4 ⟨rfl, ho⟩
  have HA := hide (HA1.out _ _ _ _ _ _ _ _ _ _ _ _ _ (HS.out.more ho))
  clear ho HS
  go_wp2_with fail
  refine HA.out.mono ?_
  rintro e w5 ⟨rfl, v7, v8, T5, hs⟩
  have HS := hide hs
  clear hs HA HA1 HN
  go_wp2_with fail
  refine Calls.mono (qa_set2 (HS.out.more (onlyA w5 (.cells #[.string ⟨#[120]⟩] 9))) w5.heap.size (strs_one w5 _ _ (by decide)) (HS.out.fresh _ (Nat.le_refl _))) ?_
  rintro e w6 ⟨rfl, mb6, T6, hs⟩
  have HT := hide (qa_set3 hs HW.out)
  clear hs HS HW
  go_wp2_with fail
  refine HT.out.mono ?_
  rintro e w7 ⟨rfl, mb7, T7, P7, D7, G7, f, hs, h1, h2, h3, h4, h5, h6, h7⟩
  have HQ := hide (qa_fetch hs h1 h2 h3 h4 h5 h6 h7)
  clear hs h1 h2 h3 h4 h5 h6 h7 HT
  go_wp2_with fail
  refine HQ.out.mono ?_
  rintro e w8 ⟨Bq, aq, cq, rfl, hS, hF, mb8, T8, P8, D8, hs, h2, h4⟩
  have HS8 := hide hs
  have HStr := hide hS
  have H2 := hide h2
  have H4 := hide h4
  clear hS hF hs h2 h4 HQ
  go_upto_region 14 with fail
  obtain ⟨W8, hW8⟩ : ∃ W8, w8.alloc (.cells #[.int .i64 1, .int .i64 2, .int .i64 0, .int .i64 0, .string ⟨#[]⟩, .slice aq 1 cq] 45) = W8 := ⟨_, rfl⟩
  have HP8 := hide (Pag.new w8 (.int .i64 1) (.int .i64 2) (.int .i64 0) (.int .i64 0) (.string ⟨#[]⟩) (.slice aq 1 cq))
  have hO8 := onlyA w8 (.cells #[.int .i64 1, .int .i64 2, .int .i64 0, .int .i64 0, .string ⟨#[]⟩, .slice aq 1 cq] 45)
  rw [hW8] at HP8 hO8 ⊢
  clear hW8
  have HS9 := hide (HS8.out.more hO8)
  obtain ⟨o, rfl, hc⟩ := HStr.out.at_ (by decide)
  have hx : W8.cell? ⟨Bq, o, none⟩ = some (.string ⟨#[120]⟩) := (hO8.cell (p := ⟨Bq, o, none⟩) (HStr.out.lt (by decide)) (fun e => e)).trans (hc 0 (by decide))
  have HFL := hide (qa_flushed HS9.out)
  have HTL := hide (qa_tail HS9.out)
  have HOW := hide (qa_owes HS9.out H2.out H4.out)
  have HO := hide HS9.out.only
  obtain ⟨tl, htl⟩ : ∃ tl : Nat, gn.tail = tl := ⟨_, rfl⟩
  simp only [htl] at HFL HTL
  clear hO8 HS8 HStr hc H2 H4 htl HS9
  obtain ⟨p0, p1, p2, p3, p4, p5, _⟩ := HP8.out
  go_wp2_with fail
  refine HFL.out.mono ?_
  rintro e w9 ⟨rfl, hw9⟩
  obtain rfl := hw9.symm
  clear hw9
  go_wp2_with fail
  refine HTL.out.mono ?_
  rintro e w9 ⟨rfl, hw9⟩
  obtain rfl := hw9.symm
  clear hw9
  go_wp2_with fail
  refine HOW.out.mono ?_
  rintro e w9 ⟨rfl, hw9⟩
  obtain rfl := hw9.symm
  clear hw9
  go_wp2_with fail
  go_ret
  exact ⟨rfl, HO.out⟩
end Go.Proofs.YtbfafijfhaejmaaGreatDoor
