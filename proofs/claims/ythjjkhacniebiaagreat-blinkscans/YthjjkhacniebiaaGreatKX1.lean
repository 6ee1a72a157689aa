/- Lists of bools and of numbers that came in, opened. -/
import Derived.Test.YthjjkhacniebiaaGreatK50
import Derived.Test.YthjjkhacniebiaaGreatK14
import Derived.ProofKit
import Derived.OpenShut
import Derived.ShutString
import Derived.SizedLaws
import Derived.Deep.Strs
import Derived.Deep.Grids
namespace Go.Proofs.YthjjkhacniebiaaGreat
open Go.RowKit

/-- A list's own block is another one now. -/
theorem Fm.rek {w w' : World} {f g cap : Nat} {zs : List Pz} {v v' : Value} (h : Fm (fun k => v.ownBlock = some k) w f g cap zs) (ho : Only (fun k => v.ownBlock = some k) w w') (hv : ∀ k, v'.ownBlock = some k → (v.ownBlock = some k ∨ w.heap.size ≤ k) ∧ k < w'.heap.size) (hf : v.ownBlock ≠ some f) (hg : v.ownBlock ≠ some g) : Fm (fun k => v'.ownBlock = some k) w' f g cap zs := by
  refine ⟨(ho.cell (p := ⟨f, 0, none⟩) h.flt hf).trans h.cell, (ho.frozen (p := ⟨f, 0, none⟩) h.flt hf).trans h.fr, Nat.lt_of_lt_of_le h.flt ho.size, own_keptJ h.row ho (fun b hb => ?_), h.ne, fun z hz => ?_, fun k hk => (hv k hk).2⟩
  · have e : b = g := by
      have : some g = some b := hb
      exact (Option.some.inj this).symm
    rw [e]
    exact hg
  · obtain ⟨⟨B, h1, h2⟩, h3⟩ := h.each z hz
    refine ⟨⟨B, h1.kept ho (fun h0 => (h2 h0).2.2), fun h0 => ⟨(h2 h0).1, (h2 h0).2.1, fun q => ?_⟩⟩, h3⟩
    rcases (hv B q).1 with k | k
    · exact (h2 h0).2.2 k
    · have := h1.lt h0
      omega
structure Sa (w W : World) (f g cap : Nat) (zs : List Pz) (N : Nat) (F : Nat → Nd) (lo : Nat → En) (A : En → Prop) (v : Value) (L : List En) : Prop where
  sn : Sn (fun k => v.ownBlock = some k) w W f g cap zs N F lo A
  ets : Ets W w.heap.size v L
  nf : v.ownBlock ≠ some f
  ng : v.ownBlock ≠ some g
variable {w W : World} {f g cap : Nat} {zs : List Pz} {N : Nat} {F : Nat → Nd} {lo : Nat → En} {A : En → Prop} {v : Value} {L : List En}
theorem Sa.more (h : Sa w W f g cap zs N F lo A v L) {W' : World} (ho : Only (fun _ => False) W W') : Sa w W' f g cap zs N F lo A v L := ⟨h.sn.more ho, h.ets.more ho, h.nf, h.ng⟩
theorem Sa.lt (h : Sa w W f g cap zs N F lo A v L) : ∀ k, v.ownBlock = some k → k < W.heap.size := h.sn.fm.kk
/-- An entry comes in. -/
theorem sa_enters (h : Sa w W f g cap zs N F lo A v L) {i : Nat} (hb : Bd N F i) (hi : i ≤ 300) {e : En} (he : e.ok = true) (t : Bool) :
    Calls Tryz.prog 17 #[.pointer (some ⟨f, 0, none⟩), .int .i64 0, .agg #[.string e.key, .int .i64 e.page, .int .i64 e.slot], .string e.enc, .bool t] W fun x w' => x = .returned (.bool true) ∧ ∃ g' cap' zs' N' F' lo', Sa w w' f g' cap' zs' N' F' lo' (fun x => A x ∨ x = e) v L ∧ Bd N' F' (i + 1) ∧ Only (fun k => k = f ∨ k = g) W w' := by
  refine (sn_enters h.sn hb hi he t).mono ?_
  rintro x w' ⟨rfl, g', cap', zs', N', F', lo', q1, q2, q3, q4⟩
  refine ⟨rfl, g', cap', zs', N', F', lo', ⟨q1, h.ets.kept q3 (fun k hk => ?_), h.nf, ?_⟩, q2, q3⟩
  · rintro (rfl | rfl)
    · exact h.nf hk
    · exact h.ng hk
  · intro hk
    rcases q4 with k | k
    · rw [k] at hk
      exact h.ng hk
    · have := h.lt g' hk
      omega
/-- The law's list grows. -/
theorem Sa.app (h : Sa w W f g cap zs N F lo A v L) {W' : World} {v' : Value} {L' : List En} (ho : Only (fun k => v.ownBlock = some k) W W') (he : Ets W' w.heap.size v' L') (hv : v'.ownBlock = v.ownBlock ∨ v'.ownBlock = some W.heap.size) : Sa w W' f g cap zs N F lo A v' L' := by
  have hff := h.sn.fm.flt
  have hgg := (World.ownsRow.lt h.sn.fm.row g rfl).2
  have nw : ∀ k, k < W.heap.size → v.ownBlock ≠ some k → v'.ownBlock ≠ some k := by
    intro k hk hn q
    rcases hv with e | e
    · rw [e] at q; exact hn q
    · rw [e] at q
      injection q
      omega
  refine ⟨⟨h.sn.fm.rek ho (fun k hk => ⟨?_, (World.ownsRow.lt he k hk).2⟩) h.nf h.ng, h.sn.fz, h.sn.fs, h.sn.f0, h.sn.g0⟩, he, nw f hff h.nf, nw g hgg h.ng⟩
  rcases hv with e | e
  · rw [e] at hk
    exact .inl hk
  · rw [e] at hk
    injection hk with hk
    exact .inr (by omega)
end Go.Proofs.YthjjkhacniebiaaGreat

namespace Go.Proofs.YthjjkhacniebiaaGreat
open Go.RowKit

/-- Bools in memory. -/
structure Bls (w : World) (B : Nat) (ao : Option Addr) (l : List Bool) : Prop where
  at_ : 0 < l.length → ∃ o, ao = some ⟨B, o, none⟩ ∧ ∀ j (h : j < l.length), w.cell? ⟨B, o + j, none⟩ = some (.bool l[j])
  lt : 0 < l.length → B < w.heap.size
theorem Bls.kept {S : Nat → Prop} {w w' : World} {B : Nat} {ao : Option Addr} {l : List Bool} (h : Bls w B ao l) (ho : Only S w w') (hS : 0 < l.length → ¬ S B) : Bls w' B ao l := by
  refine ⟨fun h0 => ?_, fun h0 => Nat.lt_of_lt_of_le (h.lt h0) ho.size⟩
  obtain ⟨o, h1, h2⟩ := h.at_ h0
  exact ⟨o, h1, fun j hj => (ho.cell (p := ⟨B, o + j, none⟩) (h.lt h0) (hS h0)).trans (h2 j hj)⟩
theorem ld_bool {w : World} {p : Addr} {v : Value} (h : w.cell? p = some v) : (loadVar 4 p).run Tryz.prog w = .ok v w := by simp [loadVar, go_sem, h]
/-- Numbers in memory. -/
structure Its (w : World) (B : Nat) (ao : Option Addr) (l : List Int) : Prop where
  at_ : 0 < l.length → ∃ o, ao = some ⟨B, o, none⟩ ∧ ∀ j (h : j < l.length), w.cell? ⟨B, o + j, none⟩ = some (.int .i64 l[j])
  lt : 0 < l.length → B < w.heap.size
theorem Its.kept {S : Nat → Prop} {w w' : World} {B : Nat} {ao : Option Addr} {l : List Int} (h : Its w B ao l) (ho : Only S w w') (hS : 0 < l.length → ¬ S B) : Its w' B ao l := by
  refine ⟨fun h0 => ?_, fun h0 => Nat.lt_of_lt_of_le (h.lt h0) ho.size⟩
  obtain ⟨o, h1, h2⟩ := h.at_ h0
  exact ⟨o, h1, fun j hj => (ho.cell (p := ⟨B, o + j, none⟩) (h.lt h0) (hS h0)).trans (h2 j hj)⟩
theorem Ets.len {w : World} {base : Nat} {v : Value} {es : List En} (h : Ets w base v es) : es.length ≤ 9223372036854775807 := by
  rcases h.2 with ⟨_, h0⟩ | ⟨g, cap, cur, _, _, _, h1, h2, _⟩
  · omega
  · unfold maxLen at h2
    omega
theorem Ets.cap {w : World} {base : Nat} {A : Option Addr} {n C : Nat} {es : List En} (h : Ets w base (.slice A n C) es) : n ≤ C := by
  rcases h.2 with ⟨e, h0⟩ | ⟨g, cap, cur, e, _, _, h1, h2, _⟩
  · injection e with e1 e2 e3
    omega
  · injection e with e1 e2 e3
    omega
end Go.Proofs.YthjjkhacniebiaaGreat

namespace Go.Proofs.YthjjkhacniebiaaGreat
open Go.ChangeShapes Go.WideShapes Go.ChangeAt Go.RowKit Go.Deep

instance : Inhabited En := ⟨noE⟩
theorem Tryz.laidOut : laidOutB Tryz.prog = true := by kernel_rfl
theorem Tryz.cellsInt : Tryz.prog.cellsOf 3 = 1 := by kernel_rfl
theorem Tryz.cellsEnt : Tryz.prog.cellsOf 41 = 3 := by kernel_rfl
theorem Tryz.cellsStr : Tryz.prog.cellsOf 9 = 1 := by kernel_rfl
set_option maxRecDepth 100000 in
theorem open_entry {H : Type} {enc : TypeId × Value → H} {W : World} {base : Nat} {v : Value} {d : DataW H} {ps : List MemPlace} (hok : Value.okWide Tryz.prog W .any base 41 v) (h : DataW.Trod enc Tryz.prog W 0 (fun _ => true) true 41 v d ps) :
    ∃ T : En, v = .agg #[.string T.key, .int .i64 T.page, .int .i64 T.slot] ∧ (-9223372036854775808 ≤ T.page ∧ T.page < 9223372036854775808) ∧ (-9223372036854775808 ≤ T.slot ∧ T.slot < 9223372036854775808) := by
  obtain ⟨cs, rfl, hs⟩ := okWide_struct Tryz.underlying41 hok
  obtain ⟨fuel, hf⟩ := h
  rw [Tryz.cellsEnt] at hs
  obtain ⟨xs, n, _, hx, _, hlen, hfs⟩ := DataW.trod_struct Tryz.underlying41 hf
  obtain ⟨c0, c1, c2, rfl⟩ : ∃ c0 c1 c2, cs = #[c0, c1, c2] := by
    obtain ⟨l⟩ := cs
    match l, hs with
    | [c0, c1, c2], _ => exact ⟨c0, c1, c2, rfl⟩
  match xs, hlen with
  | [y0, y1, y2], _ =>
    have g0 := hfs 0 _ rfl
    have g1 := hfs 1 _ rfl
    have g2 := hfs 2 _ rfl
    simp [Value.cells, Tryz.cellsInt, Tryz.cellsStr] at g0 g1 g2
    obtain ⟨k, e0, _, _⟩ := DataW.trod_string Tryz.underlying9 g0
    obtain ⟨a, e1, _, w1⟩ := DataW.trod_int Tryz.underlying3 g1
    obtain ⟨b, e2, _, w2⟩ := DataW.trod_int Tryz.underlying3 g2
    simp at e0 e1 e2
    subst e0 e1 e2
    have b0 := bounds_i64 w1
    have b1 := bounds_i64 w2
    exact ⟨⟨k, a, b⟩, rfl, ⟨b0.1, by show a < _; omega⟩, ⟨b1.1, by show b < _; omega⟩⟩
theorem spotN {w : World} {a : Addr} {v : Value} (h : w.cell? a = some v) : a = ⟨a.block, a.off, none⟩ := by
  obtain ⟨b, o, s⟩ := a
  cases s with
  | none => rfl
  | some q =>
    unfold World.cell? at h
    split at h
    · simp at h
    · simp at h
set_option maxRecDepth 100000 in
theorem one_ent {H : Type} {enc : TypeId × Value → H} {w : World} {sp : Nat → Bool} {a : Addr} {i n : Nat} {D : DataW H} {Pl : List MemPlace}
    (h : ∃ cs', w.cells? 0 (a.add (i * Tryz.prog.cellsOf 41)) (Tryz.prog.cellsOf 41) = some cs' ∧ DataW.trod enc Tryz.prog w 0 sp true n 41 cs' = some (D, Pl)) :
    ∃ q : En, w.cell? (a.add (i * 3)) = some (.string q.key) ∧ w.cell? (a.add (i * 3 + 1)) = some (.int .i64 q.page) ∧ w.cell? (a.add (i * 3 + 2)) = some (.int .i64 q.slot) := by
  obtain ⟨cs', h1, h2⟩ := h
  rw [Tryz.cellsEnt] at h1
  obtain ⟨_, hlen, hcell⟩ := World.cells?_some h1
  obtain ⟨y0, y1, y2, m, hxy, _, g0, g1, g2⟩ := trod_struct3 Tryz.underlying41 h2
  match cs', hlen with
  | [v0, v1, v2], _ =>
    simp [Tryz.cellsInt, Tryz.cellsStr] at g0 g1 g2
    obtain ⟨s, e0, f0, ws⟩ := DataW.trod_string Tryz.underlying9 g0
    obtain ⟨k, e1, f1, wk⟩ := DataW.trod_int Tryz.underlying3 g1
    obtain ⟨z, e2, f2, wz⟩ := DataW.trod_int Tryz.underlying3 g2
    simp at e0 e1 e2
    subst e0; subst e1; subst e2
    have c0 := hcell 0 (by omega)
    have c1 := hcell 1 (by omega)
    have c2 := hcell 2 (by omega)
    rw [add_add] at c0 c1 c2
    exact ⟨⟨s, k, z⟩, by simpa using c0, by simpa using c1, by simpa using c2⟩
set_option maxRecDepth 100000 in
/-- A list of entries that came in. -/
theorem open_ents {H : Type} {enc : TypeId × Value → H} {W : World} {base : Nat} {v : Value} {d : DataW H} {ps : List MemPlace} (hok : Value.okWide Tryz.prog W .any base 47 v) (h : DataW.Trod enc Tryz.prog W 0 (fun _ => true) true 47 v d ps) :
    ∃ (B : Nat) (a : Option Addr) (cap : Nat) (es : List En), v = .slice a es.length cap ∧ es.length ≤ maxLen ∧ Els W B a es := by
  obtain ⟨a, len, cap, rfl⟩ := okWide_slice Tryz.underlying47 hok
  obtain ⟨fuel, hf⟩ := h
  rcases open_slice Tryz.underlying47 (by simpa [Value.cells] using hf) with ⟨hcs, hx⟩ | ⟨a', len', cap', m, n, D, Pl, hcs, hb, hl, hm, hmm, hx, hit⟩
  · simp at hcs
    obtain ⟨rfl, rfl, rfl⟩ := hcs
    exact ⟨0, none, 0, [], rfl, by simp, Els.nil _ _ _⟩
  · simp at hcs
    obtain ⟨rfl, rfl, rfl⟩ := hcs
    simp at hmm
    subst hmm
    obtain ⟨q, hq⟩ := choose_lt (n := m) (fun i hi => one_ent (hit i hi))
    have hlen : ((List.range len).map q).length = len := by simp
    refine ⟨a'.block, some a', m, (List.range len).map q, by rw [hlen], by rw [hlen]; exact Nat.le_trans hl hm, ⟨fun h0 => ?_⟩⟩
    rw [hlen] at h0
    have c0 := (hq 0 (by omega)).1
    have e0 : a'.add (0 * 3) = a' := by unfold Addr.add; split <;> simp_all
    rw [e0] at c0
    have ha := spotN c0
    refine ⟨a'.off, by rw [← ha], fun j hj => ?_⟩
    rw [hlen] at hj
    obtain ⟨cj0, cj1, cj2⟩ := hq j (by omega)
    rw [ha, add_at] at cj0 cj1 cj2
    have e : ((List.range len).map q)[j]'(by rw [hlen]; exact hj) = q j := by simp
    rw [e]
    exact ⟨cj0, by rw [Nat.add_assoc]; exact cj1, by rw [Nat.add_assoc]; exact cj2, World.block_lt_of_cell? W ⟨a'.block, a'.off + j * 3, none⟩ cj0⟩
end Go.Proofs.YthjjkhacniebiaaGreat

namespace Go.Proofs.YthjjkhacniebiaaGreat
open Go.ChangeShapes Go.WideShapes Go.ChangeAt Go.RowKit Go.Deep

theorem Tryz.cellsBool : Tryz.prog.cellsOf 4 = 1 := by kernel_rfl
theorem add_nought (a : Addr) : a.add 0 = a := by
  unfold Addr.add
  simp
set_option maxRecDepth 100000 in
theorem open_bls {H : Type} {enc : TypeId × Value → H} {W : World} {base : Nat} {v : Value} {d : DataW H} {ps : List MemPlace} (hok : Value.okWide Tryz.prog W .any base 48 v) (h : DataW.Trod enc Tryz.prog W 0 (fun _ => true) true 48 v d ps) :
    ∃ (B : Nat) (ao : Option Addr) (cap : Nat) (l : List Bool), v = .slice ao l.length cap ∧ l.length ≤ maxLen ∧ Bls W B ao l := by
  obtain ⟨a, len, cap, rfl⟩ := okWide_slice Tryz.underlying48 hok
  obtain ⟨fuel, hf⟩ := h
  rcases open_bools Tryz.underlying48 Tryz.underlying4 Tryz.cellsBool (by simpa [Value.cells] using hf) with ⟨hcs, _⟩ | ⟨a', len', cap', Bf, hcs, hb, hl, hm, _, hc⟩
  · simp at hcs
    obtain ⟨rfl, rfl, rfl⟩ := hcs
    exact ⟨0, none, 0, [], rfl, by simp, ⟨fun h => absurd h (by simp), fun h => absurd h (by simp)⟩⟩
  · simp at hcs
    obtain ⟨rfl, rfl, rfl⟩ := hcs
    refine ⟨a'.block, some a', cap, (List.range len).map Bf, by simp, by simp; unfold maxLen at hm ⊢; omega, ⟨fun h => ?_, fun h => ?_⟩⟩
    · have hlen : 0 < len := by simpa using h
      have h0 := hc 0 (by omega)
      rw [add_nought] at h0
      have ha := spotN h0
      refine ⟨a'.off, by rw [← ha], fun j hj => ?_⟩
      have hj' : j < len := by simpa using hj
      have hcj := hc j (by omega)
      rw [ha, Addr.add_mid] at hcj
      rw [hcj]
      simp
    · have hlen : 0 < len := by simpa using h
      have h0 := hc 0 (by omega)
      rw [add_nought] at h0
      exact World.block_lt_of_cell? W _ h0
set_option maxRecDepth 100000 in
theorem open_its {H : Type} {enc : TypeId × Value → H} {W : World} {base : Nat} {v : Value} {d : DataW H} {ps : List MemPlace} (hok : Value.okWide Tryz.prog W .any base 25 v) (h : DataW.Trod enc Tryz.prog W 0 (fun _ => true) true 25 v d ps) :
    ∃ (B : Nat) (ao : Option Addr) (cap : Nat) (l : List Int), v = .slice ao l.length cap ∧ l.length ≤ maxLen ∧ Its W B ao l := by
  obtain ⟨a, len, cap, rfl⟩ := okWide_slice Tryz.underlying25 hok
  obtain ⟨fuel, hf⟩ := h
  rcases open_ints Tryz.underlying25 Tryz.underlying3 Tryz.cellsInt (by simpa [Value.cells] using hf) with ⟨hcs, _⟩ | ⟨a', len', cap', zs, hcs, hb, hl, hm, hlz, _, hc, hw⟩
  · simp at hcs
    obtain ⟨rfl, rfl, rfl⟩ := hcs
    exact ⟨0, none, 0, [], rfl, by simp, ⟨fun h => absurd h (by simp), fun h => absurd h (by simp)⟩⟩
  · simp at hcs
    obtain ⟨rfl, rfl, rfl⟩ := hcs
    have hlz' : len ≤ zs.length := by rw [hlz]; split <;> omega
    have hlt : (zs.take len).length = len := by simp; omega
    refine ⟨a'.block, some a', cap, zs.take len, by rw [hlt], by rw [hlt]; unfold maxLen at hm ⊢; omega, ⟨fun h => ?_, fun h => ?_⟩⟩
    · rw [hlt] at h
      have h0 := hc 0 (by omega)
      rw [add_nought] at h0
      have ha := spotN h0
      refine ⟨a'.off, by rw [← ha], fun j hj => ?_⟩
      rw [hlt] at hj
      have hcj := hc j (by omega)
      rw [ha, Addr.add_mid] at hcj
      rw [hcj]
      simp [List.getD_eq_getElem?_getD, List.getElem?_eq_getElem (show j < zs.length by omega)]
    · rw [hlt] at h
      have h0 := hc 0 (by omega)
      rw [add_nought] at h0
      exact World.block_lt_of_cell? W _ h0
end Go.Proofs.YthjjkhacniebiaaGreat
