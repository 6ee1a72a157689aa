/- The document's table in memory: two lists of holds. -/
import Derived.Test.YtmmhmgndokaklaaLSame
import Derived.Lib.AppendZeros
import Derived.Deep.Upon
namespace Go.Proofs.Ytmmhmgndokaklaa
open Go.RowKit Go.Maps

/-- A key and somebody, as cells. -/
def hcells (L : List (ByteArray × Int)) : List Value := L.flatMap fun p => [.string p.1, .int .i64 p.2]
theorem hcells_length (L : List (ByteArray × Int)) : (hcells L).length = L.length * 2 := by
  induction L with
  | nil => rfl
  | cons p L ih => simp [hcells] at ih ⊢; omega
theorem hcells_append (L M : List (ByteArray × Int)) : hcells (L ++ M) = hcells L ++ hcells M := by simp [hcells]
theorem hcells_get {L : List (ByteArray × Int)} {j : Nat} (h : j < L.length) : (hcells L)[j * 2]? = some (.string L[j].1) ∧ (hcells L)[j * 2 + 1]? = some (.int .i64 L[j].2) := by
  induction L generalizing j with
  | nil => simp at h
  | cons p L ih =>
    cases j with
    | zero => exact ⟨rfl, rfl⟩
    | succ j =>
      have e : hcells (p :: L) = .string p.1 :: .int .i64 p.2 :: hcells L := rfl
      have e1 : (j + 1) * 2 = j * 2 + 1 + 1 := by omega
      rw [e, e1]
      simp only [List.getElem?_cons_succ, List.getElem_cons_succ]
      have := ih (j := j) (by simpa using h)
      exact this
theorem hcells_one (L : List (ByteArray × Int)) : ∀ u ∈ hcells L, u.oneCell' = true := by
  intro u hu
  simp only [hcells, List.mem_flatMap] at hu
  obtain ⟨p, _, hp⟩ := hu
  simp at hp
  rcases hp with rfl | rfl <;> rfl
/-- Holds in a row of one's own. -/
def HRow (w : World) (base : Nat) (v : Value) (L : List (ByteArray × Int)) : Prop := w.ownsRow base 55 2 v L.length (hcells L)
theorem HRow.nil (w : World) (base : Nat) : HRow w base (.slice none 0 0) [] := ⟨rfl, .inl ⟨rfl, rfl⟩⟩
theorem HRow.kept {S : Nat → Prop} {w w' : World} {base : Nat} {v : Value} {L : List (ByteArray × Int)} (h : HRow w base v L) (ho : Only S w w') (hS : ∀ k, v.ownBlock = some k → ¬ S k) : HRow w' base v L := by
  obtain ⟨h1, h2⟩ := h
  refine ⟨h1, ?_⟩
  rcases h2 with h2 | ⟨g, cap, cur, hv, hg, hh, r⟩
  · exact .inl h2
  · subst hv
    exact .inr ⟨g, cap, cur, rfl, hg, by rw [ho.block g (Array.getElem?_eq_some_iff.1 hh).1 (hS g rfl)]; exact hh, r⟩
theorem HRow.low {w : World} {base : Nat} {v : Value} {L : List (ByteArray × Int)} (h : HRow w base v L) : ∀ k, v.ownBlock = some k → base ≤ k ∧ k < w.heap.size := fun k hk => World.ownsRow.lt h k hk
theorem HRow.base {w : World} {b b' : Nat} {v : Value} {L : List (ByteArray × Int)} (h : HRow w b v L) (hb : b' ≤ b) : HRow w b' v L := by
  obtain ⟨h1, h2⟩ := h
  refine ⟨h1, ?_⟩
  rcases h2 with h2 | ⟨g, cap, cur, hv, hg, r⟩
  · exact .inl h2
  · exact .inr ⟨g, cap, cur, hv, Nat.le_trans hb hg, r⟩
theorem HRow.form {w : World} {base : Nat} {v : Value} {L : List (ByteArray × Int)} (h : HRow w base v L) : ∃ ao cp, v = .slice ao L.length cp := by
  rcases h.2 with ⟨rfl, h0⟩ | ⟨g, cap, cur, rfl, _⟩
  · exact ⟨none, 0, by rw [h0]⟩
  · exact ⟨_, _, rfl⟩
theorem HRow.cells {w : World} {base n cp g o : Nat} {L : List (ByteArray × Int)} (h : HRow w base (.slice (some ⟨g, o, none⟩) n cp) L) : ∀ j u, (hcells L)[j]? = some u → w.cell? ⟨g, j, none⟩ = some u := by
  intro j u hu
  have h' := h
  rcases h.2 with ⟨e, _⟩ | ⟨g', cap, cur, e, hb, hh, _⟩
  · cases e
  · injection e with e1 e2 e3
    injection e1 with e1
    injection e1 with e1 e4
    subst e1
    subst e4
    have := World.ownsRow.cells h' (g := g) (by rw [e2]; rfl) j u hu
    rwa [show (⟨g, 0, none⟩ : Addr).add j = ⟨g, j, none⟩ from by rw [add_at]; simp] at this
theorem HRow.at_ {w : World} {base n cp : Nat} {ao : Option Addr} {L : List (ByteArray × Int)} (h : HRow w base (.slice ao n cp) L) {j : Nat} (hj : j < L.length) : ∃ g, ao = some ⟨g, 0, none⟩ ∧ base ≤ g ∧ g < w.heap.size ∧ n ≤ cp ∧ w.cell? ⟨g, j * 2, none⟩ = some (.string L[j].1) ∧ w.cell? ⟨g, j * 2 + 1, none⟩ = some (.int .i64 L[j].2) := by
  have h' := h
  rcases h.2 with ⟨_, h0⟩ | ⟨g, cap, cur, e, hb, hh, hc, _⟩
  · omega
  · injection e with e1 e2 e3
    subst e1
    subst e2
    subst e3
    obtain ⟨q1, q2⟩ := hcells_get hj
    exact ⟨g, rfl, hb, (Array.getElem?_eq_some_iff.1 hh).1, hc, HRow.cells h' _ _ q1, HRow.cells h' _ _ q2⟩
theorem Try.infoHold : (Try.prog.info? 55).map (fun i => (i.zero, i.size, i.bytes)) = some (some (.agg #[.string ⟨#[]⟩, .int .i64 0]), 2, 24) := by kernel_rfl
/-- Where holds that are appended lie. -/
def HSrc (w : World) (ao : Option Addr) (m : Nat) (N : List (ByteArray × Int)) : Prop :=
  N.length = m ∧ ((ao = none ∧ m = 0) ∨ ∃ a, ao = some a ∧ ∀ j u, (hcells N)[j]? = some u → w.cell? (a.add j) = some u)
theorem hrow_append {w : World} {base : Nat} {v : Value} {L N : List (ByteArray × Int)} {ao : Option Addr} {m : Nat} (h : HRow w base v L) (hs : HSrc w ao m N) (hn : L.length + m ≤ 4398046511105) (hb : base ≤ w.heap.size) (c : Nat) :
    ∃ v' w', (Builtin.append_ #[25, 25] 25 #[v, .slice ao m c]).run Try.prog w = .ok v' w' ∧ HRow w' base v' (L ++ N) ∧ w.grownBy w' v.ownBlock ∧ (v'.ownBlock = v.ownBlock ∨ v'.ownBlock = some w.heap.size) := by
  obtain ⟨i0, hi, hz0, hz1, hz2⟩ := info_parts Try.infoHold
  obtain ⟨hl, h0 | ⟨a, rfl, hc⟩⟩ := hs
  · obtain ⟨rfl, rfl⟩ := h0
    have hN : N = [] := List.eq_nil_of_length_eq_zero hl
    subst hN
    refine ⟨v, w, ?_, by rw [List.append_nil]; exact h, ⟨rfl, rfl, rfl, Nat.le_refl _, fun _ _ _ => rfl⟩, .inl rfl⟩
    rcases h.2 with ⟨rfl, _⟩ | ⟨g, cap, cur, rfl, _, _, hle, _⟩
    · simp [Builtin.append_, run_underlying Try.underlying25, sizeOf, typeInfo, hi, Builtin.lenOf, Builtin.firstCells]
    · simp [Builtin.append_, run_underlying Try.underlying25, sizeOf, typeInfo, hi, Builtin.lenOf, Builtin.firstCells, storeCells, hle]
  · obtain ⟨v', w', hr, ho, hg, _, hloc⟩ := run_append_own_at (P := Try.prog) w base 25 25 55 i0 _ 2 24 Try.underlying25 hi hz0 hz1 hz2 rfl (by decide) v L.length (hcells L) h a m c (hcells N) (by rw [hcells_length, hl]) hc (hcells_one N) (by unfold maxLen; omega) (by omega) hb
    refine ⟨v', w', hr, ?_, hg, hloc⟩
    unfold HRow
    rw [List.length_append, hcells_append, hl]
    exact ho
/-- The document's lists, as who holds and who waits. -/
structure HIs (T : Tb) (L : List (ByteArray × Int)) : Prop where
  up : L.Pairwise (fun p q => bl p.1 q.1)
  mem : ∀ k b, (k, b) ∈ L ↔ T.hold k = some b
structure WIs (T : Tb) (L : List (ByteArray × Int)) : Prop where
  up : L.Pairwise (fun p q => p.2 < q.2)
  mem : ∀ k a, (k, a) ∈ L ↔ T.wait a = some k
/-- The document's table in block r. -/
structure Rt (w : World) (r base n : Nat) (T : Tb) (aH aW : Option Addr) (cH cW : Nat) (HL WL : List (ByteArray × Int)) : Prop where
  c0 : w.cell? ⟨r, 0, none⟩ = some (.slice aH HL.length cH)
  c1 : w.cell? ⟨r, 1, none⟩ = some (.slice aW WL.length cW)
  f0 : w.frozen? ⟨r, 0, none⟩ = false
  f1 : w.frozen? ⟨r, 1, none⟩ = false
  h : HRow w base (.slice aH HL.length cH) HL
  wr : HRow w base (.slice aW WL.length cW) WL
  hi : HIs T HL
  wi : WIs T WL
  hn : HL.length ≤ n
  wn : WL.length ≤ n
  rb : r < base
theorem Rt.kept {S : Nat → Prop} {w w' : World} {r base n : Nat} {T : Tb} {aH aW : Option Addr} {cH cW : Nat} {HL WL : List (ByteArray × Int)} (H : Rt w r base n T aH aW cH cW HL WL) (ho : Only S w w') (h0 : ¬ S r) (h1 : ∀ k, base ≤ k → ¬ S k) : Rt w' r base n T aH aW cH cW HL WL := by
  have hr := World.block_lt_of_cell? w _ H.c0
  exact ⟨(ho.cell (p := ⟨r, 0, none⟩) hr h0).trans H.c0, (ho.cell (p := ⟨r, 1, none⟩) hr h0).trans H.c1, (ho.frozen (p := ⟨r, 0, none⟩) hr h0).trans H.f0, (ho.frozen (p := ⟨r, 1, none⟩) hr h0).trans H.f1, H.h.kept ho (fun k hk => h1 k (H.h.low k hk).1), H.wr.kept ho (fun k hk => h1 k (H.wr.low k hk).1), H.hi, H.wi, H.hn, H.wn, H.rb⟩
theorem Rt.more {w w' : World} {r base n : Nat} {T : Tb} {aH aW : Option Addr} {cH cW : Nat} {HL WL : List (ByteArray × Int)} (H : Rt w r base n T aH aW cH cW HL WL) (ho : Only (fun _ => False) w w') : Rt w' r base n T aH aW cH cW HL WL := H.kept ho id (fun _ _ => id)
theorem HIs.none {T : Tb} {L : List (ByteArray × Int)} (h : HIs T L) {k : ByteArray} (hk : ∀ q (hq : q < L.length), L[q].1 ≠ k) : T.hold k = none := by
  cases e : T.hold k with
  | none => rfl
  | some b =>
    obtain ⟨q, hq, e2⟩ := List.getElem_of_mem ((h.mem k b).2 e)
    exact absurd (by rw [e2]) (hk q hq)
theorem WIs.none {T : Tb} {L : List (ByteArray × Int)} (h : WIs T L) {a : Int} (hk : ∀ q (hq : q < L.length), L[q].2 ≠ a) : T.wait a = none := by
  cases e : T.wait a with
  | none => rfl
  | some k =>
    obtain ⟨q, hq, e2⟩ := List.getElem_of_mem ((h.mem k a).2 e)
    exact absurd (by rw [e2]) (hk q hq)
theorem ba_toList {s t : ByteArray} (h : s.toList = t.toList) : s = t := by
  rw [ByteArray.toList_eq, ByteArray.toList_eq] at h
  exact ba_inj h
theorem ba_eq {s t : ByteArray} (h : s = t) : (s.toList == t.toList) = true := by simp [h]
theorem ba_ne {s t : ByteArray} (h : ¬ s = t) : (s.toList == t.toList) = false := by
  simp
  intro e
  exact h (ba_toList e)
set_option maxRecDepth 100000 in
set_option maxHeartbeats 800000 in
theorem jholder_any (w : World) (r base n : Nat) (T : Tb) (aH aW : Option Addr) (cH cW : Nat) (HL WL : List (ByteArray × Int)) (H : Rt w r base n T aH aW cH cW HL WL) (hn : n ≤ 4398046511104) (k : ByteArray) :
    Calls Try.prog 15 #[.pointer (some ⟨r, 0, none⟩), .string k] w fun e w' => e = .returned (.tuple #[.int .i64 ((T.hold k).getD 0), .bool (T.hold k).isSome]) ∧ w' = w := by
  have c0 := H.c0
  have hlen := H.hn
  have HH := hide H
  clear H
  go_enter Try.func15, Try.ntmps15
  go_wp2_with fail
  go_loop [6] (fun y => ∃ j : Nat, j ≤ HL.length ∧ y = .int .i64 (j : Int) ∧ Hid (∀ q (hq : q < HL.length), q < j → HL[q].1 ≠ k)) (fun y => HL.length - (intOf y).toNat)
  case atStart => exact ⟨0, by omega, rfl, (fun k _ hk => by omega)⟩
  case round =>
    obtain ⟨j, hj, rfl, HQ⟩ := hrel
    by_cases hlt : j < HL.length
    · obtain ⟨g, e1, _, _, _, k1, k2⟩ := HH.out.h.at_ hlt
      obtain ⟨x, hx⟩ : ∃ x, HL[j].1 = x := ⟨_, rfl⟩
      obtain ⟨b, hb⟩ : ∃ b, HL[j].2 = b := ⟨_, rfl⟩
      have HX := hide hx
      have HB := hide hb
      rw [hx] at k1
      rw [hb] at k2
      have hm : (x, b) ∈ HL := by
        rw [← hx, ← hb]
        exact List.getElem_mem hlt
      have hT := (HH.out.hi.mem x b).1 hm
      have HT := hide hT
      clear hx hb hm hT
      subst e1
      by_cases he : x = k
      · have hbb := ba_eq he
        have HE := hide he
        clear he
        go_wp2_with fail
        go_ret2
        refine ⟨?_, rfl⟩
        rw [← HE.out, HT.out]
        rfl
      · have hbb := ba_ne he
        have HE := hide he
        clear he
        go_wp2_with fail
        go_round
        case rel =>
          refine ⟨j + 1, by omega, by go_num, ?_⟩
          intro q hq hqj
          by_cases eq : q = j
          · subst eq; rw [HX.out]; exact HE.out
          · exact HQ.out q hq (by omega)
        case measure => simp [intOf]; omega
    · have HN := hide (HH.out.hi.none (k := k) (fun q hq => HQ.out q hq (by omega)))
      go_wp2_with fail
      go_ret2
      rw [HN.out]
      exact ⟨rfl, rfl⟩
set_option maxRecDepth 100000 in
set_option maxHeartbeats 800000 in
theorem jfor_any (w : World) (r base n : Nat) (T : Tb) (aH aW : Option Addr) (cH cW : Nat) (HL WL : List (ByteArray × Int)) (H : Rt w r base n T aH aW cH cW HL WL) (hn : n ≤ 4398046511104) (a : Int) :
    Calls Try.prog 17 #[.pointer (some ⟨r, 0, none⟩), .int .i64 a] w fun e w' => e = .returned (.tuple #[.string ((T.wait a).getD ⟨#[]⟩), .bool (T.wait a).isSome]) ∧ w' = w := by
  have c1 := H.c1
  have hlen := H.wn
  have HH := hide H
  clear H
  go_enter Try.func17, Try.ntmps17
  go_wp2_with fail
  go_loop [6] (fun y => ∃ j : Nat, j ≤ WL.length ∧ y = .int .i64 (j : Int) ∧ Hid (∀ q (hq : q < WL.length), q < j → WL[q].2 ≠ a)) (fun y => WL.length - (intOf y).toNat)
  case atStart => exact ⟨0, by omega, rfl, (fun k _ hk => by omega)⟩
  case round =>
    obtain ⟨j, hj, rfl, HQ⟩ := hrel
    by_cases hlt : j < WL.length
    · obtain ⟨g, e1, _, _, _, k1, k2⟩ := HH.out.wr.at_ hlt
      obtain ⟨x, hx⟩ : ∃ x, WL[j].1 = x := ⟨_, rfl⟩
      obtain ⟨b, hb⟩ : ∃ b, WL[j].2 = b := ⟨_, rfl⟩
      have HX := hide hx
      have HB := hide hb
      rw [hx] at k1
      rw [hb] at k2
      have hm : (x, b) ∈ WL := by
        rw [← hx, ← hb]
        exact List.getElem_mem hlt
      have hT := (HH.out.wi.mem x b).1 hm
      have HT := hide hT
      clear hx hb hm hT
      subst e1
      by_cases he : b = a
      · have hbb : (b == a) = true := by simp [he]
        have HE := hide he
        clear he
        go_wp2_with fail
        go_ret2
        refine ⟨?_, rfl⟩
        rw [← HE.out, HT.out]
        rfl
      · have hbb : (b == a) = false := by simp [he]
        have HE := hide he
        clear he
        go_wp2_with fail
        go_round
        case rel =>
          refine ⟨j + 1, by omega, by go_num, ?_⟩
          intro q hq hqj
          by_cases eq : q = j
          · subst eq; rw [HB.out]; exact HE.out
          · exact HQ.out q hq (by omega)
        case measure => simp [intOf]; omega
    · have HN := hide (HH.out.wi.none (a := a) (fun q hq => HQ.out q hq (by omega)))
      go_wp2_with fail
      go_ret2
      rw [HN.out]
      exact ⟨rfl, rfl⟩
end Go.Proofs.Ytmmhmgndokaklaa
