/- The horizon: all the numbers that it counts, and the first of them. -/
import Derived.Test.YtolfmodgkkjnbaaGreatSApp
import Derived.Deep.RegionWith
import Derived.Lib.AppendZeros
import Derived.Deep.DeepCutAuto
namespace Go.Proofs.YtolfmodgkkjnbaaGreat
open Go.RowKit

/-- Snapshots that a slice leads to, in block B. -/
structure Sps (w : World) (B : Nat) (ao : Option Addr) (L : List (Int × List Int)) : Prop where
  at_ : 0 < L.length → ∃ o, ao = some ⟨B, o, none⟩ ∧ ∀ j (h : j < L.length), w.cell? ⟨B, o + j * 2, none⟩ = some (.int .i64 L[j].1) ∧ ∃ B' ao' cp', w.cell? ⟨B, o + j * 2 + 1, none⟩ = some (.slice ao' L[j].2.length cp') ∧ Ns w B' ao' L[j].2 ∧ (ao' = Option.none → cp' = 0)
  wf : ∀ s ∈ L, I64 s.1
  lt : 0 < L.length → B < w.heap.size
  len : L.length < 9223372036854775808
theorem Sps.more {w w' : World} {B : Nat} {ao : Option Addr} {L : List (Int × List Int)} (h : Sps w B ao L) (ho : Only (fun _ => False) w w') : Sps w' B ao L := by
  refine ⟨fun h0 => ?_, h.wf, fun h0 => Nat.lt_of_lt_of_le (h.lt h0) ho.size, h.len⟩
  obtain ⟨o, e, hc⟩ := h.at_ h0
  refine ⟨o, e, fun j hj => ?_⟩
  obtain ⟨k1, B', ao', cp', k2, k3, k4⟩ := hc j hj
  exact ⟨(ho.cell (p := ⟨B, o + j * 2, none⟩) (h.lt h0) (fun h => h)).trans k1, B', ao', cp', (ho.cell (p := ⟨B, o + j * 2 + 1, none⟩) (h.lt h0) (fun h => h)).trans k2, k3.more ho, k4⟩
/-- All the numbers, up to a snapshot. -/
def hto (next : Int) (run : List Int) (L : List (Int × List Int)) : Nat → List Int
  | 0 => next :: run
  | k + 1 => hto next run L k ++ (match L[k]? with | some s => s.1 :: s.2 | none => [])
def hall (next : Int) (run : List Int) (L : List (Int × List Int)) : List Int := hto next run L L.length
theorem hto_next {next : Int} {run : List Int} {L : List (Int × List Int)} {k : Nat} (h : k < L.length) : hto next run L (k + 1) = hto next run L k ++ [L[k].1] ++ L[k].2 := by
  rw [hto]; simp [h]
theorem hto_le {next : Int} {run : List Int} {L : List (Int × List Int)} {k n : Nat} (h : k ≤ n) : (hto next run L k).length ≤ (hto next run L n).length := by
  induction n with
  | zero => have : k = 0 := by omega
            subst this; exact Nat.le_refl _
  | succ n ih =>
    by_cases e : k = n + 1
    · subst e; exact Nat.le_refl _
    · have := ih (by omega)
      rw [hto, List.length_append]
      omega
theorem hto_wf {next : Int} {run : List Int} {L : List (Int × List Int)} (hn : I64 next) (hr : ∀ x ∈ run, I64 x) (hL : ∀ s ∈ L, I64 s.1 ∧ ∀ x ∈ s.2, I64 x) (k : Nat) : ∀ x ∈ hto next run L k, I64 x := by
  induction k with
  | zero =>
    intro x hx
    rcases List.mem_cons.1 hx with rfl | h
    · exact hn
    · exact hr x h
  | succ k ih =>
    intro x hx
    rw [hto] at hx
    rcases List.mem_append.1 hx with h | h
    · exact ih x h
    · split at h
      · rename_i s hs
        have := hL s (List.mem_of_getElem? hs)
        rcases List.mem_cons.1 h with rfl | h
        · exact this.1
        · exact this.2 x h
      · cases h
/-- The list as it is laid, beside what was there. -/
structure HL (w wr : World) (v : Value) (l : List Int) : Prop where
  own : Lz wr w.heap.size v l
  only : Only (fun _ => False) w wr
theorem HL.app {w wr W1 wr' : World} {v v' : Value} {l m : List Int} (h : HL w wr v l) (ho : Only (fun _ => False) wr W1) (hl : Lz wr' w.heap.size v' m) (hg : Only (fun k => v.ownBlock = some k) W1 wr') : HL w wr' v' m := by
  refine ⟨hl, (o2 h.only ho).trans hg (fun i hi e => ?_)⟩
  have := (h.own.lt i e).1
  omega
theorem find_at {m : Int} {l L : List Int} {j : Nat} (hj : j < l.length) (hq : ∀ o ∈ l.take j, hfst m L o = false) (h : hfst m L l[j] = true) : (l.find? (hfst m L)).getD 0 = l[j] := by
  have e : l = l.take j ++ l[j] :: l.drop (j + 1) := by rw [← List.drop_eq_getElem_cons hj, List.take_append_drop]
  have hf : (l.take j).find? (hfst m L) = none := List.find?_eq_none.2 (fun x hx => by simp [hq x hx])
  have hd : (l[j] :: l.drop (j + 1)).find? (hfst m L) = some l[j] := List.find?_cons_of_pos h
  have : (l.take j ++ l[j] :: l.drop (j + 1)).find? (hfst m L) = some l[j] := by rw [List.find?_append, hf, hd]; rfl
  rw [← e] at this
  rw [this]; rfl
theorem find_no {m : Int} {l L : List Int} (hq : ∀ o ∈ l, hfst m L o = false) : (l.find? (hfst m L)).getD 0 = 0 := by
  rw [List.find?_eq_none.2 (fun x hx => by simp [hq x hx])]; rfl
set_option maxRecDepth 100000 in
set_option maxHeartbeats 1600000 in
theorem horizon_any (w : World) (m next : Int) (B cp : Nat) (ao : Option Addr) (run : List Int) (B2 cp2 : Nat) (ao2 : Option Addr) (L : List (Int × List Int)) (hm : I64 m) (hn : I64 next) (hR : Ns w B ao run) (hf : ao = none → cp = 0) (hS : Sps w B2 ao2 L) (hW : ∀ s ∈ L, ∀ x ∈ s.2, I64 x) (hroom : (hall next run L).length ≤ 17592186044416) :
    Calls Tryz.prog 26 #[.int .i64 m, .int .i64 next, .slice ao run.length cp, .slice ao2 L.length cp2] w fun e w' => e = .returned (.int .i64 (hor m (hall next run L))) ∧ Only (fun _ => False) w w' := by
  have hlen := hS.len
  have HM := hide hm
  have HWF := hide (hto_wf (next := next) (run := run) (L := L) hn hR.wf (fun s hs => ⟨hS.wf s hs, hW s hs⟩))
  have HS := hide hS
  have HROOM := hide hroom
  have hrl : 1 + run.length ≤ 17592186044416 := by
    have := hto_le (next := next) (run := run) (L := L) (Nat.zero_le L.length)
    unfold hall at hroom
    rw [hto, List.length_cons] at this
    omega
  obtain ⟨v1, w1, hr1, hl1, ho1⟩ := append_ns (w.alloc (.cells #[.int .i64 next] 3)) 25 w.heap.size _ [next] (Lz.one w w.heap.size (Nat.le_refl _) next) B cp ao run (hR.more (onlyA _ _)) hf (by simpa using hrl) (by simp)
  have HR1 := hide hr1
  have HL1 : Hid (HL w w1 v1 (hto next run L 0)) := by
    refine ⟨hl1, (onlyA w _).trans ho1 (fun i hi e => ?_)⟩
    simp [Value.ownBlock] at e
    omega
  clear hm hn hR hf hS hW hroom hrl hr1 hl1 ho1
  go_enter Tryz.func26, Tryz.ntmps26
  go_wp2_with (at_builtin; go_must (refine Lib.wpList_append_run _ rfl _ _ _ _ rfl _ _ rfl rfl _ _ HR1.out ?_))
  clear HR1
  go_loopw [9, 20] (fun v y wr => ∃ (j : Nat), j ≤ L.length ∧ y = .int .i64 (j : Int) ∧ Hid (HL w wr v (hto next run L j))) (fun _ y _ => L.length - (intOf y).toNat)
  case atStart => exact ⟨0, by omega, rfl, HL1⟩
  case round =>
    obtain ⟨j, hj, rfl, HQ⟩ := hrel
    by_cases hlt : j < L.length
    · obtain ⟨o, e1, c1⟩ := HS.out.at_ (by omega)
      have hBl := HS.out.lt (by omega)
      obtain ⟨k1, B3, ao3, cp3, k2, k3, k4⟩ := c1 j hlt
      replace k1 := (HQ.out.only.cell (p := ⟨B2, o + j * 2, none⟩) hBl (fun h => h)).trans k1
      replace k2 := (HQ.out.only.cell (p := ⟨B2, o + j * 2 + 1, none⟩) hBl (fun h => h)).trans k2
      have HX := hide (hto_next (next := next) (run := run) (L := L) hlt)
      have HZ : Hid ((hto next run L (j + 1)).length ≤ 17592186044416) := Nat.le_trans (hto_le (by omega)) HROOM.out
      obtain ⟨s, hs⟩ : ∃ s, L[j] = s := ⟨_, rfl⟩
      rw [hs] at k1 k2 k3 HX
      rw [HX.out] at HZ
      have HI : Hid (I64 s.1) := HS.out.wf s (by rw [← hs]; exact List.getElem_mem hlt)
      clear c1 hs
      subst e1
      have hlen2 : (hto next run L j).length + 1 + s.2.length ≤ 17592186044416 := by have := HZ.out; simp at this; omega
      obtain ⟨W1, hW1⟩ : ∃ W, wr.alloc (.cells #[.int .i64 s.1, .slice ao3 s.2.length cp3] 27) = W := ⟨_, rfl⟩
      have hoA : Only (fun _ => False) wr W1 := by rw [← hW1]; exact onlyA _ _
      have b1 : W1.cell? ⟨wr.heap.size, 0, none⟩ = some (.int .i64 s.1) := by rw [← hW1]; simp
      have b2 : W1.cell? ⟨wr.heap.size, 1, none⟩ = some (.slice ao3 s.2.length cp3) := by rw [← hW1]; simp
      have bl : wr.heap.size < W1.heap.size := by rw [← hW1]; simp
      have hoB : Only (fun _ => False) wr (W1.alloc (.cells #[.int .i64 s.1] 3)) := o2 hoA (onlyA _ _)
      have hbb : w.heap.size ≤ W1.heap.size := by have := HQ.out.only.size; omega
      obtain ⟨v2, w2, hr2, hl2, ho2⟩ := append_ns (W1.alloc (.cells #[.int .i64 s.1] 3)) 25 w.heap.size u9 (hto next run L j) (HQ.out.own.more hoB) W1.heap.size 1 (some ⟨W1.heap.size, 0, none⟩) [s.1] (Ns.one W1 s.1 HI.out) (fun h => by cases h) (by simp; omega) (by simp; omega)
      have q1 := HQ.out.app hoB hl2 ho2
      have hoC : Only (fun k => u9.ownBlock = some k) wr w2 := (hoB.mono (fun _ _ h => h.elim)).trans ho2 (fun _ _ h => h)
      have hnb : u9.ownBlock ≠ some wr.heap.size := fun e => by have := (HQ.out.own.lt _ e).2; omega
      have hoD : Only (fun k => u9.ownBlock = some k) W1 w2 := ((onlyA W1 (.cells #[.int .i64 s.1] 3)).mono (fun _ _ h => h.elim)).trans ho2 (fun _ _ h => h)
      have b3 : w2.cell? ⟨wr.heap.size, 1, none⟩ = some (.slice ao3 s.2.length cp3) := (hoD.cell (p := ⟨wr.heap.size, 1, none⟩) bl hnb).trans b2
      have hbC : w.heap.size ≤ w2.heap.size := Nat.le_trans HQ.out.only.size hoC.size
      have hk3 : Ns w2 B3 ao3 s.2 := k3.more q1.only
      obtain ⟨v3, w3, hr3, hl3, ho3⟩ := append_ns w2 25 w.heap.size v2 _ hl2 B3 cp3 ao3 s.2 hk3 k4 (by simp; omega) hbC
      have HQ3 : Hid (HL w w3 v3 (hto next run L (j + 1))) := by unfold Hid; rw [HX.out]; exact q1.app (Only.refl _ _) hl3 ho3
      have HR2 := hide hr2
      have HR3 := hide hr3
      clear hr2 hr3 hl2 hl3 ho2 ho3 q1 hoA hoB hoC hoD hk3 k3 k4 hnb hbb hbC b2 hlen2 HZ HX HQ HI hBl
      go_upto_region 5 with fail
      clear hW1
      go_upto_region 6 with (at_builtin; go_must (refine Lib.wpList_append_run _ rfl _ _ _ _ rfl _ _ rfl rfl _ _ HR2.out ?_))
      go_wp2_with (at_builtin; go_must (refine Lib.wpList_append_run _ rfl _ _ _ _ rfl _ _ rfl rfl _ _ HR3.out ?_))
      go_roundw
      case rel => exact ⟨j + 1, by omega, by go_num, HQ3⟩
      case measure => simp [intOf]; omega
    · have e : j = L.length := by omega
      subst e
      obtain ⟨l, hl⟩ : ∃ l, hto next run L L.length = l := ⟨_, rfl⟩
      have HWL : Hid (∀ x ∈ l, I64 x) := by unfold Hid; rw [← hl]; exact HWF.out _
      have hll : l.length ≤ 17592186044416 := by rw [← hl]; exact HROOM.out
      have HE : Hid (hall next run L = l) := hl
      rw [hl] at HQ
      obtain ⟨B4, ao4, cp4, rfl, hn4, _, _⟩ := HQ.out.own.ns (by omega) HWL.out
      have HN := hide hn4
      have HO := hide HQ.out.only
      clear hn4 HQ hl HS HROOM HWF
      go_wp2_with fail
      go_loopw [36] (fun y wr' => ∃ (j : Nat), j ≤ l.length ∧ y = .int .i64 (j : Int) ∧ Hid (∀ o ∈ l.take j, hfst m l o = false) ∧ Hid (Only (fun _ => False) wr wr')) (fun y _ => l.length - (intOf y).toNat)
      case atStart => exact ⟨0, by omega, rfl, (fun n hn => by simp at hn), Only.refl _ _⟩
      case round =>
        obtain ⟨j, hj, rfl, HQ, HO2⟩ := hrel
        by_cases hlt : j < l.length
        · obtain ⟨o, e1, c1⟩ := (HN.out.more HO2.out).at_ (by omega)
          have k1 := c1 j hlt
          obtain ⟨z, hz⟩ : ∃ z, l[j] = z := ⟨_, rfl⟩
          have HT : Hid (l.take (j + 1) = l.take j ++ [z]) := by unfold Hid; rw [List.take_succ_eq_append_getElem hlt, hz]
          have HF : Hid (hfst m l z = true → hor m l = z) := by
            intro h
            unfold hor
            rw [find_at hlt HQ.out (by rw [hz]; exact h), hz]
          have HZ : Hid (I64 z) := by unfold Hid; rw [← hz]; exact HWL.out _ (List.getElem_mem hlt)
          rw [hz] at k1
          clear c1 hz
          subst e1
          go_wp2_with fail
          refine (isFirst_any _ B4 cp4 _ l m z (HN.out.more HO2.out) HM.out HZ.out).mono ?_
          rintro e w5 ⟨rfl, ho5⟩
          have HO5 := hide (o2 HO2.out ho5)
          clear ho5
          obtain ⟨b, hb⟩ : ∃ b, hfst m l z = b := ⟨_, rfl⟩
          have HB := hide hb
          rw [hb]
          clear hb
          cases b with
          | true =>
            go_wp2_with fail
            go_ret
            exact ⟨ret_int (by rw [HE.out, HF.out HB.out]), o2 HO.out HO5.out⟩
          | false =>
            go_wp2_with fail
            go_roundw
            case rel =>
              refine ⟨j + 1, by omega, by go_num, ?_, HO5⟩
              unfold Hid
              rw [HT.out]
              intro n hn
              rcases List.mem_append.1 hn with hn | hn
              · exact HQ.out n hn
              · simp at hn; subst hn; exact HB.out
            case measure => simp [intOf]; omega
        · have e : l.take j = l := List.take_of_length_le (by omega)
          rw [e] at HQ
          go_wp2_with fail
          go_ret
          exact ⟨ret_int (by rw [HE.out]; unfold hor; rw [find_no HQ.out]), o2 HO.out HO2.out⟩
end Go.Proofs.YtolfmodgkkjnbaaGreat
