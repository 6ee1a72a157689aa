/- For every list of items and every list of numbers whose values and letters are together at most 1048576 the statement BitsLays returns true: what is laid is the document's bytes. -/
import Derived.Test.YtignmpddlgdfdaaLays
import Derived.ProofKit
import Derived.OpenShut
import Derived.ShutString
import Derived.JoinedCond
namespace Go.Proofs.Ytignmpddlgdfdaa.bitsLays
open Go.ChangeShapes Go.WideShapes Go.ChangeAt Go.RowKit

theorem one_some {w W : World} {b c g off cap : Nat} {r1 r2 : Option Nat} {l1 l2 : List UInt8} {zs : List Int} (h : Duo w W b r1 l1 c r2 l2) (hg : g < w.heap.size) (hc : ∀ k, k < zs.length → w.cell? ⟨g, off + k, none⟩ = some (.int .i64 (zs.getD k 0))) (hz : ∀ k, k < zs.length → zs.getD k 0 < 9223372036854775808) (hl : l1.length + 10 * zs.length + 10 ≤ 158329674399744) :
    Calls Try.prog 17 #[.pointer (some ⟨b, 0, none⟩), .slice (some ⟨g, off, none⟩) zs.length cap] W fun e w' => e = .returned (.tuple #[]) ∧ ∃ r', Duo w w' b r' (l1 ++ nums zs) c r2 l2 := by
  have hb := h.bGe
  have hs := h.only.size
  refine (wnum_any W b r1 l1 zs g off cap h.w1 (fun k hk => (h.only.cell (p := ⟨g, off + k, none⟩) hg (fun h => h)).trans (hc k hk)) hz (by omega) (by intro e; have := h.g1 g e.symm; omega) (by omega) hl).mono ?_
  rintro e w' ⟨he, r', h1, h2⟩
  exact ⟨he, r', h.lay h1 h2⟩
theorem own : ownKnob Try.prog.godebug = none := by kernel_rfl

set_option maxRecDepth 100000 in
theorem lifted (os : Os) (started : os.Started) (H : Type) (enc : TypeId × Value → H) (F : Stop.Interp) :
    ReturnsInHanded {} Try.checked os 5 .any ((Rows.OpenSpec.upto Rows.bitsLaysSpec).pre6 enc Try.prog Try.f5 Rows.bitsLaysUptoRow.domain false) (((Rows.OpenSpec.upto Rows.bitsLaysSpec).at F).post enc Try.prog Try.f5 false true false false) := by
  refine returnsInHanded_of_cond (C := Try.checked) (s := Rows.OpenSpec.upto Rows.bitsLaysSpec) (k := Rows.uptoSmall) rfl own started (by kernel_rfl) Try.func5
    (OpenSpec.witness (enc := enc) (C := Try.checked) (s := Rows.OpenSpec.upto Rows.bitsLaysSpec) (k := Rows.uptoSmall) rfl false ⟨#[], #[.slice none 0 0, .slice none 0 0], []⟩ 8 (by kernel_rfl) (by kernel_rfl) (by kernel_rfl)
      (x := ([.nil, .nil], [], [])) (by kernel_rfl) rfl (by kernel_rfl)) ?_
  intro W base args ds gs before hval0 hW _ hk _
  have hval : ∀ (j : Nat) t v, Try.f5.params[j]? = some t → args[j]? = some v → Value.okWide Try.prog W .any base t v := hval0
  have hW' := hW
  obtain ⟨p, q, hA0, hV, rfl, hfz, hnd⟩ := hW
  have hA : DataW.TrodAll enc Try.prog W 0 (fun _ => true) true Try.f5.params.toList args.toList ds p := hA0
  rw [Try.params5] at hA hval
  obtain ⟨v0, vs0, d0, ds0, p0, q0, hargs, rfl, rfl, h0, r0⟩ := trodAll_cons hA
  obtain ⟨v1, vs1, d1, ds1, p1, q1, rfl, rfl, rfl, h1, r1⟩ := trodAll_cons r0
  obtain ⟨rfl, rfl, rfl⟩ := trodAll_nil r1
  obtain rfl : args = #[v0, v1] := by cases args; simp_all
  obtain ⟨rfl, rfl⟩ := trodVars_none hV
  obtain ⟨a1, len, cap, K, N, S, sp, rfl, hlen, hI, hd⟩ := open_items (hval 0 29 v0 rfl rfl) h0
  obtain ⟨a2, len2, cap2, rfl⟩ := okWide_slice Try.underlying30 (hval 1 30 v1 rfl rfl)
  have hbk := small hk
  simp only [List.append_nil, Rows.uptoBulkAll] at hbk
  have hT : ∀ k, k ≤ len → (encTo len K N S k).length + 100 ≤ 100000000000000 := by
    intro k _
    rcases hd with ⟨_, hd⟩ | hd
    · rw [hd, enc_none]; omega
    · have h2 := enc_bulk len K N S sp k
      rw [hd] at hbk
      omega
  obtain ⟨X, hX, hA1, hA2⟩ : ∃ X : List UInt8, X.length ≤ 50000000000000 ∧
      (∀ W' r1 l1 r2 l2, Duo W W' W.heap.size r1 l1 (W.heap.size + 1) r2 l2 → l1.length ≤ 100000000000000 → Calls Try.prog 17 #[.pointer (some ⟨W.heap.size, 0, none⟩), .slice a2 len2 cap2] W' fun e w' => e = .returned (.tuple #[]) ∧ ∃ r', Duo W w' W.heap.size r' (l1 ++ X) (W.heap.size + 1) r2 l2) ∧
      (∀ W', Only (fun _ => False) W W' → Calls Try.prog 18 #[.slice a2 len2 cap2] W' fun e w' => e = .returned (.string (bs X)) ∧ Only (fun _ => False) W' w') := by
    have none0 : len2 = 0 → ∃ X : List UInt8, X.length ≤ 50000000000000 ∧
        (∀ W' r1 l1 r2 l2, Duo W W' W.heap.size r1 l1 (W.heap.size + 1) r2 l2 → l1.length ≤ 100000000000000 → Calls Try.prog 17 #[.pointer (some ⟨W.heap.size, 0, none⟩), .slice a2 len2 cap2] W' fun e w' => e = .returned (.tuple #[]) ∧ ∃ r', Duo W w' W.heap.size r' (l1 ++ X) (W.heap.size + 1) r2 l2) ∧
        (∀ W', Only (fun _ => False) W W' → Calls Try.prog 18 #[.slice a2 len2 cap2] W' fun e w' => e = .returned (.string (bs X)) ∧ Only (fun _ => False) W' w') := by
      intro e0
      subst e0
      refine ⟨[], by simp, ?_, ?_⟩
      · intro W' r1 l1 r2 l2 hD _
        refine (wnum_none W' W.heap.size a2 cap2).mono ?_
        rintro e w' ⟨he, rfl⟩
        exact ⟨he, r1, by rw [List.append_nil]; exact hD⟩
      · intro W' _
        exact refNum_none W' a2 cap2
    obtain ⟨fuel, hf⟩ := h1
    rcases open_ints Try.underlying30 Try.underlying3 Try.cellsInt (by simpa [Value.cells] using hf) with ⟨hcs, hx⟩ | ⟨a, len', cap', zs, hcs, _, hl, hm, hzl, hx, hcell, hwz⟩
    · simp at hcs
      exact none0 hcs.2.1
    · simp at hcs
      obtain ⟨rfl, rfl, rfl⟩ := hcs
      by_cases e0 : len2 = 0
      · exact none0 e0
      · simp at hzl
        obtain ⟨g, off, rfl, hc⟩ := ints_at hcell (by omega)
        simp only [Prod.mk.injEq] at hx
        have hln : (zs.take len2).length = len2 := by rw [List.length_take]; omega
        have hl2 : len2 ≤ 1048576 := by
          have h3 := hbk
          rw [hx.1] at h3
          have h4 : Rows.uptoBulkAll (lits (H := H) IntKind.i64 (zs.take len2)) = (zs.take len2).length := bulk_ints _
          simp only [Rows.uptoBulk] at h3
          omega
        have hgl : g < W.heap.size := World.block_lt_of_cell? W _ (hc 0 (by omega))
        have hc2 : ∀ k, k < (zs.take len2).length → W.cell? ⟨g, off + k, none⟩ = some (.int .i64 ((zs.take len2).getD k 0)) := by
          intro k hk2
          rw [hln] at hk2
          rw [hc k (by omega)]
          simp [List.getD, hk2]
        have hz2 : ∀ k, k < (zs.take len2).length → (zs.take len2).getD k 0 < 9223372036854775808 := by
          intro k hk2
          have hm2 : (zs.take len2).getD k 0 ∈ zs := by
            rw [show (zs.take len2).getD k 0 = (zs.take len2)[k] by simp only [List.getD, List.getElem?_eq_getElem hk2, Option.getD_some]]
            exact List.mem_of_mem_take (List.getElem_mem hk2)
          have := bounds_i64 (hwz _ hm2)
          omega
        have hnl := nums_len (zs.take len2)
        refine ⟨nums (zs.take len2), by omega, ?_, ?_⟩
        · intro W' r1 l1 r2 l2 hD hl1
          have h3 := one_some (cap := cap2) hD hgl hc2 hz2 (by omega)
          rw [hln] at h3
          exact h3
        · intro W' ho
          have hs := ho.size
          have h3 := refNum_any W' (zs.take len2) g off cap2 (fun k hk2 => (ho.cell (p := ⟨g, off + k, none⟩) hgl (fun h => h)).trans (hc2 k hk2)) hz2 (by omega) (by omega)
          rw [hln] at h3
          exact h3
  have lt0 : ∀ x ∈ p0, x.block < W.heap.size := fun x hx => hW'.lt x (by simp [hx])
  have lt1 : ∀ x ∈ p1, x.block < W.heap.size := fun x hx => hW'.lt x (by simp [hx])
  clear hA0 hval0
  simp only [List.append_nil] at hW'
  refine (lays_walk a1 len cap K N S (.slice a2 len2 cap2) X W hlen hT hX hI hA1 hA2).mono fun e W' ⟨he, bel⟩ => ?_
  subst he
  exact ⟨_, rfl, _, _, _, [], _, [], hW', trodAll_mk1 (shut_bool Try.underlying4 _), (trodAll_cons_mk (Below.trod Try.laidOut (by kernel_rfl) (of_decide_eq_true (by kernel_rfl)) h0 bel lt0) (trodAll_cons_mk (Below.trod Try.laidOut (by kernel_rfl) (of_decide_eq_true (by kernel_rfl)) h1 bel lt1) trodAll_mk0)), rfl, bel.frame _, fun h => by cases h⟩

theorem over : Rows.bitsLaysUptoRow.holds Try.pinned (Rows.OpenSpec.upto Rows.bitsLaysSpec) :=
  OpenClaim.holds_of_cond 5 Try.f5 rfl rfl rfl rfl rfl rfl rfl ⟨rfl, rfl, rfl, rfl, rfl⟩ rfl rfl rfl rfl rfl (by kernel_rfl) Try.func5 (by kernel_rfl)
    (of_decide_eq_true (by kernel_rfl)) (by unfold Func.isWrapper; first | (rw [if_pos (by decide +kernel)]; kernel_rfl) | (rw [if_neg (by decide +kernel)]; exact ⟨rfl, rfl⟩))
    (fun os started H enc _ F => lifted os started H enc F)
end Go.Proofs.Ytignmpddlgdfdaa.bitsLays
namespace Go.Proofs.Ytignmpddlgdfdaa
theorem bitsLays_holds : Rows.BitsLaysUptoSaid := bitsLays.over
#print axioms bitsLays_holds
end Go.Proofs.Ytignmpddlgdfdaa
