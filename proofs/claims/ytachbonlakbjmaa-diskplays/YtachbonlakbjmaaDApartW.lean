/- Apart answers true of two lists that share no memory. -/
import Derived.Test.YtachbonlakbjmaaDApart
import Derived.Deep.QuietTactic
import Derived.BigQuiet
import Derived.Lib.AppendZeros
namespace Go.Proofs.Ytachbonlakbjmaa
open Go.RowKit

theorem Try.infoInts : (Try.prog.info? 34).map (fun i => (i.zero, i.size, i.bytes)) = some (some (.slice none 0 0), 1, 24) := by kernel_rfl
/-- What is looked at last, in any world behind. -/
structure A3 (wr : World) (b2 L : Nat) (G K : Nat → Nat) (n : Nat) (g cp : Nat → Nat) : Prop where
  ls : ∀ i, i < 2 → wr.cell? ⟨b2, i, none⟩ = some (.slice (some ⟨G i, 0, none⟩) n (K i))
  lg : ∀ i, i < 2 → wr.cell? ⟨L, i, none⟩ = some (.slice (some ⟨g i, 0, none⟩) (n + 16) (cp i))
  orig : ∀ i k, i < 2 → k < n → wr.cell? ⟨G i, k, none⟩ = some (vC i k)
  head : ∀ i k, i < 2 → k < n → wr.cell? ⟨g i, k, none⟩ = some (vC i k)
  tail : ∀ i k, i < 2 → k < 16 → wr.cell? ⟨g i, n + k, none⟩ = some (mC i k)
theorem A3.more {wr w' : World} {b2 L : Nat} {G K : Nat → Nat} {n : Nat} {g cp : Nat → Nat} (h : A3 wr b2 L G K n g cp) (ho : Only (fun _ => False) wr w') : A3 w' b2 L G K n g cp := by
  have key : ∀ (p : Addr) (v : Value), wr.cell? p = some v → w'.cell? p = some v := fun p v hv => (ho.cell (World.block_lt_of_cell? wr _ hv) (fun h => h)).trans hv
  exact ⟨fun i hi => key _ _ (h.ls i hi), fun i hi => key _ _ (h.lg i hi), fun i k hi hk => key _ _ (h.orig i k hi hk), fun i k hi hk => key _ _ (h.head i k hi hk), fun i k hi hk => key _ _ (h.tail i k hi hk)⟩
theorem A2.three {w wr : World} {base L b2 : Nat} {G K : Nat → Nat} {n : Nat} {c g cp : Nat → Nat} (h : A2 w wr base L G n c g cp) (hc : ∀ i, i < 2 → c i = 16) (hls : ∀ i, i < 2 → w.cell? ⟨b2, i, none⟩ = some (.slice (some ⟨G i, 0, none⟩) n (K i))) (hb : ∀ i, i < 2 → b2 ≠ G i) : A3 wr b2 L G K n g cp := by
  refine ⟨fun i hi => ?_, fun i hi => ?_, h.orig, fun i k hi hk => ?_, fun i k hi hk => ?_⟩
  · refine (h.only.cell (p := ⟨b2, i, none⟩) (World.block_lt_of_cell? w _ (hls i hi)) (fun e => ?_)).trans (hls i hi)
    rcases e with e | e
    · exact hb 0 (by omega) e
    · exact hb 1 (by omega) e
  · rw [h.cell i hi, hc i hi]
  · have h1 := h.own i hi
    rw [hc i hi] at h1
    rw [h1.cellAt k (by omega), List.getElem?_append_left (by rw [vL_len]; exact hk), vL_get i n k hk]
  · have h1 := h.own i hi
    rw [hc i hi] at h1
    rw [h1.cellAt (n + k) (by omega), List.getElem?_append_right (by rw [vL_len]; omega), vL_len, show n + k - n = k by omega, mL_get i 16 k hk]

set_option maxRecDepth 100000 in
set_option maxHeartbeats 3200000 in
theorem apart_true (w : World) (base b2 : Nat) (G K : Nat → Nat) (n : Nat) (hls : ∀ i, i < 2 → w.cell? ⟨b2, i, none⟩ = some (.slice (some ⟨G i, 0, none⟩) n (K i))) (hown : ∀ i, i < 2 → ∃ xs, w.ownsRow base 3 1 (.slice (some ⟨G i, 0, none⟩) n (K i)) n xs) (hne : G 0 ≠ G 1) (hb : ∀ i, i < 2 → b2 ≠ G i) (hn : n ≤ 65536) (hbase : base ≤ w.heap.size) :
    Calls Try.prog 28 #[.slice (some ⟨b2, 0, none⟩) 2 2] w fun e w' => e = .returned (.bool true) ∧ Only (fun x => x = G 0 ∨ x = G 1) w w' := by
  obtain ⟨i0, hi, hz0, hz1, hz2⟩ := info_parts Try.infoInts
  obtain ⟨w1, hmk0, hown1, hgr⟩ := run_make_full (P := Try.prog) w w.heap.size 63 34 i0 (.slice none 0 0) 1 Try.underlying63 hi hz0 hz1 .i64 .i64 2 (by rw [hz2]; omega) (by unfold maxLen; omega) (Nat.le_refl _)
  have hmk : (Instr.makeSlice 63 (.int .i64 2) (.int .i64 2)).run Try.prog w = .ok (.slice (some ⟨w.heap.size, 0, none⟩) 2 2) w1 := hmk0
  have hO1 : Only (fun _ => False) w w1 := Only.grown hgr (fun k hk => by cases hk)
  have hGl : ∀ i, i < 2 → G i < w.heap.size := fun i hi => by
    obtain ⟨xs, hx⟩ := hown i hi
    exact (hx.lt (G i) rfl).2
  have HA1 : Hid (A1 w w1 base w.heap.size G K n 0 0) := by
    refine ⟨fun i' hi' => ?_, fun i' hi' => ⟨hown1.frozenAt i', ?_⟩, hO1.mono (fun _ _ h => h.elim), hGl, hne, rfl⟩
    · obtain ⟨xs, hx⟩ := hown i' hi'
      exact ⟨xs, owns_kept hx hO1 (fun _ _ h => h), fun k' _ hc => by omega⟩
    · have hl : (madeCells (Value.slice none 0 0).cells (2 * 1)).toList.length = 2 := by simpa using hown1.1
      exact ⟨_, (hown1.cellAt i' (by omega)).trans (List.getElem?_eq_getElem (by omega)), fun h => by omega⟩
  have HLS : Hid (∀ wr, Only (fun x => x = G 0 ∨ x = G 1) w wr → ∀ i, i < 2 → wr.cell? ⟨b2, i, none⟩ = some (.slice (some ⟨G i, 0, none⟩) n (K i))) := fun wr ho i hi => by
    refine (ho.cell (p := ⟨b2, i, none⟩) (World.block_lt_of_cell? w _ (hls i hi)) (fun e => ?_)).trans (hls i hi)
    rcases e with e | e
    · exact hb 0 (by omega) e
    · exact hb 1 (by omega) e
  have HLS0 := hide hls
  have HB := hide hb
  have HBASE := hide hbase
  clear hmk0 hown1 hgr hO1 hGl hls hown hne hb hbase
  go_enter Try.func28, Try.ntmps28
  go_wp2_with fail
  clear hmk
  obtain ⟨L, hL⟩ : ∃ L, w.heap.size = L := ⟨_, rfl⟩
  rw [hL] at HA1 ⊢
  have HL := hide hL
  clear hL
  go_loopw [4, 5] (fun x _ wr => ∃ (i : Nat), i ≤ 2 ∧ x = .int .i64 (i : Int) ∧ Hid (A1 w wr base L G K n i 0)) (fun x _ _ => 2 - (intOf x).toNat)
  case atStart => exact ⟨0, by omega, rfl, HA1⟩
  case round =>
    obtain ⟨i, hi2, rfl, HA⟩ := hrel
    by_cases hlt : i < 2
    · have hi1 : (i : Int) < 2 := by omega
      have hi0 : (0 : Int) ≤ (i : Int) := by omega
      go_wp2_with fail
      go_loopw [5] (fun y wr => ∃ (k : Nat), k ≤ n ∧ y = .int .i64 (k : Int) ∧ Hid (A1 w wr base L G K n i k)) (fun y _ => n - (intOf y).toNat)
      case atStart => exact ⟨0, by omega, rfl, HA⟩
      case round =>
        obtain ⟨k, hk, rfl, HK⟩ := hrel
        have hcl := HLS.out _ HK.out.only i hlt
        have hk0 : (0 : Int) ≤ (k : Int) := by omega
        by_cases hkn : k < n
        · obtain ⟨⟨x, hx⟩, hf, hA2⟩ := HK.out.set hlt hkn
          have hk1 : (k : Int) < (n : Int) := by omega
          have HA2 := hide hA2
          clear hA2
          go_wp2_with fail
          go_roundw
          case rel => exact ⟨k + 1, by omega, by go_num, HA2⟩
          case measure => simp [intOf]; omega
        · have ek : k = n := by omega
          subst ek
          have hk1 : ¬ (k : Int) < (k : Int) := by omega
          obtain ⟨⟨x, hx⟩, hf, hA2⟩ := HK.out.put hlt
          have HA2 := hide hA2
          clear hA2
          go_wp2_with fail
          go_roundw
          case rel => exact ⟨i + 1, by omega, by go_num, HA2⟩
          case measure => simp [intOf]; omega
    · have ei : i = 2 := by omega
      have hi1 : ¬ (i : Int) < 2 := by omega
      have HT := hide (show A2 w _ base L G n (fun _ => 0) G K from by
        have h := HA.out
        rw [ei] at h
        exact h.two)
      clear HA HA1 ei
      go_wp2_with fail
      go_loopw [6, 7] (fun x _ wr => ∃ (i : Nat) (c g cp : Nat → Nat), i ≤ 2 ∧ x = .int .i64 (i : Int) ∧ Hid (A2 w wr base L G n c g cp) ∧ Hid (∀ j, j < 2 → (j < i → c j = 16) ∧ (i ≤ j → c j = 0))) (fun x _ _ => 2 - (intOf x).toNat)
      case atStart => exact ⟨0, _, _, _, by omega, rfl, HT, fun j _ => ⟨fun h => by omega, fun _ => rfl⟩⟩
      case round =>
        obtain ⟨i, c, g, cp, hi2, rfl, HA, HC⟩ := hrel
        by_cases hlt : i < 2
        · have hi1 : (i : Int) < 2 := by omega
          have hi0 : (0 : Int) ≤ (i : Int) := by omega
          go_wp2_with fail
          go_loopw [7] (fun y wr => ∃ (k : Nat) (c g cp : Nat → Nat), k ≤ 16 ∧ y = .int .i64 (k : Int) ∧ Hid (A2 w wr base L G n c g cp) ∧ Hid (c i = k ∧ ∀ j, j < 2 → (j < i → c j = 16) ∧ (i < j → c j = 0))) (fun y _ => 16 - (intOf y).toNat)
          case atStart => exact ⟨0, c, g, cp, by omega, rfl, HA, ⟨(HC.out i hlt).2 (Nat.le_refl _), fun j hj => ⟨(HC.out j hj).1, fun h => (HC.out j hj).2 (by omega)⟩⟩⟩
          case round =>
            obtain ⟨k, c, g, cp, hk, rfl, HK, HC⟩ := hrel
            have hk0 : (0 : Int) ≤ (k : Int) := by omega
            by_cases hkn : k < 16
            · obtain ⟨g', cp', w', hr, ⟨x, hx⟩, hf, hA2⟩ := HK.out.push hlt (by have := HC.out.1; omega) hn HBASE.out
              have hcl := HK.out.cell i hlt
              rw [HC.out.1] at hr hcl hA2
              have hk1 : (k : Int) < 16 := by omega
              have HR := hide hr
              have HA2 := hide hA2
              have HC2 : Hid (upd c i (k + 1) i = k + 1 ∧ ∀ j, j < 2 → (j < i → upd c i (k + 1) j = 16) ∧ (i < j → upd c i (k + 1) j = 0)) := by
                refine ⟨by simp [upd], fun j hj => ⟨fun h => ?_, fun h => ?_⟩⟩
                · simp only [upd, if_neg (show ¬ j = i by omega)]; exact (HC.out.2 j hj).1 h
                · simp only [upd, if_neg (show ¬ j = i by omega)]; exact (HC.out.2 j hj).2 h
              obtain ⟨gi, hgi⟩ : ∃ gi, g i = gi := ⟨_, rfl⟩
              obtain ⟨ci, hci⟩ : ∃ ci, cp i = ci := ⟨_, rfl⟩
              rw [hgi, hci] at hcl HR
              clear hr hA2 hgi hci
              go_wp2_with (at_builtin; go_must (refine Lib.wpList_append_run _ rfl (.tmp 61) (.tmp 68) _ _ rfl _ _ rfl rfl _ _ HR.out ?_))
              go_roundw
              case rel =>
                exact ⟨k + 1, _, _, _, by omega, by go_num, HA2, HC2⟩
              case measure => simp [intOf]; omega
            · have HEK : Hid (k = 16) := by unfold Hid; omega
              have hk1 : ¬ (k : Int) < 16 := by omega
              go_wp2_with fail
              go_roundw
              case rel =>
                refine ⟨i + 1, c, g, cp, by omega, by go_num, HK, fun j hj => ⟨fun h => ?_, fun h => (HC.out.2 j hj).2 (by omega)⟩⟩
                by_cases e : j = i
                · rw [e, HC.out.1]; exact HEK.out
                · exact (HC.out.2 j hj).1 (by omega)
              case measure => simp [intOf]; omega
        · have hi1 : ¬ (i : Int) < 2 := by omega
          have HT3 := hide (HA.out.three (fun j hj => (HC.out j hj).1 (by omega)) HLS0.out HB.out)
          have HON := hide HA.out.only
          clear HA HC HT
          go_wp2_with fail
          go_loopw [8, 9, 10] (fun x _ _ wr => ∃ (i : Nat), i ≤ 2 ∧ x = .int .i64 (i : Int) ∧ Hid (A3 wr b2 L G K n g cp) ∧ Hid (Only (fun x => x = G 0 ∨ x = G 1) w wr)) (fun x _ _ _ => 2 - (intOf x).toNat)
          case atStart => exact ⟨0, by omega, rfl, HT3, HON⟩
          case round =>
            clear hi1 hi2
            obtain ⟨i, hi2, rfl, HA, HO⟩ := hrel
            by_cases hlt : i < 2
            · have hi1 : (i : Int) < 2 := by omega
              have hi0 : (0 : Int) ≤ (i : Int) := by omega
              go_wp2_with fail
              go_loopw [9] (fun y wr => ∃ (k : Nat), k ≤ n ∧ y = .int .i64 (k : Int) ∧ Hid (A3 wr b2 L G K n g cp) ∧ Hid (Only (fun x => x = G 0 ∨ x = G 1) w wr)) (fun y _ => n - (intOf y).toNat)
              case atStart => exact ⟨0, by omega, rfl, HA, HO⟩
              case round =>
                clear HA HO
                obtain ⟨k, hk, rfl, HA, HO⟩ := hrel
                have hcl := HA.out.ls i hlt
                have hk0 : (0 : Int) ≤ (k : Int) := by omega
                by_cases hkn : k < n
                · have hk1 : (k : Int) < (n : Int) := by omega
                  have hk2 : (k : Int) < (n : Int) + 16 := by omega
                  have hlg := HA.out.lg i hlt
                  have hor : _ = some (Value.int .i64 ((i : Int) * 1000003 + (k : Int))) := HA.out.orig i k hlt hkn
                  have hhd : _ = some (Value.int .i64 ((i : Int) * 1000003 + (k : Int))) := HA.out.head i k hlt hkn
                  obtain ⟨gi, hgi⟩ : ∃ gi, g i = gi := ⟨_, rfl⟩
                  obtain ⟨ci, hci⟩ : ∃ ci, cp i = ci := ⟨_, rfl⟩
                  obtain ⟨Gi, hGi⟩ : ∃ Gi, G i = Gi := ⟨_, rfl⟩
                  obtain ⟨Ki, hKi⟩ : ∃ Ki, K i = Ki := ⟨_, rfl⟩
                  rw [hgi] at hlg hhd
                  rw [hci] at hlg
                  rw [hGi] at hcl hor
                  rw [hKi] at hcl
                  clear hgi hci hGi hKi
                  go_wp2_with fail
                  go_roundw
                  case rel => exact ⟨k + 1, by omega, by go_num, HA, HO⟩
                  case measure => simp [intOf]; omega
                · have hk1 : ¬ (k : Int) < (n : Int) := by omega
                  go_wp2_with fail
                  go_loopw [10] (fun y wr => ∃ (k : Nat), k ≤ 16 ∧ y = .int .i64 (k : Int) ∧ Hid (A3 wr b2 L G K n g cp) ∧ Hid (Only (fun x => x = G 0 ∨ x = G 1) w wr)) (fun y _ => 16 - (intOf y).toNat)
                  case atStart => exact ⟨0, by omega, rfl, HA, HO⟩
                  case round =>
                    clear HA HO hcl hk0 hkn hk1
                    obtain ⟨k, hk, rfl, HA, HO⟩ := hrel
                    have hcl := HA.out.ls i hlt
                    have hk0 : (0 : Int) ≤ (k : Int) := by omega
                    by_cases hkn : k < 16
                    · have hk1 : (k : Int) < 16 := by omega
                      have hlg := HA.out.lg i hlt
                      have htl : _ = some (Value.int .i64 (-(i : Int) * 1000003 - (k : Int) - 1)) := HA.out.tail i k hlt hkn
                      obtain ⟨m, hm⟩ : ∃ m, n + k = m := ⟨_, rfl⟩
                      rw [hm] at htl
                      have hmI : (n : Int) + (k : Int) = (m : Int) := by omega
                      have hm0 : (0 : Int) ≤ (m : Int) := by omega
                      have hm1 : (m : Int) < (n : Int) + 16 := by omega
                      obtain ⟨gi, hgi⟩ : ∃ gi, g i = gi := ⟨_, rfl⟩
                      obtain ⟨ci, hci⟩ : ∃ ci, cp i = ci := ⟨_, rfl⟩
                      obtain ⟨Gi, hGi⟩ : ∃ Gi, G i = Gi := ⟨_, rfl⟩
                      obtain ⟨Ki, hKi⟩ : ∃ Ki, K i = Ki := ⟨_, rfl⟩
                      rw [hgi] at hlg htl
                      rw [hci] at hlg
                      rw [hGi, hKi] at hcl
                      clear hgi hci hGi hKi hm
                      go_wp2_with fail
                      go_region
                      go_wp2_with fail
                      go_roundw
                      case rel => exact ⟨k + 1, by omega, by go_num, HA.out.more (Only.drew _ _), HO.out.trans (Only.drew (fun x => x = G 0 ∨ x = G 1) _) (fun _ _ h => h)⟩
                      case measure => simp [intOf]; omega
                    · have hk1 : ¬ (k : Int) < 16 := by omega
                      go_wp2_with fail
                      go_roundw
                      case rel => exact ⟨i + 1, by omega, by go_num, HA, HO⟩
                      case measure => simp [intOf]; omega
            · have hi1 : ¬ (i : Int) < 2 := by omega
              go_wp2_with fail
              go_ret
              exact ⟨rfl, HO.out⟩
end Go.Proofs.Ytachbonlakbjmaa
