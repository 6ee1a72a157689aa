/- What Slot does, of package tuple and the document's. -/
import Derived.Test.YtpbpamhlenogoaaUMem
import Derived.Deep.DeepCutAuto
namespace Go.Proofs.Ytpbpamhlenogoaa
open Go.RowKit

theorem ba_empty (s : ByteArray) : (s.toList.isEmpty) = decide (s.size = 0) := by
  rw [ByteArray.toList_eq]
  have h := bl_len s
  unfold bl at h
  cases e : s.data.toList with
  | nil => rw [e] at h; simp at h; simp [← h]
  | cons a r => rw [e] at h; simp at h; simp; intro h0; rw [h0] at h; simp at h
set_option maxRecDepth 100000 in
set_option maxHeartbeats 800000 in
theorem index_any (w : World) (B cp : Nat) (ao : Option Addr) (l : List ByteArray) (hS : Strs w B ao l) :
    Calls Try.prog 34 #[.slice ao l.length cp, .string ⟨#[]⟩] w fun e w' => e = .returned (.int .i64 (if slotL l < l.length then (slotL l : Int) else -1)) ∧ w' = w := by
  have hln := hS.len
  have HS := hide hS
  clear hS
  obtain ⟨R, hR⟩ : ∃ R, (if slotL l < l.length then (slotL l : Int) else -1) = R := ⟨_, rfl⟩
  rw [hR]
  have HR := hide hR
  clear hR
  go_enter Try.func34, Try.ntmps34
  go_wp2_with fail
  go_loopw [8] (fun i wr => ∃ (k : Nat), k ≤ l.length ∧ i = .int .i64 k ∧ Hid (wr = w) ∧ Hid (∀ j (hj : j < k) (hl : j < l.length), ¬ l[j].size = 0))
    (fun i _ => l.length - (intOf i).toNat)
  case atStart => exact ⟨0, Nat.zero_le _, rfl, rfl, fun j hj => absurd hj (by omega)⟩
  case round =>
    obtain ⟨k, hk, rfl, hw, HB⟩ := hrel
    obtain rfl := hw.out.symm
    clear hw
    by_cases hlt : k < l.length
    · obtain ⟨o, rfl, hc⟩ := HS.out.at_ (by omega)
      have ck : w.cell? ⟨B, o + k, none⟩ = some (.string l[k]) := hc k hlt
      have hlk : (k : Int) < (l.length : Int) := by omega
      have he := ba_empty l[k]
      by_cases hz : l[k].size = 0
      · have HE : Hid (slotL l = k) := slotL_at hlt hz (fun j hj => HB.out j hj (by omega))
        rw [decide_eq_true hz] at he
        obtain ⟨s, hs⟩ : ∃ s, l[k] = s := ⟨_, rfl⟩
        rw [hs] at ck he
        have hes : s = ⟨#[]⟩ := by
          have h1 : s.size = 0 := by rw [← hs]; exact hz
          have h2 := bl_len s
          exact bl_inj (List.eq_nil_of_length_eq_zero (by omega))
        subst hes
        clear hc hz hs he
        go_wp2_with fail
        go_ret
        refine ⟨?_, rfl⟩
        rw [← HR.out, HE.out, if_pos hlt]
        rfl
      · have HB2 : Hid (∀ j (hj : j < k + 1) (hl : j < l.length), ¬ l[j].size = 0) := fun j hj hl => by
          by_cases e : j = k
          · subst e
            exact hz
          · exact HB.out j (by omega) hl
        rw [decide_eq_false hz] at he
        obtain ⟨s, hs⟩ : ∃ s, l[k] = s := ⟨_, rfl⟩
        rw [hs] at ck he
        clear hc hz hs
        go_wp2_with fail
        go_roundw
        case rel => exact ⟨k + 1, by omega, by go_num, hide trivial, HB2⟩
        case measure => simp [intOf]; omega
    · have hlk : ¬ (k : Int) < (l.length : Int) := by omega
      have HE : Hid (slotL l = l.length) := slotL_all (fun j hj => HB.out j (by omega) hj)
      go_wp2_with fail
      go_ret
      refine ⟨?_, rfl⟩
      rw [← HR.out, HE.out, if_neg (by omega)]
      rfl
set_option maxRecDepth 100000 in
set_option maxHeartbeats 800000 in
theorem uslot_any (w : World) (a k v r : Int) (h : ByteArray) (B cp : Nat) (ao : Option Addr) (l : List ByteArray) (hS : Strs w B ao l) :
    Calls Try.prog 17 #[.agg #[.int .i64 a, .int .i64 k, .int .i64 v, .int .i64 r, .string h, .slice ao l.length cp]] w fun e w' => e = .returned (.int .i64 (slotL l)) ∧ Only (fun _ => False) w w' := by
  have HI := hide (index_any _ B cp ao l (hS.more (onlyA w (.cells #[.int .i64 a, .int .i64 k, .int .i64 v, .int .i64 r, .string h, .slice ao l.length cp] 24))))
  have hle := slotL_le l
  have hln := hS.len
  have HO := hide (onlyA w (.cells #[.int .i64 a, .int .i64 k, .int .i64 v, .int .i64 r, .string h, .slice ao l.length cp] 24))
  clear hS
  by_cases hlt : slotL l < l.length
  · rw [if_pos hlt] at HI
    obtain ⟨n, hn⟩ : ∃ n, slotL l = n := ⟨_, rfl⟩
    rw [hn] at HI hlt hle ⊢
    clear hn
    go_enter Try.func17, Try.ntmps17
    go_wp2_with fail
    refine HI.out.mono ?_
    rintro e w1 ⟨rfl, hw⟩
    obtain rfl := hw.symm
    clear hw
    go_wp2_with fail
    go_ret
    exact ⟨rfl, HO.out⟩
  · rw [if_neg hlt] at HI
    have e : slotL l = l.length := by omega
    rw [e]
    clear e hlt hle
    go_enter Try.func17, Try.ntmps17
    go_wp2_with fail
    refine HI.out.mono ?_
    rintro e w1 ⟨rfl, hw⟩
    obtain rfl := hw.symm
    clear hw
    go_wp2_with fail
    go_ret
    exact ⟨rfl, HO.out⟩
end Go.Proofs.Ytpbpamhlenogoaa
