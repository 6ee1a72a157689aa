/- What the document's own Num and Text lay, over records' base. -/
import Derived.Test.YthhlmhghiknnkaaRWr
import Derived.Test.YthhlmhghiknnkaaPMem
namespace Go.Proofs.Ythhlmhghiknnkaa
open Go.RowKit

theorem only_row {w wr w1 : World} {v : Value} {row : Option Nat} {l : List UInt8} (ho : Only (fun _ => False) w wr) (hr : Row wr w.heap.size v row l) {o : Obj} (h1 : Only (fun k => some k = row) (wr.alloc o) w1) : Only (fun _ => False) w w1 := by
  refine (ho.trans (Only.alloc (fun _ => False) wr o) (fun _ _ h => h)).trans h1 ?_
  intro i hi e
  have := (hr.lt i e.symm).1
  omega

theorem refNum_none (w : World) (ao : Option Addr) (c : Nat) : Calls Try.prog 39 #[.slice ao 0 c] w fun e w' => e = .returned (.string ⟨#[]⟩) ∧ Only (fun _ => False) w w' := by
  have hcv := bytes_back w w.heap.size (.slice none 0 0) none [] ⟨World.ownsRow_nil _ _ _ _, rfl⟩
  go_enter Try.func39, Try.ntmps39
  go_wp2
  refine wp_loop_rounds 1 ?_
  rw [rounds_succ]
  go_wp2
  go_ret
  exact ⟨rfl, Only.refl _ _⟩

set_option maxRecDepth 100000 in
set_option maxHeartbeats 1600000 in
theorem refNum_any (w : World) (zs : List Int) (g off cap : Nat) (hc : ∀ k, k < zs.length → w.cell? ⟨g, off + k, none⟩ = some (.int .i64 (zs.getD k 0))) (hz : ∀ k, k < zs.length → zs.getD k 0 < 9223372036854775808) (hgl : g < w.heap.size) (hl : 10 * zs.length + 20 ≤ 158329674399744) :
    Calls Try.prog 39 #[.slice (some ⟨g, off, none⟩) zs.length cap] w fun e w' => e = .returned (.string ⟨(nums zs).toArray⟩) ∧ Only (fun _ => False) w w' := by
  obtain ⟨i0, hi, hz0, hz1, hz2⟩ := info_parts Try.infoByte
  have HC := hide hc
  have HZ := hide hz
  clear hc hz
  go_enter Try.func39, Try.ntmps39
  go_wp2
  go_loopw [3, 4, 5] (fun v i _ wr => ∃ (k : Nat) (row : Option Nat), k ≤ zs.length ∧ i = .int .i64 k ∧ Hid (Row wr w.heap.size v row (nums (zs.take k))) ∧ Hid (Only (fun _ => False) w wr))
    (fun _ i _ _ => zs.length - (intOf i).toNat)
  case atStart => exact ⟨0, none, Nat.zero_le _, rfl, ⟨World.ownsRow_nil _ _ _ _, rfl⟩, Only.refl _ _⟩
  case round =>
    obtain ⟨k, row, hk, rfl, HR, HO⟩ := hrel
    by_cases hlt : k < zs.length
    · have hck : wr.cell? ⟨g, off + k, none⟩ = some (.int .i64 (zs.getD k 0)) := (HO.out.cell (p := ⟨g, off + k, none⟩) hgl (fun h => h)).trans (HC.out k hlt)
      have hzk := HZ.out k hlt
      have hnl := nums_len (zs.take k)
      have hnl2 : (zs.take k).length ≤ k := List.length_take_le _ _
      have HN := hide (nums_snoc zs k hlt)
      obtain ⟨z, hzz⟩ : ∃ z, zs.getD k 0 = z := ⟨_, rfl⟩
      rw [hzz] at hck hzk HN
      clear hzz
      generalize nums (zs.take k) = l at *
      have hll : l.length ≤ 10 * k := by omega
      by_cases hneg : z < 0
      all_goals
        go_wp2
        go_loopw [3, 5] (fun v n wq => ∃ (q f : Nat) (row' : Option Nat) (l' : List UInt8), n = .int .i64 q ∧ Hid (Row wq w.heap.size v row' l') ∧ f ≤ 9 ∧ q < 9223372036854775808 ∧ Hid (q < 128 ^ f) ∧ Hid (l' ++ sevF f q = l ++ sev z.toNat) ∧ Hid (Only (fun _ => False) w wq) ∧ l'.length + f ≤ l.length + 9)
          (fun _ n _ => (intOf n).toNat)
        case atStart => exact ⟨z.toNat, 9, row, l, by go_num, HR, by omega, by omega, (by unfold Hid; omega), (by unfold Hid; rfl), HO, by omega⟩
        case round =>
          obtain ⟨q, f, row', l', rfl, HR1, hf, hq, Hq, HL, HO1, hlen⟩ := hrel
          by_cases h128 : (128 : Int) ≤ q
          · have HD : Hid (∀ o : World, o = wr.alloc (.cells #[.int .u8 ((q : Int) % 128 + 128)] 5) → o.cell? ⟨wr.heap.size, 0, none⟩ = some (.int .u8 (((UInt8.ofNat (q % 128 + 128)).toNat : Nat) : Int))) := by
              intro o ho
              subst ho
              rw [byte_nat (by omega)]
              simp
            go_wp2_with (at_builtin; go_must (refine wpList_byte _ rfl (.tmp 19) (.tmp 24) 93 rfl w.heap.size i0 Try.underlying93 hi hz0 hz1 hz2 _ row' l' rfl (HR1.out.alloc _) ⟨wr.heap.size, 0, none⟩ 1 (UInt8.ofNat (q % 128 + 128)) rfl (HD.out _ rfl) (by omega) (by have := HO1.out.size; simp; omega) ?_); intro v1 w1 row1 hr1 ho1 hrow1; clear hrow1; have HR2 := hide (And.intro hr1 (only_row HO1.out HR1.out ho1)); clear hr1 ho1)
            obtain ⟨f', hf', HL', Hq'⟩ := sevF_step HL.out Hq.out (by omega)
            go_roundw
            case rel => exact ⟨q / 128, f', row1, l' ++ [UInt8.ofNat (q % 128 + 128)], by go_num, HR2.out.1, by omega, by omega, Hq', HL', HR2.out.2, by simp; omega⟩
            case measure => simp [intOf]; omega
          · have HD : Hid (∀ o : World, o = wr.alloc (.cells #[.int .u8 (q : Int)] 5) → o.cell? ⟨wr.heap.size, 0, none⟩ = some (.int .u8 (((UInt8.ofNat q).toNat : Nat) : Int))) := by
              intro o ho
              subst ho
              rw [byte_nat (by omega)]
              simp
            have HL2 : Hid (l ++ sev z.toNat = l' ++ [UInt8.ofNat q]) := by unfold Hid; rw [← HL.out, sevF_end (by omega)]
            go_wp2_with (at_builtin; go_must (refine wpList_byte _ rfl (.tmp 28) (.tmp 31) 93 rfl w.heap.size i0 Try.underlying93 hi hz0 hz1 hz2 _ row' l' rfl (HR1.out.alloc _) ⟨wr.heap.size, 0, none⟩ 1 (UInt8.ofNat q) rfl (HD.out _ rfl) (by omega) (by have := HO1.out.size; simp; omega) ?_); intro v1 w1 row1 hr1 ho1 hrow1; clear hrow1; have HR2 := hide (And.intro hr1 (only_row HO1.out HR1.out ho1)); clear hr1 ho1)
            go_roundw
            case rel => exact ⟨k + 1, row1, by omega, by go_num, by rw [HN.out, HL2.out]; exact HR2.out.1, HR2.out.2⟩
            case measure => simp [intOf]; omega
    · have HT : Hid (zs.take k = zs) := List.take_of_length_le (by omega)
      have hR := HR.out
      rw [HT.out] at hR
      have hcv := bytes_back wr _ _ _ _ hR
      clear hR
      go_wp2
      go_ret
      exact ⟨rfl, HO.out⟩

theorem refNum_one (w : World) (z : Int) (hz : z < 9223372036854775808) :
    Calls Try.prog 39 #[.slice (some ⟨w.heap.size, 0, none⟩) 1 1] (w.alloc (.cells #[.int .i64 z] 3)) fun e w' => e = .returned (.string ⟨(sev z.toNat).toArray⟩) ∧ Only (fun _ => False) w w' := by
  have h := refNum_any (w.alloc (.cells #[.int .i64 z] 3)) [z] w.heap.size 0 1
    (by intro k hk; have e : k = 0 := by simpa using hk
        subst e; simp)
    (by intro k hk; have e : k = 0 := by simpa using hk
        subst e; simpa using hz)
    (by simp) (by simp)
  refine Calls.mono h ?_
  rintro e w' ⟨he, h2⟩
  exact ⟨by rw [he]; simp [nums], (Only.alloc (fun _ => False) w _).trans h2 (fun _ _ h => h)⟩
end Go.Proofs.Ythhlmhghiknnkaa
