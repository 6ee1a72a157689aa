/- What Sum, Of and Big do, the program's and the document's. -/
import Derived.Test.YtpogphaflhfmbaaDText
import Derived.Test.YtpogphaflhfmbaaCrc
namespace Go.Proofs.Ytpogphaflhfmbaa
open Go.RowKit

theorem set_rep (j : Nat) (d : List UInt8) (u : UInt8) : (List.replicate (j + 1) 0 ++ d).set j u = List.replicate j 0 ++ u :: d := by
  induction j with
  | zero => rfl
  | succ j ih =>
    rw [List.replicate_succ, List.cons_append, List.set_cons_succ, ih]
    rfl
/-- The lowest so many bytes of a number, the highest one first. -/
def bigF : Nat → Nat → List UInt8
  | 0, _ => []
  | k + 1, n => bigF k (n / 256) ++ [UInt8.ofNat (n % 256)]
theorem bigF_len (k n : Nat) : (bigF k n).length = k := by
  induction k generalizing n with
  | zero => rfl
  | succ k ih => simp [bigF, ih]
theorem Try.infoByte : (Try.prog.info? 5).map (fun i => (i.zero, i.size, i.bytes)) = some (some (.int .u8 0), 1, 1) := by kernel_rfl
set_option maxHeartbeats 400000 in
theorem of_any (s : ByteArray) (w : World) (hs : s.size ≤ maxLen) :
    Calls Try.prog 30 #[.string s] w fun e w' => e = .returned (.int .i64 (ofTo s.data.toList % 9223372036854775808)) ∧ w' = w := by
  unfold maxLen at hs
  go_enter Try.func30, Try.ntmps30
  go_wp2
  go_loop [3, 4] (fun c i => ∃ (k : Nat) (q : Int), k ≤ s.size ∧ i = .int .i64 k ∧ c = .int .u64 q ∧ q = ofTo (s.data.toList.take k) ∧ 0 ≤ q ∧ q < 18446744073709551616) (fun _ i => s.size - (intOf i).toNat)
  case atStart => exact ⟨0, 0, Nat.zero_le _, rfl, rfl, rfl, by decide, by decide⟩
  case round =>
    obtain ⟨k, q, hk, rfl, rfl, hq, q0, q1⟩ := hrel
    have HQ : Hid (q = ofTo (s.data.toList.take k)) := hq
    clear hq
    by_cases hlt : k < s.size
    · have HS : Hid (ofTo (s.data.toList.take (k + 1)) = (q * 256 + (s[k].toNat : Int)) % 18446744073709551616) := by
        unfold Hid; rw [take_snoc s k hlt, ofTo_snoc, ← HQ.out]
      go_wp2
      go_round
      case rel => exact ⟨k + 1, ofTo (s.data.toList.take (k + 1)), by omega, by go_num, by rw [HS.out, of_step q s[k]], rfl, (ofTo_bd _).1, (ofTo_bd _).2⟩
      case measure => simp [intOf]; omega
    · have HT := take_all s k hlt
      have HO : Hid (q % 9223372036854775808 = ofTo s.data.toList % 9223372036854775808) := by unfold Hid; rw [HQ.out, HT]
      go_wp2
      go_ret
      exact ⟨ret_int (by rw [of_last q q0 q1]; exact HO.out), rfl⟩
theorem bytes_back (w : World) (base : Nat) (v : Value) (row : Option Nat) (l : List UInt8) (hr : Row w base v row l) : (convert 53 9 v).run Try.prog w = .ok (.string ⟨l.toArray⟩) w := by
  rcases hr.own.2 with ⟨rfl, hn⟩ | ⟨g, cap, cur, rfl, hb, hg, hn, hm, hs, htake⟩
  · have e : l = [] := List.eq_nil_of_length_eq_zero hn
    subst e
    rw [run_convert_bytes_nil w 53 5 Try.underlying53 Try.underlying5 0 0 9 Try.underlying9]
    rfl
  · refine run_convert_bytes_back w 53 9 5 ⟨g, 0, none⟩ cap l Try.underlying53 Try.underlying5 Try.underlying9 ?_
    intro j hj
    refine hr.own.cells (g := g) rfl j _ ?_
    unfold cells
    simp [List.getElem?_eq_getElem hj]
set_option maxRecDepth 100000 in
set_option maxHeartbeats 800000 in
theorem big_any (n k : Nat) (w : World) (hk : 1 ≤ k) (hk8 : k ≤ 8) (hn : n < 9223372036854775808) :
    Calls Try.prog 28 #[.int .i64 n, .int .i64 k] w fun e w' => e = .returned (.string ⟨(bigF k n).toArray⟩) ∧ Only (fun _ => False) w w' := by
  obtain ⟨i0, hi, hz0, hz1, hz2⟩ := info_parts Try.infoByte
  obtain ⟨w1, hmk, hown, hgr⟩ := run_make_full (P := Try.prog) w w.heap.size 53 5 i0 (.int .u8 0) 1 Try.underlying53 hi hz0 hz1 .i64 .i64 k (by rw [hz2]; omega) (by unfold maxLen; omega) (Nat.le_refl _)
  have hrow : Row w1 w.heap.size (.slice (some ⟨w.heap.size, 0, none⟩) k k) (some w.heap.size) (List.replicate k 0) := by
    refine ⟨?_, rfl⟩
    have e : (madeCells (Value.int .u8 0).cells (k * 1)).toList = cells (List.replicate k 0) := by
      have : (Value.int IntKind.u8 0).cells = #[.int .u8 0] := rfl
      rw [this, toList_madeCells_one]; simp [cells]
    rw [e] at hown
    simpa using hown
  have hon : Only (fun _ => False) w w1 := Only.grown hgr (fun k hk => by cases hk)
  have HROW := hide hrow
  have HON := hide hon
  clear hrow hon hgr hown
  go_enter Try.func28, Try.ntmps28
  go_wp2
  go_loopw [0, 6] (fun x i wr => ∃ (j q : Nat) (d : List UInt8), j ≤ k ∧ i = .int .i64 ((j : Int) - 1) ∧ x = .int .i64 q ∧ q < 9223372036854775808 ∧ Hid (bigF j q ++ d = bigF k n) ∧ Hid (Row wr w.heap.size (.slice (some ⟨w.heap.size, 0, none⟩) k k) (some w.heap.size) (List.replicate j 0 ++ d)) ∧ Hid (Only (fun _ => False) w wr))
    (fun _ i _ => (intOf i + 1).toNat)
  case atStart => exact ⟨k, n, [], by omega, rfl, rfl, hn, by unfold Hid; simp, by rw [List.append_nil]; exact HROW, HON⟩
  case round =>
    obtain ⟨j, q, d, hj, rfl, rfl, hq, HB, HR, HO⟩ := hrel
    by_cases hlt : 1 ≤ j
    · obtain ⟨j', rfl⟩ : ∃ j', j = j' + 1 := ⟨j - 1, by omega⟩
      obtain ⟨⟨v0, hc0⟩, hf0⟩ := HR.out.at0 (j := j') (by omega)
      go_wp2
      have hd : ((UInt8.ofNat (q % 256)).toNat : Int) = (q : Int) % 256 := by rw [byte_nat (by omega)]; omega
      have hst := HR.out.store j' (UInt8.ofNat (q % 256))
      rw [hd, set_rep] at hst
      have hB2 : bigF j' (q / 256) ++ UInt8.ofNat (q % 256) :: d = bigF k n := by rw [← HB.out, bigF]; simp
      go_roundw
      case rel => exact ⟨j', q / 256, UInt8.ofNat (q % 256) :: d, by omega, by go_num, by go_num, by omega, hB2, hst.1, HO.out.trans hst.2 (fun i h1 h2 => by omega)⟩
      case measure => simp [intOf]
    · have e0 : j = 0 := by omega
      have hB2 : d = bigF k n := by have h := HB.out; rw [e0] at h; simpa [bigF] using h
      have hR2 := HR.out
      rw [e0, hB2] at hR2
      have hR3 : Row wr w.heap.size (.slice (some ⟨w.heap.size, 0, none⟩) k k) (some w.heap.size) (bigF k n) := by simpa using hR2
      have hcv := bytes_back wr _ _ _ _ hR3
      clear hR2 hB2
      have HR3 := hide hR3
      clear hR3
      go_wp2
      go_ret
      exact ⟨rfl, HO.out⟩
theorem sbit_yes2 (q : Int) (h0 : 0 ≤ q) (h1 : q < 4294967296) (h : (q % 2 == 1) = true) : bits BinOp.xor IntKind.u32 (q / 2) 3988292384 = sbit q :=
  sbit_yes q (by rw [and1_u32 q h0 h1]; exact h)
theorem sbit_no2 (q : Int) (h0 : 0 ≤ q) (h1 : q < 4294967296) (h : (q % 2 == 1) = false) : q / 2 = sbit q :=
  sbit_no q (by rw [and1_u32 q h0 h1]; exact h)

theorem of_ref (o : Int) (b : UInt8) : o % 9223372036854775808 % 36028797018963968 * 256 + (b.toNat : Int) = (o * 256 + (b.toNat : Int)) % 18446744073709551616 % 9223372036854775808 := by
  have hb := b.toNat_lt
  omega
end Go.Proofs.Ytpogphaflhfmbaa
