/- Parts. -/
import Derived.Test.YtpnbhddmdfcjdaaGreatK05
set_option maxRecDepth 100000
namespace Go.Proofs.YtpnbhddmdfcjdaaGreat
open Go.RowKit
set_option maxRecDepth 100000 in
set_option maxHeartbeats 800000 in
theorem appendSevens_any (w : World) (v : Value) (row : Option Nat) (l : List UInt8) (base : Nat) (n : Nat) (hown : Row w base v row l) (hb : base ≤ w.heap.size) (hn : n < 9223372036854775808) (hl : l.length + 10 ≤ 158329674399744) :
    Calls Tryz.prog 130 #[v, .int .i64 n] w fun e w' => ∃ v' row', e = .returned v' ∧ Row w' base v' row' (l ++ sev n) ∧ Gro w w' row row' := by
  obtain ⟨i0, hi, hz0, hz1, hz2⟩ := info_parts Tryz.infoByte
  go_enter Tryz.func130, Tryz.ntmps130
  go_wp2
  go_loopw [0, 1] (fun x y wr => ∃ (q f : Nat) (row' : Option Nat) (l' : List UInt8), y = .int .i64 q ∧ Row wr base x row' l' ∧ f ≤ 9 ∧ q < 9223372036854775808 ∧ Hid (q < 128 ^ f) ∧ Hid (l' ++ sevF f q = l ++ sev n) ∧ Gro w wr row row' ∧ l'.length + f ≤ l.length + 9)
    (fun _ y _ => (intOf y).toNat)
  case atStart => exact ⟨n, 9, row, l, rfl, hown, by omega, hn, (by unfold Hid; omega), (by unfold Hid; rfl), Gro.refl _ _, by omega⟩
  case round =>
    obtain ⟨q, f, row', l', rfl, hr, hf, hq, Hq, HL, hgr, hlen⟩ := hrel
    by_cases hlt : (128 : Int) ≤ q
    · have hd : ∀ o : World, o = wr.alloc (.cells #[.int .u8 ((q : Int) % 128 + 128)] 5) → o.cell? ⟨wr.heap.size, 0, none⟩ = some (.int .u8 (((UInt8.ofNat (q % 128 + 128)).toNat : Nat) : Int)) := by
        intro o ho
        subst ho
        rw [byte_nat (by omega)]
        simp
      have HD : Hid (∀ o : World, o = wr.alloc (.cells #[.int .u8 ((q : Int) % 128 + 128)] 5) → o.cell? ⟨wr.heap.size, 0, none⟩ = some (.int .u8 (((UInt8.ofNat (q % 128 + 128)).toNat : Nat) : Int))) := hd
      clear hd
      go_wp2_with (at_builtin; go_must (refine wpList_byte _ rfl (.tmp 7) (.tmp 12) 100 rfl base i0 Tryz.underlying100 hi hz0 hz1 hz2 _ row' l' rfl (hr.alloc _) ⟨wr.heap.size, 0, none⟩ 1 (UInt8.ofNat (q % 128 + 128)) rfl (HD.out _ rfl) (by omega) (by have := hgr.only.size; simp; omega) ?_); intro v1 w1 row1 hr1 ho1 hrow1)
      obtain ⟨f', hf', HL', Hq'⟩ := sevF_step HL.out Hq.out (by omega)
      go_roundw
      case rel => exact ⟨q / 128, f', row1, l' ++ [UInt8.ofNat (q % 128 + 128)], by go_num, hr1, by omega, by omega, Hq', HL', hgr.trans ((Gro.alloc _ _ _).trans (Gro.one ho1 hrow1)), by simp; omega⟩
      case measure => simp [intOf]; omega
    · go_wp2_with (at_builtin; go_must (refine wpList_byte _ rfl (.tmp 16) (.tmp 19) 100 rfl base i0 Tryz.underlying100 hi hz0 hz1 hz2 _ row' l' rfl (hr.alloc _) ⟨wr.heap.size, 0, none⟩ 1 (UInt8.ofNat q) rfl (by rw [byte_nat (by omega)]; simp) (by omega) (by have := hgr.only.size; simp; omega) ?_); intro v1 w1 row1 hr1 ho1 hrow1)
      have hl2 : l ++ sev n = l' ++ [UInt8.ofNat q] := by rw [← HL.out, sevF_end (by omega)]
      go_ret
      rw [hl2]
      exact ⟨_, rfl, row1, hr1, hgr.trans ((Gro.alloc _ _ _).trans (Gro.one ho1 hrow1))⟩
theorem appendSevens_int (w : World) (v : Value) (row : Option Nat) (l : List UInt8) (base : Nat) (z : Int) (hown : Row w base v row l) (hb : base ≤ w.heap.size) (h0 : 0 ≤ z) (hn : z < 9223372036854775808) (hl : l.length + 10 ≤ 158329674399744) :
    Calls Tryz.prog 130 #[v, .int .i64 z] w fun e w' => ∃ v' row', e = .returned v' ∧ Row w' base v' row' (l ++ sev z.toNat) ∧ Gro w w' row row' := by
  obtain ⟨n, rfl⟩ := Int.eq_ofNat_of_zero_le h0
  rw [Int.toNat_natCast]
  exact appendSevens_any w v row l base n hown hb (by omega) hl
theorem wnum_none (w : World) (b : Nat) (ao : Option Addr) (c : Nat) : Calls Tryz.prog 83 #[.pointer (some ⟨b, 0, none⟩), .slice ao 0 c] w fun e w' => e = .returned (.tuple #[]) ∧ w' = w := by
  go_enter Tryz.func83, Tryz.ntmps83
  go_wp2
  refine wp_loop_rounds 1 ?_
  rw [rounds_succ]
  go_wp2
  go_end0
  exact ⟨rfl, rfl⟩
set_option maxRecDepth 100000 in
set_option maxHeartbeats 800000 in
theorem wnum_any (w : World) (b : Nat) (row : Option Nat) (l : List UInt8) (zs : List Int) (g off cap : Nat) (hW : Wr w b row l)
    (hc : ∀ k, k < zs.length → w.cell? ⟨g, off + k, none⟩ = some (.int .i64 (zs.getD k 0))) (hz : ∀ k, k < zs.length → zs.getD k 0 < 9223372036854775808)
    (hgb : g ≠ b) (hgr : some g ≠ row) (hgl : g < w.heap.size) (hl : l.length + 10 * zs.length + 10 ≤ 158329674399744) :
    Calls Tryz.prog 83 #[.pointer (some ⟨b, 0, none⟩), .slice (some ⟨g, off, none⟩) zs.length cap] w fun e w' => e = .returned (.tuple #[]) ∧ ∃ row', Wr w' b row' (l ++ nums zs) ∧ WGro w w' b row row' := by
  go_enter Tryz.func83, Tryz.ntmps83
  go_wp2
  go_loopw [10] (fun i wr => ∃ (k : Nat) (row' : Option Nat), k ≤ zs.length ∧ i = .int .i64 k ∧ Wr wr b row' (l ++ nums (zs.take k)) ∧ WGro w wr b row row')
    (fun i _ => zs.length - (intOf i).toNat)
  case atStart => exact ⟨0, row, Nat.zero_le _, rfl, by simpa [nums] using hW, WGro.refl _ _ _⟩
  case round =>
    obtain ⟨k, row', hk, rfl, hWr, hg⟩ := hrel
    by_cases hlt : k < zs.length
    · have hck : wr.cell? ⟨g, off + k, none⟩ = some (.int .i64 (zs.getD k 0)) := (hg.only.cell (p := ⟨g, off + k, none⟩) hgl (by simp; exact ⟨hgb, hgr⟩)).trans (hc k hlt)
      have hzk := hz k hlt
      obtain ⟨z, hzz⟩ : ∃ z, zs.getD k 0 = z := ⟨_, rfl⟩
      rw [hzz] at hck hzk
      have HZ : Hid (zs.getD k 0 = z) := hzz
      clear hzz
      obtain ⟨⟨v, hcv, hrv⟩, hfz, hbl⟩ := hWr
      have hlen : (l ++ nums (zs.take k)).length + 10 ≤ 158329674399744 := by
        have h1 := nums_len (zs.take k)
        have h2 : (zs.take k).length ≤ k := List.length_take_le _ _
        rw [List.length_append]; omega
      have hnb : some b ≠ row' := by
        intro e
        have h1 := hrv.lt b e.symm
        omega
      have HN : Hid (nums (zs.take (k + 1)) = nums (zs.take k) ++ sev z.toNat) := by unfold Hid; rw [nums_snoc zs k hlt, HZ.out]
      have fin : ∀ (v1 : Value) (w1 : World) (row1 : Option Nat), Row w1 (b + 1) v1 row1 (l ++ nums (zs.take k) ++ sev z.toNat) → Gro wr w1 row' row1 →
          Wr (w1.setCell ⟨b, 0, none⟩ v1) b row1 (l ++ nums (zs.take (k + 1))) ∧ WGro w (w1.setCell ⟨b, 0, none⟩ v1) b row row1 := by
        intro v1 w1 row1 hr1 hg1
        refine ⟨?_, (hg.trans (hg1.wgro b)).store v1⟩
        rw [HN.out, ← List.append_assoc]
        have hc1 : w1.cell? ⟨b, 0, none⟩ = some v := (hg1.only.cell (p := ⟨b, 0, none⟩) hbl hnb).trans hcv
        have hf1 : w1.frozen? ⟨b, 0, none⟩ = false := (hg1.only.frozen (p := ⟨b, 0, none⟩) hbl hnb).trans hfz
        exact Wr.stored hc1 hf1 hr1
      have FIN := hide fin
      clear fin
      by_cases hneg : z < 0
      · have HZ0 : Hid (z.toNat = (0 : Int).toNat) := by unfold Hid; omega
        go_wp2_with fail
        refine (appendSevens_int _ v row' _ (b + 1) 0 hrv (by omega) (by omega) (by omega) hlen).mono ?_
        rintro e w1 ⟨v1, row1, rfl, hr1, hg1⟩
        have hr1' : Row w1 (b + 1) v1 row1 (l ++ nums (zs.take k) ++ sev z.toNat) := by rw [HZ0.out]; exact hr1
        have hc1 : w1.cell? ⟨b, 0, none⟩ = some v := (hg1.only.cell (p := ⟨b, 0, none⟩) hbl hnb).trans hcv
        have hf1 : w1.frozen? ⟨b, 0, none⟩ = false := (hg1.only.frozen (p := ⟨b, 0, none⟩) hbl hnb).trans hfz
        obtain ⟨ao, ln, cp, rfl⟩ := hr1.form
        go_wp2
        have hfin := unhide FIN _ _ _ hr1' hg1
        go_roundw
        case rel => exact ⟨k + 1, row1, by omega, by go_num, hfin.1, hfin.2⟩
        case measure => simp [intOf]; omega
      · go_wp2_with fail
        refine (appendSevens_int _ v row' _ (b + 1) z hrv (by omega) (by omega) (by omega) hlen).mono ?_
        rintro e w1 ⟨v1, row1, rfl, hr1, hg1⟩
        have hc1 : w1.cell? ⟨b, 0, none⟩ = some v := (hg1.only.cell (p := ⟨b, 0, none⟩) hbl hnb).trans hcv
        have hf1 : w1.frozen? ⟨b, 0, none⟩ = false := (hg1.only.frozen (p := ⟨b, 0, none⟩) hbl hnb).trans hfz
        have hr1' := hr1
        obtain ⟨ao, ln, cp, rfl⟩ := hr1.form
        go_wp2
        have hfin := unhide FIN _ _ _ hr1' hg1
        go_roundw
        case rel => exact ⟨k + 1, row1, by omega, by go_num, hfin.1, hfin.2⟩
        case measure => simp [intOf]; omega
    · have HT : Hid (zs.take k = zs) := List.take_of_length_le (by omega)
      go_wp2
      go_end0
      exact ⟨rfl, row', by have h := hWr; rw [HT.out] at h; exact h, hg⟩
set_option maxHeartbeats 400000 in
theorem wbytes_any (w : World) (b : Nat) (row : Option Nat) (l : List UInt8) (hW : Wr w b row l) :
    Calls Tryz.prog 84 #[.pointer (some ⟨b, 0, none⟩)] w fun e w' => e = .returned (.string ⟨l.toArray⟩) ∧ w' = w := by
  obtain ⟨⟨v, hcv, hrv⟩, hfz, hbl⟩ := hW
  have hcv2 := bytes_back w _ v row l hrv
  go_enter Tryz.func84, Tryz.ntmps84
  go_wp2
  go_ret
  exact ⟨rfl, rfl⟩
theorem wnum_one (w : World) (b : Nat) (row : Option Nat) (l : List UInt8) (z : Int) (hW : Wr w b row l) (hz : z < 9223372036854775808) (hl : l.length + 20 ≤ 158329674399744) :
    Calls Tryz.prog 83 #[.pointer (some ⟨b, 0, none⟩), .slice (some ⟨w.heap.size, 0, none⟩) 1 1] (w.alloc (.cells #[.int .i64 z] 3)) fun e w' => e = .returned (.tuple #[]) ∧ ∃ row', Wr w' b row' (l ++ sev z.toNat) ∧ WGro w w' b row row' := by
  have hW1 : Wr (w.alloc (.cells #[.int .i64 z] 3)) b row l := hW.kept (Only.alloc (fun _ => False) w _) (fun h => h) (fun _ _ h => h)
  have hb := hW.lt
  have h := wnum_any (w.alloc (.cells #[.int .i64 z] 3)) b row l [z] w.heap.size 0 1 hW1
    (by intro k hk; have e : k = 0 := by simpa using hk
        subst e; simp)
    (by intro k hk; have e : k = 0 := by simpa using hk
        subst e; simpa using hz)
    (by omega) (by intro e; have := (hW.rowLt _ e.symm).2; omega) (by simp) (by simpa using hl)
  refine Calls.mono h ?_
  rintro e w' ⟨he, row', h1, h2⟩
  refine ⟨he, row', ?_, (WGro.alloc w _ b row).trans h2⟩
  simpa [nums] using h1
set_option maxRecDepth 100000 in
set_option maxHeartbeats 800000 in
theorem wtext_any (w : World) (b : Nat) (row : Option Nat) (l : List UInt8) (s : ByteArray) (hW : Wr w b row l) (hl : l.length + s.size + 30 ≤ 158329674399744) :
    Calls Tryz.prog 95 #[.pointer (some ⟨b, 0, none⟩), .string s] w fun e w' => e = .returned (.tuple #[]) ∧ ∃ row', Wr w' b row' (l ++ (sev s.size ++ s.data.toList)) ∧ WGro w w' b row row' := by
  obtain ⟨i0, hi, hz0, hz1, hz2⟩ := info_parts Tryz.infoByte
  go_enter Tryz.func95, Tryz.ntmps95
  go_wp2_with fail
  refine (wnum_one w b row l (s.size : Int) hW (by omega) (by omega)).mono ?_
  rintro e w1 ⟨rfl, row1, hW1, hg1⟩
  rw [Int.toNat_natCast] at hW1
  have hsl : (sev s.size).length ≤ 10 := sevF_len 9 s.size
  have hll : (l ++ sev s.size).length + s.size ≤ 158329674399744 := by rw [List.length_append]; omega
  have HF : Hid (Wr w1 b row1 (l ++ sev s.size)) := hW1
  obtain ⟨⟨v, hcv, hrv⟩, hfz, hbl⟩ := hW1
  have hnb : some b ≠ row1 := by
    intro e
    have h1 := hrv.lt b e.symm
    omega
  go_wp2_with (at_builtin; go_must (refine wpList_text _ rfl (.tmp 15) (.tmp 16) 100 9 rfl (b + 1) i0 Tryz.underlying100 Tryz.underlying9 hi hz0 hz1 hz2 v row1 (l ++ sev s.size) rfl hrv s rfl hll (by omega) ?_); intro v2 w2 row2 hr2 hg2; obtain ⟨hc2, hf2⟩ : w2.cell? ⟨b, 0, none⟩ = some v ∧ w2.frozen? ⟨b, 0, none⟩ = false := ⟨(hg2.only.cell (p := ⟨b, 0, none⟩) hbl hnb).trans hcv, (hg2.only.frozen (p := ⟨b, 0, none⟩) hbl hnb).trans hfz⟩; have hr2' := hide hr2; obtain ⟨ao, ln, cp, rfl⟩ := hr2.form)
  go_end0
  rw [← List.append_assoc]
  exact ⟨rfl, row2, Wr.stored hc2 hf2 (unhide hr2'), (hg1.trans (hg2.wgro b)).store _⟩
end Go.Proofs.YtpnbhddmdfcjdaaGreat
