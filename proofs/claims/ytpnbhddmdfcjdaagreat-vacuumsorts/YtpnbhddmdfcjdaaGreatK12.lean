/- Parts. -/
import Derived.Test.YtpnbhddmdfcjdaaGreatK09
import Derived.Lib.AppendZeros
import Derived.Test.YtpnbhddmdfcjdaaGreatK11
import Derived.Deep.DeepCutAuto
set_option maxRecDepth 100000
namespace Go.Proofs.YtpnbhddmdfcjdaaGreat
open Go.RowKit
/-- Two texts in a new block. -/
theorem Strs.two (w : World) (s t : ByteArray) (hs : s.size ≤ 140737488355328) (ht : t.size ≤ 140737488355328) : Strs (w.alloc (.cells #[.string s, .string t] 9)) w.heap.size (some ⟨w.heap.size, 0, none⟩) [s, t] :=
  ⟨fun _ => ⟨0, rfl, fun j hj => by
    have hj2 : j = 0 ∨ j = 1 := by simp at hj; omega
    rcases hj2 with rfl | rfl <;> simp⟩, fun _ => by simp, by simp, fun u hu => by
    simp at hu
    rcases hu with rfl | rfl
    · exact hs
    · exact ht⟩
theorem repeat_any (c : Nat) (hc : c ≤ 512) (W : World) :
    Calls Tryz.prog 43 #[.string ⟨#[0]⟩, .int .i64 (c : Int)] W fun e w' => e = .returned (.string (str (List.replicate c 0))) ∧ Only (fun _ => False) W w' := by
  have e1 : (⟨#[0]⟩ : ByteArray).size = 1 := rfl
  have h1 := Tryz.strings_Repeat ⟨#[0]⟩ c W (by omega) (by rw [e1]; omega)
  refine Calls.mono h1 ?_
  rintro e w' ⟨rfl, hb⟩
  refine ⟨?_, only_below hb⟩
  rw [rep_zero]
  rfl
theorem Pag.zero (w : World) : Pag (w.alloc (.cells #[.int .i64 0, .int .i64 0, .int .i64 0, .int .i64 0, .string ⟨#[]⟩, .slice none 0 0] 30)) w.heap.size (.int .i64 0) (.int .i64 0) (.int .i64 0) (.int .i64 0) (.string ⟨#[]⟩) (.slice none 0 0) := Pag.new w _ _ _ _ _ _
set_option maxRecDepth 100000 in
set_option maxHeartbeats 800000 in
theorem cblank_err (w : World) (m f : Int) (hm : I64 m) (hf : I64 f) (hI : ¬ Idd m f) :
    Calls Tryz.prog 17 #[.int .i64 m, .int .i64 f] w fun e w' => Res w w' e .none 1 := by
  have HI := hide (fun W => cisID_any m f W hm hf)
  simp only [decide_eq_false hI] at HI
  have HP := hide (Pag.zero w)
  have HO := hide (onlyA w (.cells #[.int .i64 0, .int .i64 0, .int .i64 0, .int .i64 0, .string ⟨#[]⟩, .slice none 0 0] 30))
  have hm1 := hm.1
  have hm2 := hm.2
  have hf1 := hf.1
  have hf2 := hf.2
  clear hI hm hf
  go_enter Tryz.func17, Tryz.ntmps17
  go_wp2_with fail
  refine (HI.out _).mono ?_
  rintro e w1 ⟨rfl, hw⟩
  rw [← hw] at HP HO
  clear hw
  obtain ⟨q0, q1, q2, q3, q4, q5, t0, t1, t2, t3, t4, t5, tl⟩ := HP.out
  go_wp2_with fail
  refine bodyPost_ret (results_page rfl rfl (Pag.six HP.out _ _ _ _ _ _)) rfl ?_
  exact res_none (Nat.le_refl _) HO.out 1 _ _ _ _ _ _
set_option maxRecDepth 100000 in
set_option maxHeartbeats 800000 in
theorem cblank_ok (w : World) (m f : Int) (hI : Idd m f) :
    Calls Tryz.prog 17 #[.int .i64 m, .int .i64 f] w fun e w' => Res w w' e (blankP m f) 0 := by
  have hm : I64 m := ⟨by have := hI.1.1; omega, by have := hI.1.2.1; omega⟩
  have hx : I64 f := ⟨by have := hI.2; omega, by have := hI.2; have := hI.1.2.1; omega⟩
  have HI := hide (fun W => cisID_any m f W hm hx)
  simp only [decide_eq_true hI] at HI
  have HL := hide (fun W => laidLimit_any f W (by have := hI.2; omega) (by have := hI.2; have := hI.1.2.1; omega))
  have HB := hide (fun W => statusBytes_any m W hI.1)
  have hn := (nb_bd hI.1).2.1
  have HR := hide (fun W => repeat_any (nb m) (by omega) W)
  have HP := hide (Pag.zero w)
  have HO := hide (onlyA w (.cells #[.int .i64 0, .int .i64 0, .int .i64 0, .int .i64 0, .string ⟨#[]⟩, .slice none 0 0] 30))
  have hm1 := hm.1
  have hm2 := hm.2
  have hf1 := hx.1
  have hf2 := hx.2
  have hse : (sev f.toNat).length ≤ 10 := sevF_len 9 _
  unfold blankP
  obtain ⟨n, hnn⟩ : ∃ n, nb m = n := ⟨_, rfl⟩
  simp only [hnn] at HB HR hn
  rw [hnn]
  obtain ⟨S, hS⟩ : ∃ S, str (sev f.toNat) = S := ⟨_, rfl⟩
  obtain ⟨Z, hZ⟩ : ∃ Z, str (List.replicate n 0) = Z := ⟨_, rfl⟩
  have HS : Hid (S.size ≤ 140737488355328) := by unfold Hid; rw [← hS, str_size]; omega
  have HZ : Hid (Z.size ≤ 140737488355328) := by unfold Hid; rw [← hZ, str_size, List.length_replicate]; omega
  simp only [hS] at HL
  simp only [hZ] at HR
  rw [hS, hZ]
  clear hI hm hx hnn hS hZ hse
  go_enter Tryz.func17, Tryz.ntmps17
  go_wp2_with fail
  refine (HI.out _).mono ?_
  rintro e w1 ⟨rfl, hw⟩
  obtain rfl := hw.symm
  clear hw
  go_wp2_with fail
  refine (HL.out _).mono ?_
  rintro e w2 ⟨rfl, ho2⟩
  have HO2 := hide (o2 HO.out ho2)
  have HP2 := hide (HP.out.more ho2)
  clear ho2
  go_wp2_with fail
  refine (HB.out _).mono ?_
  rintro e w1 ⟨rfl, hw⟩
  obtain rfl := hw.symm
  clear hw
  go_wp2_with fail
  refine (HR.out _).mono ?_
  rintro e w3 ⟨rfl, ho3⟩
  have HO3 := hide (o2 HO2.out ho3)
  have HP3 := hide (HP2.out.more ho3)
  clear ho3
  have HP4 := hide (HP3.out.more (onlyA w3 (.cells #[.string S, .string Z] 9)))
  have HO4 := hide (o2 HO3.out (onlyA w3 (.cells #[.string S, .string Z] 9)))
  have HS4 := hide (Strs.two w3 S Z HS.out HZ.out)
  have hlt := HP3.out.lt
  go_upto_region 4 with fail
  obtain ⟨g, hg⟩ : ∃ g, w3.heap.size = g := ⟨_, rfl⟩
  obtain ⟨w4, hw4⟩ : ∃ w4, w3.alloc (.cells #[.string S, .string Z] 9) = w4 := ⟨_, rfl⟩
  rw [hw4] at HP4 HO4 HS4 ⊢
  rw [hg] at HS4 hlt ⊢
  clear hw4 hg HP3 HO3
  obtain ⟨q0, q1, q2, q3, q4, q5, t0, t1, t2, t3, t4, t5, tl⟩ := HP4.out
  go_wp2_with fail
  refine bodyPost_ret (results_page rfl rfl (Pag.six HP4.out _ _ _ _ _ _)) rfl ?_
  exact res_end (cp := 2) (Nat.le_refl _) ⟨0, 1, 0, 0, ⟨#[]⟩, [S, Z]⟩ HS4.out ⟨(fun h => by cases h), Nat.le_refl _, (by unfold maxLen; omega)⟩ HO4.out (fun _ => hlt) 0 _ _ _ _ _ _
end Go.Proofs.YtpnbhddmdfcjdaaGreat
namespace Go.Proofs.YtpnbhddmdfcjdaaGreat
open Go.RowKit
/-- A page in the variable's block b, its items in block B. -/
structure PgB (W : World) (b : Nat) (p : Pg) (B : Nat) (ao : Option Addr) (cp : Nat) : Prop where
  pag : Pag W b (.int .i64 p.lsn) (.int .i64 p.kind) (.int .i64 p.level) (.int .i64 p.right) (.string p.high) (.slice ao p.items.length cp)
  strs : Strs W B ao p.items
  fit : Fit ao p.items.length cp
theorem PgB.kept {S : Nat → Prop} {W W' : World} {b B cp : Nat} {p : Pg} {ao : Option Addr} (h : PgB W b p B ao cp) (ho : Only S W W') (hb : ¬ S b) (hB : 0 < p.items.length → ¬ S B) : PgB W' b p B ao cp :=
  ⟨h.pag.kept ho hb, h.strs.kept ho hB, h.fit⟩
theorem PgB.more {W W' : World} {b B cp : Nat} {p : Pg} {ao : Option Addr} (h : PgB W b p B ao cp) (ho : Only (fun _ => False) W W') : PgB W' b p B ao cp := h.kept ho (fun h => h) (fun _ h => h)
theorem PgB.new {w : World} {p : Pg} {B cp : Nat} {ao : Option Addr} (hS : Strs w B ao p.items) (hF : Fit ao p.items.length cp) :
    PgB (w.alloc (.cells #[.int .i64 p.lsn, .int .i64 p.kind, .int .i64 p.level, .int .i64 p.right, .string p.high, .slice ao p.items.length cp] 30)) w.heap.size p B ao cp :=
  ⟨Pag.new w _ _ _ _ _ _, hS.more (onlyA _ _), hF⟩
theorem PgB.put {w : World} {b : Nat} {v0 v1 v2 v3 v4 v5 : Value} (h : Pag w b v0 v1 v2 v3 v4 v5) {p : Pg} {B cp : Nat} {ao : Option Addr} (hS : Strs w B ao p.items) (hF : Fit ao p.items.length cp) (hB : 0 < p.items.length → B ≠ b) :
    PgB ((((((w.setCell ⟨b, 0, none⟩ (.int .i64 p.lsn)).setCell ⟨b, 1, none⟩ (.int .i64 p.kind)).setCell ⟨b, 2, none⟩ (.int .i64 p.level)).setCell ⟨b, 3, none⟩ (.int .i64 p.right)).setCell ⟨b, 4, none⟩ (.string p.high)).setCell ⟨b, 5, none⟩ (.slice ao p.items.length cp)) b p B ao cp :=
  ⟨h.six _ _ _ _ _ _, hS.kept (Only.six w b _ _ _ _ _ _) hB, hF⟩
theorem only_row {w wr w1 : World} {v : Value} {row : Option Nat} {l : List UInt8} (ho : Only (fun _ => False) w wr) (hr : Row wr w.heap.size v row l) {o : Obj} (h1 : Only (fun k => some k = row) (wr.alloc o) w1) : Only (fun _ => False) w w1 := by
  refine (ho.trans (Only.alloc (fun _ => False) wr o) (fun _ _ h => h)).trans h1 ?_
  intro i hi e
  have := (hr.lt i e.symm).1
  omega
set_option maxRecDepth 100000 in
set_option maxHeartbeats 1600000 in
theorem refNum_any (w : World) (zs : List Int) (g off cap : Nat) (hc : ∀ k, k < zs.length → w.cell? ⟨g, off + k, none⟩ = some (.int .i64 (zs.getD k 0))) (hz : ∀ k, k < zs.length → zs.getD k 0 < 9223372036854775808) (hgl : g < w.heap.size) (hl : 10 * zs.length + 20 ≤ 158329674399744) :
    Calls Tryz.prog 148 #[.slice (some ⟨g, off, none⟩) zs.length cap] w fun e w' => e = .returned (.string ⟨(nums zs).toArray⟩) ∧ Only (fun _ => False) w w' := by
  obtain ⟨i0, hi, hz0, hz1, hz2⟩ := info_parts Tryz.infoByte
  have HC := hide hc
  have HZ := hide hz
  clear hc hz
  go_enter Tryz.func148, Tryz.ntmps148
  go_wp2
  go_loopw [3, 4, 5] (fun v i _ wr => ∃ (k : Nat) (row : Option Nat), k ≤ zs.length ∧ i = .int .i64 k ∧ Hid (Row wr w.heap.size v row (nums (zs.take k))) ∧ Hid (Only (fun _ => False) w wr))
    (fun _ i _ _ => zs.length - (intOf i).toNat)
  case atStart => exact ⟨0, none, Nat.zero_le _, rfl, ⟨World.ownsRow_nil _ _ _ _, rfl⟩, Only.refl _ _⟩
  case round =>
    obtain ⟨k, row, hk, rfl, HR, HO⟩ := hrel
    by_cases hlt : k < zs.length
    · have hck : wr.cell? ⟨g, off + k, none⟩ = some (.int .i64 (zs.getD k 0)) := (HO.out.cell (p := ⟨g, off + k, none⟩) hgl (fun h => h)).trans (HC.out k hlt)
      have hzk := HZ.out k hlt
      have hnl := nums_len (zs.take k)
      have hnl2 : (zs.take k).length ≤ k := List.length_take_le _ _
      have HN := hide (nums_snoc zs k hlt)
      obtain ⟨z, hzz⟩ : ∃ z, zs.getD k 0 = z := ⟨_, rfl⟩
      rw [hzz] at hck hzk HN
      clear hzz
      generalize nums (zs.take k) = l at *
      have hll : l.length ≤ 10 * k := by omega
      by_cases hneg : z < 0
      all_goals
        go_wp2
        go_loopw [3, 5] (fun v n wq => ∃ (q f : Nat) (row' : Option Nat) (l' : List UInt8), n = .int .i64 q ∧ Hid (Row wq w.heap.size v row' l') ∧ f ≤ 9 ∧ q < 9223372036854775808 ∧ Hid (q < 128 ^ f) ∧ Hid (l' ++ sevF f q = l ++ sev z.toNat) ∧ Hid (Only (fun _ => False) w wq) ∧ l'.length + f ≤ l.length + 9)
          (fun _ n _ => (intOf n).toNat)
        case atStart => exact ⟨z.toNat, 9, row, l, by go_num, HR, by omega, by omega, (by unfold Hid; omega), (by unfold Hid; rfl), HO, by omega⟩
        case round =>
          obtain ⟨q, f, row', l', rfl, HR1, hf, hq, Hq, HL, HO1, hlen⟩ := hrel
          by_cases h128 : (128 : Int) ≤ q
          · have HD : Hid (∀ o : World, o = wr.alloc (.cells #[.int .u8 ((q : Int) % 128 + 128)] 5) → o.cell? ⟨wr.heap.size, 0, none⟩ = some (.int .u8 (((UInt8.ofNat (q % 128 + 128)).toNat : Nat) : Int))) := by
              intro o ho
              subst ho
              rw [byte_nat (by omega)]
              simp
            go_wp2_with (at_builtin; go_must (refine wpList_byte _ rfl (.tmp 19) (.tmp 24) 100 rfl w.heap.size i0 Tryz.underlying100 hi hz0 hz1 hz2 _ row' l' rfl (HR1.out.alloc _) ⟨wr.heap.size, 0, none⟩ 1 (UInt8.ofNat (q % 128 + 128)) rfl (HD.out _ rfl) (by omega) (by have := HO1.out.size; simp; omega) ?_); intro v1 w1 row1 hr1 ho1 hrow1; clear hrow1; have HR2 := hide (And.intro hr1 (only_row HO1.out HR1.out ho1)); clear hr1 ho1)
            obtain ⟨f', hf', HL', Hq'⟩ := sevF_step HL.out Hq.out (by omega)
            go_roundw
            case rel => exact ⟨q / 128, f', row1, l' ++ [UInt8.ofNat (q % 128 + 128)], by go_num, HR2.out.1, by omega, by omega, Hq', HL', HR2.out.2, by simp; omega⟩
            case measure => simp [intOf]; omega
          · have HD : Hid (∀ o : World, o = wr.alloc (.cells #[.int .u8 (q : Int)] 5) → o.cell? ⟨wr.heap.size, 0, none⟩ = some (.int .u8 (((UInt8.ofNat q).toNat : Nat) : Int))) := by
              intro o ho
              subst ho
              rw [byte_nat (by omega)]
              simp
            have HL2 : Hid (l ++ sev z.toNat = l' ++ [UInt8.ofNat q]) := by unfold Hid; rw [← HL.out, sevF_end (by omega)]
            go_wp2_with (at_builtin; go_must (refine wpList_byte _ rfl (.tmp 28) (.tmp 31) 100 rfl w.heap.size i0 Tryz.underlying100 hi hz0 hz1 hz2 _ row' l' rfl (HR1.out.alloc _) ⟨wr.heap.size, 0, none⟩ 1 (UInt8.ofNat q) rfl (HD.out _ rfl) (by omega) (by have := HO1.out.size; simp; omega) ?_); intro v1 w1 row1 hr1 ho1 hrow1; clear hrow1; have HR2 := hide (And.intro hr1 (only_row HO1.out HR1.out ho1)); clear hr1 ho1)
            go_roundw
            case rel => exact ⟨k + 1, row1, by omega, by go_num, by rw [HN.out, HL2.out]; exact HR2.out.1, HR2.out.2⟩
            case measure => simp [intOf]; omega
    · have HT : Hid (zs.take k = zs) := List.take_of_length_le (by omega)
      have hR := HR.out
      rw [HT.out] at hR
      have hcv := bytes_back wr _ _ _ _ hR
      clear hR
      go_wp2
      go_ret
      exact ⟨rfl, HO.out⟩
theorem refNum_one (w : World) (z : Int) (hz : z < 9223372036854775808) :
    Calls Tryz.prog 148 #[.slice (some ⟨w.heap.size, 0, none⟩) 1 1] (w.alloc (.cells #[.int .i64 z] 3)) fun e w' => e = .returned (.string ⟨(sev z.toNat).toArray⟩) ∧ Only (fun _ => False) w w' := by
  have h := refNum_any (w.alloc (.cells #[.int .i64 z] 3)) [z] w.heap.size 0 1
    (by intro k hk; have e : k = 0 := by simpa using hk
        subst e; simp)
    (by intro k hk; have e : k = 0 := by simpa using hk
        subst e; simpa using hz)
    (by simp) (by simp)
  refine Calls.mono h ?_
  rintro e w' ⟨he, h2⟩
  exact ⟨by rw [he]; simp [nums], (Only.alloc (fun _ => False) w _).trans h2 (fun _ _ h => h)⟩
end Go.Proofs.YtpnbhddmdfcjdaaGreat
namespace Go.Proofs.YtpnbhddmdfcjdaaGreat
open Go.RowKit
/-- What Num of the document's Reader leaves: 'N' is what is taken of the bytes from place p on. -/
def XPost (w w' : World) (x : Nat) (s : ByteArray) (l : List UInt8) (y : Int) : Prop :=
  ∃ p' : Nat, XR w' x s p' y ∧ (y = 0 → p' ≤ s.size ∧ s.data.toList.drop p' = l) ∧ Only (fun k => k = x) w w'
theorem drop_at (s : ByteArray) (p j : Nat) (h : p + j < s.size) : (s.data.toList.drop p).drop j = s[p + j] :: (s.data.toList.drop p).drop (j + 1) := by
  rw [List.drop_drop, List.drop_drop, drop_cons s (p + j) h]
  rfl
theorem drop_over (s : ByteArray) (p j : Nat) (h : ¬ p + j < s.size) : (s.data.toList.drop p).drop j = [] := by
  rw [List.drop_drop, drop_none s (p + j) h]
theorem xp_wrong {w wr W : World} {x : Nat} {s : ByteArray} {p : Nat} {y : Int} (h : XR wr x s p 0) (ho : Only (fun k => k = x) w wr) (hy : y ≠ 0) (hW : Only (fun _ => False) (wr.setCell ⟨x, 2, none⟩ (.int .i64 y)) W) : XPost w W x s [] y :=
  ⟨p, (h.set2 y).kept hW (fun h => h), fun e => absurd e hy, (ho.trans (Only.setCell (S := fun k => k = x) wr ⟨x, 2, none⟩ _ rfl) (fun _ _ h => h)).trans hW (fun _ _ h => h.elim)⟩
theorem xp_last {w wr W : World} {x : Nat} {s : ByteArray} {p q : Nat} {v : Int} {l : List UInt8} (h : XR wr x s p 0) (ho : Only (fun k => k = x) w wr) (hv : (q : Int) = v) (hW : Only (fun _ => False) (wr.setCell ⟨x, 1, none⟩ (.int .i64 v)) W) (hq : q ≤ s.size) (hl : s.data.toList.drop q = l) : XPost w W x s l 0 ∧ XR W x s q 0 ∧ Only (fun k => k = x) w W := by
  subst hv
  have h1 := (h.set1 q).kept hW (fun h => h)
  have h2 := (ho.trans (Only.setCell (S := fun k => k = x) wr ⟨x, 1, none⟩ (.int .i64 (q : Int)) rfl) (fun _ _ h => h)).trans hW (fun _ _ h => h.elim)
  exact ⟨⟨q, h1, fun _ => ⟨hq, hl⟩, h2⟩, h1, h2⟩
theorem x_step (k : Nat) (q d : Int) (hk : k ≤ 8) (q0 : 0 ≤ q) (q1 : q < 128 ^ k) (d0 : 0 ≤ d) (d1 : d < 128) : wrap64 (q + wrap64 (d % 128 * 128 ^ k)) = q + d * 128 ^ k := by
  have h := (or_shift k q d hk q0 q1 d0 d1).2
  have h9 := pow_le9 k hk
  have e : d % 128 = d := by omega
  have hp : (0 : Int) ≤ 128 ^ k := Int.pow_nonneg (by decide)
  have hd : 0 ≤ d * 128 ^ k := Int.mul_nonneg d0 hp
  rw [e, w64_id (d * 128 ^ k) (by omega), w64_id _ (by omega)]
theorem x_unit (k : Nat) (hk : k ≤ 7) : wrap64 (128 * 128 ^ k) = 128 ^ (k + 1) := by
  have hc : k = 0 ∨ k = 1 ∨ k = 2 ∨ k = 3 ∨ k = 4 ∨ k = 5 ∨ k = 6 ∨ k = 7 := by omega
  rcases hc with rfl | rfl | rfl | rfl | rfl | rfl | rfl | rfl <;> (rw [w64_id _ (by decide)]; decide)
theorem drews (w : World) : Only (fun _ => False) w w.drew.drew := (Only.drew _ w).trans (Only.drew _ _) (fun _ _ h => h) (T := fun _ => False)
set_option maxRecDepth 100000 in
set_option maxHeartbeats 1600000 in
theorem xnum_any (w : World) (x : Nat) (s : ByteArray) (p : Nat) (z : Int) (h : XR w x s p 0) (hp : p ≤ s.size) (hs : s.size ≤ maxLen - 100) :
    Calls Tryz.prog 106 #[.pointer (some ⟨x, 0, none⟩), .int .i64 z] w fun e w' => e = .returned (.int .i64 (rdN z (s.data.toList.drop p)).1) ∧ XPost w w' x s (rdN z (s.data.toList.drop p)).2.1 (rdN z (s.data.toList.drop p)).2.2 := by
  obtain ⟨N, hN⟩ : ∃ N, rdN z (s.data.toList.drop p) = N := ⟨_, rfl⟩
  obtain ⟨R, hR⟩ : ∃ R, rd 0 0 (s.data.toList.drop p) = R := ⟨_, rfl⟩
  have HN := hide hN
  have HR := hide hR
  rw [hN]
  clear hN hR
  unfold maxLen at hs
  obtain ⟨c0, c1, c2, f0, f1, f2, hl⟩ := h
  have HX0 : Hid (XR w x s p 0) := ⟨c0, c1, c2, f0, f1, f2, hl⟩
  go_enter Tryz.func106, Tryz.ntmps106
  go_wp2
  clear c0 c1 c2 f0 f1 f2 hl
  go_loopw [5, 6, 7, 8] (fun n u k _ wr => ∃ (j : Nat) (q v : Int), k = .int .i64 ((j : Int) + 1) ∧ n = .int .i64 q ∧ u = .int .i64 v ∧ j ≤ 8 ∧ 0 ≤ q ∧ Hid (q < 128 ^ j) ∧ Hid (v = 128 ^ j) ∧ Hid (rd j q ((s.data.toList.drop p).drop j) = R) ∧ Hid (XR wr x s p 0) ∧ Hid (Only (fun k => k = x) w wr))
    (fun _ _ k _ _ => (10 - intOf k).toNat)
  case atStart => exact ⟨0, 0, 1, rfl, rfl, rfl, by omega, by omega, by unfold Hid; decide, by unfold Hid; rfl, HR, HX0, Only.refl _ _⟩
  case round =>
    obtain ⟨j, q, v, rfl, rfl, rfl, hj, q0, Hq, Hv, HD, HX, HO⟩ := hrel
    obtain ⟨c0, c1, c2, f0, f1, f2, hl⟩ := HX.out
    by_cases hlt : p + j < s.size
    · obtain ⟨m, hm⟩ : ∃ m : Nat, p + j = m := ⟨_, rfl⟩
      have hpj : (p : Int) + ((j : Int) + 1) - 1 = (m : Int) := by omega
      have hml : m < s.size := by omega
      have HM := hide hm
      clear hm
      have hb := s[m].toNat_lt
      have HD2 : Hid (rd j q (s[m] :: (s.data.toList.drop p).drop (j + 1)) = R) := by
        unfold Hid
        have e := drop_at s p j hlt
        have e2 : s[p + j] = s[m] := by simp [HM.out]
        rw [e2] at e
        rw [← e]; exact HD.out
      have hk1 : (1 : Int) ≤ (j : Int) + 1 := by omega
      clear HD
      obtain ⟨d, hd⟩ : ∃ d : Int, (s[m].toNat : Int) = d := ⟨_, rfl⟩
      have hd0 : 0 ≤ d := by omega
      have hd1 : d < 256 := by omega
      have HDD := hide hd
      by_cases h1 : d < 128
      · by_cases h2 : d = 0 ∧ 0 < j
        · have h2a : (d == 0) = true := by simpa using h2.1
          have h2b : (1 : Int) < (j : Int) + 1 := by omega
          have HN2 : Hid (N = (0, [], 11)) := by
            unfold Hid
            have e := rd_zero HD2.out (by omega) (by omega) h2.2
            rw [← HN.out, rdN_bad (HR.out.trans e) (by decide)]
          clear h2
          cases h9 : ((j : Int) + 1 == 9)
          all_goals
            go_wp2
            go_region
            go_wp2
            go_region
            go_wp2_with fail
          all_goals refine (wrong_any _ x s p 0 11 (HX.out.drew.drew)).mono ?_
          all_goals rintro e w1 ⟨rfl, rfl⟩
          all_goals go_wp2
          all_goals go_ret
          all_goals
            rw [HN2.out]
            exact ⟨rfl, xp_wrong HX.out HO.out (by decide) (drews _)⟩
        · have HE : Hid (R = (q + (s[m].toNat : Int) * 128 ^ j, (j : Int) + 1, 0)) := rd_last HD2.out (by omega) (by omega)
          have hos := or_shift j q d hj q0 Hq.out hd0 h1
          have h99 := pow_le9 j hj
          obtain ⟨n, hn⟩ : ∃ n : Int, wrap64 (q + wrap64 (d % 128 * v)) = n := ⟨_, rfl⟩
          have hn2 : n = q + d * 128 ^ j := by rw [← hn, Hv.out]; exact x_step j q d hj q0 Hq.out hd0 h1
          have hn0 : 0 ≤ n := by omega
          have hrdl : rd 0 0 (s.data.toList.drop p) = (n, ((j + 1 : Nat) : Int), 0) := by rw [HR.out, HE.out, hn2, hd]; rfl
          have hpk : p + (j + 1) ≤ s.size := by omega
          have HNS : Hid (max z 0 < n → N = (0, [], 11)) := fun h => by rw [← HN.out, rdN_big hrdl h]
          have HNL : Hid (¬ max z 0 < n → N = (n, (s.data.toList.drop p).drop (j + 1), 0)) := fun h => by rw [← HN.out, rdN_ok hrdl h]
          have h3 : (((j : Int) + 1 == 9) = false ∧ (d == 0) = false) ∨ (((j : Int) + 1 == 9) = true ∧ (d == 0) = false) ∨ (((j : Int) + 1 == 9) = false ∧ (d == 0) = true ∧ ¬ (1 : Int) < (j : Int) + 1) := by
            by_cases e : d = 0
            · exact .inr (.inr ⟨by simp; omega, by simpa using e, by omega⟩)
            · by_cases e9 : j = 8
              · exact .inr (.inl ⟨by simp; omega, by simpa using e⟩)
              · exact .inl ⟨by simp; omega, by simpa using e⟩
          have HLD : Hid (∀ W, Only (fun _ => False) (wr.setCell ⟨x, 1, none⟩ (.int .i64 ((p : Int) + ((j : Int) + 1)))) W → XPost w W x s ((s.data.toList.drop p).drop (j + 1)) 0 ∧ XR W x s (p + (j + 1)) 0 ∧ Only (fun k => k = x) w W) :=
            fun W hW => xp_last HX.out HO.out (by omega) hW hpk (by rw [List.drop_drop])
          clear hrdl hn2 hos h99 HE h2
          by_cases hz : z < 0
          · by_cases hbg : 0 < n
            · have hN := HNS.out (by omega)
              have HN2 := hide hN
              clear hN HNS HNL
              rcases h3 with ⟨h9, h5⟩ | ⟨h9, h5⟩ | ⟨h9, h5, h6⟩
              all_goals
                go_wp2
                go_region
                go_wp2
                go_region
                go_wp2_with fail
              all_goals refine (wrong_any _ x s (p + (j + 1)) 0 11 (HLD.out _ (drews _)).2.1).mono ?_
              all_goals rintro e w1 ⟨rfl, rfl⟩
              all_goals go_wp2
              all_goals go_ret
              all_goals
                rw [HN2.out]
                exact ⟨rfl, xp_wrong (HLD.out _ (drews _)).2.1 (HLD.out _ (drews _)).2.2 (by decide) (Only.refl _ _)⟩
            · have hN := HNL.out (by omega)
              have HN2 := hide hN
              clear hN HNS HNL
              rcases h3 with ⟨h9, h5⟩ | ⟨h9, h5⟩ | ⟨h9, h5, h6⟩
              all_goals
                go_wp2
                go_region
                go_wp2
                go_region
                go_wp2_with fail
              all_goals go_ret
              all_goals
                rw [HN2.out]
                exact ⟨ret_int hn, (HLD.out _ (drews _)).1⟩
          · by_cases hbg : z < n
            · have hN := HNS.out (by omega)
              have HN2 := hide hN
              clear hN HNS HNL
              rcases h3 with ⟨h9, h5⟩ | ⟨h9, h5⟩ | ⟨h9, h5, h6⟩
              all_goals
                go_wp2
                go_region
                go_wp2
                go_region
                go_wp2_with fail
              all_goals refine (wrong_any _ x s (p + (j + 1)) 0 11 (HLD.out _ (drews _)).2.1).mono ?_
              all_goals rintro e w1 ⟨rfl, rfl⟩
              all_goals go_wp2
              all_goals go_ret
              all_goals
                rw [HN2.out]
                exact ⟨rfl, xp_wrong (HLD.out _ (drews _)).2.1 (HLD.out _ (drews _)).2.2 (by decide) (Only.refl _ _)⟩
            · have hN := HNL.out (by omega)
              have HN2 := hide hN
              clear hN HNS HNL
              rcases h3 with ⟨h9, h5⟩ | ⟨h9, h5⟩ | ⟨h9, h5, h6⟩
              all_goals
                go_wp2
                go_region
                go_wp2
                go_region
                go_wp2_with fail
              all_goals go_ret
              all_goals
                rw [HN2.out]
                exact ⟨ret_int hn, (HLD.out _ (drews _)).1⟩
      · have h5 : (d == 0) = false := by simp; omega
        by_cases h8 : j = 8
        · have h9 : ((j : Int) + 1 == 9) = true := by simp; omega
          have HN2 : Hid (N = (0, [], 11)) := by
            unfold Hid
            have e := rd_nine HD2.out (by omega) h8
            rw [← HN.out, rdN_bad (HR.out.trans e) (by decide)]
          clear h8
          go_wp2
          go_region
          go_wp2
          go_region
          go_wp2_with fail
          refine (wrong_any _ x s p 0 11 (HX.out.drew.drew)).mono ?_
          rintro e w1 ⟨rfl, rfl⟩
          go_wp2
          go_ret
          rw [HN2.out]
          exact ⟨rfl, xp_wrong HX.out HO.out (by decide) (drews _)⟩
        · have h9 : ((j : Int) + 1 == 9) = false := by simp; omega
          have hos := or_shift j q (d - 128) hj q0 Hq.out (by omega) (by omega)
          obtain ⟨n, hn⟩ : ∃ n : Int, wrap64 (q + wrap64 (d % 128 * v)) = n := ⟨_, rfl⟩
          have hd8 : d % 128 = d - 128 := by omega
          have hn2 : n = q + (d - 128) * 128 ^ j := by rw [← hn, Hv.out, ← x_step j q (d - 128) hj q0 Hq.out (by omega) (by omega), show (d - 128) % 128 = d % 128 by omega]
          obtain ⟨v2, hv2⟩ : ∃ v2 : Int, wrap64 (128 * v) = v2 := ⟨_, rfl⟩
          have hv3 : v2 = 128 ^ (j + 1) := by
            rw [← hv2, Hv.out, ← x_unit j (by omega)]
          have HRM := hide (rd_more HD2.out (by omega) h8)
          have HQ2 : Hid (0 ≤ n ∧ n < 128 ^ (j + 1)) := by unfold Hid; rw [hn2]; exact hos.2
          have HN3 := hide hn2
          have HV3 := hide hv3
          have HO3 : Hid (Only (fun k => k = x) w wr.drew.drew) := HO.out.trans (drews wr) (fun _ _ h => h.elim)
          clear hn2 hv3 hos hd8
          go_wp2
          go_region
          go_wp2
          go_region
          go_wp2_with fail
          go_roundw
          case rel =>
            have hR2 : rd (j + 1) n ((s.data.toList.drop p).drop (j + 1)) = R := by
              have e := HRM.out
              rw [hd, ← HN3.out] at e
              exact e
            exact ⟨j + 1, n, v2, by go_num, by rw [hn], by rw [hv2], by omega, HQ2.out.1, HQ2.out.2, HV3, hR2, HX.out.drew.drew, HO3⟩
          case measure => simp [intOf]; omega
    · have HN2 : Hid (N = (0, [], 10)) := by
        unfold Hid
        have e := HD.out
        rw [drop_over s p j hlt] at e
        rw [← HN.out, rdN_bad (x := 10) (by rw [HR.out, ← e]; rfl) (by decide)]
      go_wp2
      go_region
      go_wp2_with fail
      refine (wrong_any _ x s p 0 10 (HX.out.drew)).mono ?_
      rintro e w1 ⟨rfl, rfl⟩
      go_wp2
      go_ret
      rw [HN2.out]
      exact ⟨rfl, xp_wrong HX.out HO.out (by decide) (Only.drew _ _)⟩
def stc (l : List Nat) : List Value := l.map fun (n : Nat) => Value.int .u8 (n : Int)
/-- Statuses that the value v owns, in a block from base on. -/
def Sl (w : World) (base : Nat) (v : Value) (l : List Nat) : Prop := w.ownsRow base 58 1 v l.length (stc l)
theorem Tryz.infoSt : (Tryz.prog.info? 58).map (fun i => (i.zero, i.size, i.bytes)) = some (some (.int .u8 0), 1, 1) := by kernel_rfl
theorem Sl.nil (w : World) (base : Nat) : Sl w base (.slice none 0 0) [] := World.ownsRow_nil _ _ _ _
theorem Sl.kept {S : Nat → Prop} {w w' : World} {base : Nat} {v : Value} {l : List Nat} (h : Sl w base v l) (ho : Only S w w') (hS : ∀ k, v.ownBlock = some k → ¬ S k) : Sl w' base v l := by
  obtain ⟨h1, h2⟩ := h
  refine ⟨h1, ?_⟩
  rcases h2 with h2 | ⟨g, cap, cur, hv, hg, hh, r⟩
  · exact .inl h2
  · subst hv
    exact .inr ⟨g, cap, cur, rfl, hg, by rw [ho.block g (Array.getElem?_eq_some_iff.1 hh).1 (hS g rfl)]; exact hh, r⟩
theorem append_st (w : World) (base : Nat) (v : Value) (l : List Nat) (h : Sl w base v l) (hb : base ≤ w.heap.size) (n : Nat) (hl : l.length ≤ 5000) :
    ∃ v' w', (Builtin.append_ #[183, 183] 183 #[v, .slice (some ⟨w.heap.size, 0, none⟩) 1 1]).run Tryz.prog (w.alloc (.cells #[.int .u8 (n : Int)] 58)) = .ok v' w' ∧ Sl w' base v' (l ++ [n]) ∧ Only (fun k => base ≤ k) w w' := by
  obtain ⟨i0, hi, hz0, hz1, hz2⟩ := info_parts Tryz.infoSt
  have h' := h.kept (onlyA w (.cells #[.int .u8 (n : Int)] 58)) (fun _ _ h => h)
  have hc0 : (w.alloc (.cells #[.int .u8 (n : Int)] 58)).cell? ⟨w.heap.size, 0, none⟩ = some (.int .u8 (n : Int)) := by simp
  obtain ⟨v', w', hr, h2, h3, _⟩ := append_bytes (P := Tryz.prog) (w.alloc (.cells #[.int .u8 (n : Int)] 58)) base 183 183 58 i0 Tryz.underlying183 hi hz0 hz1 hz2 v l.length (stc l) h' ⟨w.heap.size, 0, none⟩ 1 1 [.int .u8 (n : Int)] rfl
    (by
      intro j u hj
      match j, hj with
      | 0, hj =>
        simp at hj
        subst hj
        rw [add_at]
        exact hc0) (by intro u hu; simp at hu; subst hu; rfl) (by omega) (by omega) (by simp; omega)
  refine ⟨v', w', hr, ?_, ?_⟩
  · unfold Sl
    have e : (l ++ [n]).length = l.length + 1 := by simp
    have e2 : stc (l ++ [n]) = stc l ++ [.int .u8 (n : Int)] := by simp [stc]
    rw [e, e2]
    exact h2
  · have ho : Only (fun k => base ≤ k) (w.alloc (.cells #[.int .u8 (n : Int)] 58)) w' := Only.grown h3 (fun k hk => (h'.lt k hk).1)
    exact (Only.alloc (fun k => base ≤ k) w _).trans ho (fun _ _ h => h)
/-- Statuses in block B that may be written. -/
structure StL (w : World) (B : Nat) (l : List Nat) : Prop where
  c : ∀ j (h : j < l.length), w.cell? ⟨B, j, none⟩ = some (.int .u8 (l[j] : Int))
  f : ∀ j, j < l.length → w.frozen? ⟨B, j, none⟩ = false
  lt : B < w.heap.size
  four : ∀ x ∈ l, x < 4
theorem Sl.stl {w : World} {base : Nat} {v : Value} {l : List Nat} (h : Sl w base v l) (h0 : 0 < l.length) (h4 : ∀ x ∈ l, x < 4) : ∃ B cap, v = .slice (some ⟨B, 0, none⟩) l.length cap ∧ base ≤ B ∧ StL w B l := by
  rcases h.2 with ⟨rfl, hn⟩ | ⟨g, cap, cur, rfl, hb, hg, hn, hm, _⟩
  · omega
  · refine ⟨g, cap, rfl, hb, ⟨fun j hj => ?_, fun j hj => World.ownsRow.frozenAt h j, (Array.getElem?_eq_some_iff.1 hg).1, h4⟩⟩
    rw [World.ownsRow.cellAt h j (by omega)]
    simp [stc, hj]
/-- The statuses of the first i ids, M of them at most. -/
def stsTo (l : List UInt8) (M i : Nat) : List Nat := (List.range (min i M)).map (stAt l)
theorem stsTo_len (l : List UInt8) (M i : Nat) : (stsTo l M i).length = min i M := by simp [stsTo]
theorem stsTo_next (l : List UInt8) (M i : Nat) (h : i < M) : stsTo l M (i + 1) = stsTo l M i ++ [stAt l i] := by
  unfold stsTo
  rw [show min (i + 1) M = i + 1 by omega, show min i M = i by omega, List.range_succ, List.map_append]
  rfl
theorem stsTo_past (l : List UInt8) (M i : Nat) (h : ¬ i < M) : stsTo l M (i + 1) = stsTo l M i := by
  unfold stsTo
  rw [show min (i + 1) M = min i M by omega]
theorem stsTo_four (l : List UInt8) (M i : Nat) : ∀ x ∈ stsTo l M i, x < 4 := by
  intro x hx
  unfold stsTo at hx
  obtain ⟨j, _, rfl⟩ := List.mem_map.1 hx
  exact stAt_lt _ _
theorem stsTo_get (l : List UInt8) (M i j : Nat) (h : j < min i M) : (stsTo l M i).getD j 0 = stAt l j := by
  unfold stsTo
  rw [List.getD_eq_getElem?_getD, List.getElem?_map, List.getElem?_range h]
  rfl
/-- What taken leaves where it refuses. -/
def TakN (w w' : World) (e : Ending) (c : Int) : Prop := e = .returned (.tuple #[.int .i64 0, .slice none 0 0, .int .i64 c]) ∧ Only (fun _ => False) w w'
/-- What taken leaves of a page of statuses. -/
def TakY (w w' : World) (e : Ending) (f : Int) (l : List Nat) : Prop := ∃ B cap, e = .returned (.tuple #[.int .i64 f, .slice (some ⟨B, 0, none⟩) l.length cap, .int .i64 0]) ∧ StL w' B l ∧ w.heap.size ≤ B ∧ Only (fun _ => False) w w'
-- {T
set_option maxRecDepth 100000 in
set_option maxHeartbeats 1600000 in
theorem taken_mod (w : World) (m a k v r : Int) (h : ByteArray) (cp n : Nat) (ao : Option Addr) (hm : I64 m) (hM : ¬ Md m) :
    Calls Tryz.prog 149 #[.int .i64 m, .agg #[.int .i64 a, .int .i64 k, .int .i64 v, .int .i64 r, .string h, .slice ao n cp]] w fun e w' => TakN w w' e 1 := by
  have HM := hide (fun W => right_any m W hm)
  simp only [decide_eq_false hM] at HM
  clear hM
  have HO := hide (onlyA w (.cells #[.int .i64 a, .int .i64 k, .int .i64 v, .int .i64 r, .string h, .slice ao n cp] 30))
  go_enter Tryz.func149, Tryz.ntmps149
  go_wp2_with fail
  refine (HM.out _).mono ?_
  rintro e w1 ⟨rfl, hw⟩
  obtain rfl := hw.symm
  clear hw
  go_wp2_with fail
  go_ret3
  exact ⟨rfl, HO.out⟩
set_option maxRecDepth 100000 in
set_option maxHeartbeats 1600000 in
theorem taken_k (w : World) (m : Int) (a k v r : Int) (h : ByteArray) (cp n : Nat) (ao : Option Addr) (hM : Md m) (hk : ¬ k = 1) :
    Calls Tryz.prog 149 #[.int .i64 m, .agg #[.int .i64 a, .int .i64 k, .int .i64 v, .int .i64 r, .string h, .slice ao n cp]] w fun e w' => TakN w w' e 31 := by
  have HM := hide (fun W => right_any m W ⟨by have := hM.1; omega, by have := hM.2.1; omega⟩)
  simp only [decide_eq_true hM] at HM
  have hm1 := hM.1
  have hm2 := hM.2.1
  clear hM
  have HO := hide (onlyA w (.cells #[.int .i64 a, .int .i64 k, .int .i64 v, .int .i64 r, .string h, .slice ao n cp] 30))
  go_enter Tryz.func149, Tryz.ntmps149
  go_wp2_with fail
  refine (HM.out _).mono ?_
  rintro e w1 ⟨rfl, hw⟩
  obtain rfl := hw.symm
  clear hw
  go_wp2_with fail
  go_ret3
  exact ⟨rfl, HO.out⟩
set_option maxRecDepth 100000 in
set_option maxHeartbeats 1600000 in
theorem taken_a (w : World) (m : Int) (a v r : Int) (h : ByteArray) (cp n : Nat) (ao : Option Addr) (hM : Md m) (hk : a < 0) :
    Calls Tryz.prog 149 #[.int .i64 m, .agg #[.int .i64 a, .int .i64 1, .int .i64 v, .int .i64 r, .string h, .slice ao n cp]] w fun e w' => TakN w w' e 31 := by
  have HM := hide (fun W => right_any m W ⟨by have := hM.1; omega, by have := hM.2.1; omega⟩)
  simp only [decide_eq_true hM] at HM
  have hm1 := hM.1
  have hm2 := hM.2.1
  clear hM
  have HO := hide (onlyA w (.cells #[.int .i64 a, .int .i64 1, .int .i64 v, .int .i64 r, .string h, .slice ao n cp] 30))
  go_enter Tryz.func149, Tryz.ntmps149
  go_wp2_with fail
  refine (HM.out _).mono ?_
  rintro e w1 ⟨rfl, hw⟩
  obtain rfl := hw.symm
  clear hw
  go_wp2_with fail
  go_ret3
  exact ⟨rfl, HO.out⟩
set_option maxRecDepth 100000 in
set_option maxHeartbeats 1600000 in
theorem taken_v (w : World) (m : Int) (a v r : Int) (h : ByteArray) (cp n : Nat) (ao : Option Addr) (hM : Md m) (ha : 0 ≤ a) (hk : ¬ v = 0) :
    Calls Tryz.prog 149 #[.int .i64 m, .agg #[.int .i64 a, .int .i64 1, .int .i64 v, .int .i64 r, .string h, .slice ao n cp]] w fun e w' => TakN w w' e 31 := by
  have HM := hide (fun W => right_any m W ⟨by have := hM.1; omega, by have := hM.2.1; omega⟩)
  simp only [decide_eq_true hM] at HM
  have hm1 := hM.1
  have hm2 := hM.2.1
  clear hM
  have HO := hide (onlyA w (.cells #[.int .i64 a, .int .i64 1, .int .i64 v, .int .i64 r, .string h, .slice ao n cp] 30))
  go_enter Tryz.func149, Tryz.ntmps149
  go_wp2_with fail
  refine (HM.out _).mono ?_
  rintro e w1 ⟨rfl, hw⟩
  obtain rfl := hw.symm
  clear hw
  go_wp2_with fail
  go_ret3
  exact ⟨rfl, HO.out⟩
set_option maxRecDepth 100000 in
set_option maxHeartbeats 1600000 in
theorem taken_r (w : World) (m : Int) (a r : Int) (h : ByteArray) (cp n : Nat) (ao : Option Addr) (hM : Md m) (ha : 0 ≤ a) (hk : ¬ r = 0) :
    Calls Tryz.prog 149 #[.int .i64 m, .agg #[.int .i64 a, .int .i64 1, .int .i64 0, .int .i64 r, .string h, .slice ao n cp]] w fun e w' => TakN w w' e 31 := by
  have HM := hide (fun W => right_any m W ⟨by have := hM.1; omega, by have := hM.2.1; omega⟩)
  simp only [decide_eq_true hM] at HM
  have hm1 := hM.1
  have hm2 := hM.2.1
  clear hM
  have HO := hide (onlyA w (.cells #[.int .i64 a, .int .i64 1, .int .i64 0, .int .i64 r, .string h, .slice ao n cp] 30))
  go_enter Tryz.func149, Tryz.ntmps149
  go_wp2_with fail
  refine (HM.out _).mono ?_
  rintro e w1 ⟨rfl, hw⟩
  obtain rfl := hw.symm
  clear hw
  go_wp2_with fail
  go_ret3
  exact ⟨rfl, HO.out⟩
set_option maxRecDepth 100000 in
set_option maxHeartbeats 1600000 in
theorem taken_h (w : World) (m : Int) (a : Int) (h : ByteArray) (cp n : Nat) (ao : Option Addr) (hM : Md m) (ha : 0 ≤ a) (hk : ¬ h = ⟨#[]⟩) :
    Calls Tryz.prog 149 #[.int .i64 m, .agg #[.int .i64 a, .int .i64 1, .int .i64 0, .int .i64 0, .string h, .slice ao n cp]] w fun e w' => TakN w w' e 31 := by
  have HM := hide (fun W => right_any m W ⟨by have := hM.1; omega, by have := hM.2.1; omega⟩)
  simp only [decide_eq_true hM] at HM
  have hm1 := hM.1
  have hm2 := hM.2.1
  clear hM
  have he : h.toList.isEmpty = false := by rw [empty_iff]; simp [hk]
  have HO := hide (onlyA w (.cells #[.int .i64 a, .int .i64 1, .int .i64 0, .int .i64 0, .string h, .slice ao n cp] 30))
  go_enter Tryz.func149, Tryz.ntmps149
  go_wp2_with fail
  refine (HM.out _).mono ?_
  rintro e w1 ⟨rfl, hw⟩
  obtain rfl := hw.symm
  clear hw
  go_wp2_with fail
  go_ret3
  exact ⟨rfl, HO.out⟩
set_option maxRecDepth 100000 in
set_option maxHeartbeats 1600000 in
theorem taken_n (w : World) (m : Int) (a : Int) (cp n : Nat) (ao : Option Addr) (hM : Md m) (ha : 0 ≤ a) (hk : ¬ n = 2) :
    Calls Tryz.prog 149 #[.int .i64 m, .agg #[.int .i64 a, .int .i64 1, .int .i64 0, .int .i64 0, .string ⟨#[]⟩, .slice ao n cp]] w fun e w' => TakN w w' e 31 := by
  have HM := hide (fun W => right_any m W ⟨by have := hM.1; omega, by have := hM.2.1; omega⟩)
  simp only [decide_eq_true hM] at HM
  have hm1 := hM.1
  have hm2 := hM.2.1
  clear hM
  have hn : ¬ (n : Int) = 2 := by omega
  have HO := hide (onlyA w (.cells #[.int .i64 a, .int .i64 1, .int .i64 0, .int .i64 0, .string ⟨#[]⟩, .slice ao n cp] 30))
  go_enter Tryz.func149, Tryz.ntmps149
  go_wp2_with fail
  refine (HM.out _).mono ?_
  rintro e w1 ⟨rfl, hw⟩
  obtain rfl := hw.symm
  clear hw
  go_wp2_with fail
  go_ret3
  exact ⟨rfl, HO.out⟩
set_option maxRecDepth 100000 in
set_option maxHeartbeats 1600000 in
theorem taken_s (w : World) (m a : Int) (cp B : Nat) (ao : Option Addr) (s0 s1 : ByteArray) (hM : Md m) (ha : 0 ≤ a) (hS : Strs w B ao [s0, s1]) (hk : ¬ s1.size = nb m) :
    Calls Tryz.prog 149 #[.int .i64 m, .agg #[.int .i64 a, .int .i64 1, .int .i64 0, .int .i64 0, .string ⟨#[]⟩, .slice ao 2 cp]] w fun e w' => TakN w w' e 31 := by
  have htd : (m + 3).tdiv 4 = (nb m : Int) := by
    have : (m + 3) / 4 = (nb m : Int) := by have := hM.1; unfold nb; omega
    rw [← this]
    exact Int.tdiv_eq_ediv_of_nonneg (by have := hM.1; omega)
  have hnb := (nb_bd hM).2.1
  have hnb4 := (nb_bd hM).1
  obtain ⟨N, hN⟩ : ∃ N, nb m = N := ⟨_, rfl⟩
  rw [hN] at htd hnb hnb4 hk
  clear hN
  have hne : ((s1.size : Int) != (N : Int)) = true := by simp; omega
  have hna : decide (a < 0) = false := decide_eq_false (by omega)
  clear hk ha
  have HM := hide (fun W => right_any m W ⟨by have := hM.1; omega, by have := hM.2.1; omega⟩)
  simp only [decide_eq_true hM] at HM
  have hm1 := hM.1
  have hm2 := hM.2.1
  clear hM
  have HO := hide (onlyA w (.cells #[.int .i64 a, .int .i64 1, .int .i64 0, .int .i64 0, .string ⟨#[]⟩, .slice ao 2 cp] 30))
  obtain ⟨o, rfl, hc⟩ := hS.at_ (by simp)
  have hB := hS.lt (by simp)
  have hc0 := hc 0 (by simp)
  have hc1 := hc 1 (by simp)
  simp only [List.getElem_cons_zero, List.getElem_cons_succ, Nat.add_zero] at hc0 hc1
  have HC0 := hide hc0
  have HC1 := hide hc1
  clear hc hc0 hc1
  go_enter Tryz.func149, Tryz.ntmps149
  go_wp2_with fail
  refine (HM.out _).mono ?_
  rintro e w1 ⟨rfl, hw⟩
  obtain rfl := hw.symm
  clear hw
  have d1 := (HO.out.cell (p := ⟨B, o + 1, none⟩) hB (fun h => h)).trans HC1.out
  go_wp2_with fail
  go_ret3
  exact ⟨rfl, HO.out⟩
set_option maxRecDepth 100000 in
set_option maxHeartbeats 1600000 in
theorem taken_l (w : World) (m a : Int) (cp B : Nat) (ao : Option Addr) (s0 s1 : ByteArray) (hM : Md m) (ha : 0 ≤ a) (hS : Strs w B ao [s0, s1]) (hk : s1.size = nb m) (hl : lim m s0 = 0) :
    Calls Tryz.prog 149 #[.int .i64 m, .agg #[.int .i64 a, .int .i64 1, .int .i64 0, .int .i64 0, .string ⟨#[]⟩, .slice ao 2 cp]] w fun e w' => TakN w w' e 31 := by
  have htd : (m + 3).tdiv 4 = (nb m : Int) := by
    have : (m + 3) / 4 = (nb m : Int) := by have := hM.1; unfold nb; omega
    rw [← this]
    exact Int.tdiv_eq_ediv_of_nonneg (by have := hM.1; omega)
  have hnb := (nb_bd hM).2.1
  have hnb4 := (nb_bd hM).1
  obtain ⟨nv, hnv⟩ : ∃ n, (rdN m (bl s0)).1 = n := ⟨_, rfl⟩
  obtain ⟨z, hz⟩ : ∃ z, (rdN m (bl s0)).2.2 = z := ⟨_, rfl⟩
  obtain ⟨r, hr⟩ : ∃ r, (rdN m (bl s0)).2.1 = r := ⟨_, rfl⟩
  have HC : Hid (lim m s0 = if z = 0 ∧ r = [] then nv else 0) := by unfold Hid lim; rw [hnv, hz, hr]
  have HNUM : Hid (∀ W x, XR W x s0 0 0 → Calls Tryz.prog 106 #[.pointer (some ⟨x, 0, none⟩), .int .i64 m] W fun e w' => e = .returned (.int .i64 nv) ∧ XPost W w' x s0 r z) := by
    intro W x hX
    have := xnum_any W x s0 0 m hX (Nat.zero_le _) (by have := hS.size s0 (by simp); have : maxLen = 9223372036854775807 := rfl; omega)
    rw [List.drop_zero] at this
    rw [hnv, hz, hr] at this
    exact this
  have hnb0 := rdN_facts m (bl s0)
  rw [hnv] at hnb0
  have hn0 := hnb0.1
  have hn1 := hnb0.2.1
  clear hnv hz hr hnb0
  obtain ⟨N, hN⟩ : ∃ N, nb m = N := ⟨_, rfl⟩
  rw [hN] at htd hnb hnb4 hk
  have hsN : (s1.size : Int) = (N : Int) := by omega
  clear hN hk
  rw [hl] at HC
  clear hl
  have HP := hide (Pag.new w (.int .i64 a) (.int .i64 1) (.int .i64 0) (.int .i64 0) (.string ⟨#[]⟩) (.slice ao 2 cp))
  have HM := hide (fun W => right_any m W ⟨by have := hM.1; omega, by have := hM.2.1; omega⟩)
  simp only [decide_eq_true hM] at HM
  have hm1 := hM.1
  have hm2 := hM.2.1
  clear hM
  have HO := hide (onlyA w (.cells #[.int .i64 a, .int .i64 1, .int .i64 0, .int .i64 0, .string ⟨#[]⟩, .slice ao 2 cp] 30))
  obtain ⟨o, rfl, hc⟩ := hS.at_ (by simp)
  have hB := hS.lt (by simp)
  have hc0 := hc 0 (by simp)
  have hc1 := hc 1 (by simp)
  simp only [List.getElem_cons_zero, List.getElem_cons_succ, Nat.add_zero] at hc0 hc1
  have HC0 := hide hc0
  have HC1 := hide hc1
  clear hc hc0 hc1
  go_enter Tryz.func149, Tryz.ntmps149
  go_wp2_with fail
  refine (HM.out _).mono ?_
  rintro e w1 ⟨rfl, hw⟩
  rw [← hw] at HO HP
  clear hw
  have d1 := (HO.out.cell (p := ⟨B, o + 1, none⟩) hB (fun h => h)).trans HC1.out
  have d0 := (HO.out.cell (p := ⟨B, o, none⟩) hB (fun h => h)).trans HC0.out
  obtain ⟨p0, p1, p2, p3, p4, p5, f0, f1, f2, f3, f4, f5, fl⟩ := HP.out
  have HXR := hide (XR.new w1 s0)
  have HOX := hide (onlyA w1 (.cells #[.string s0, .int .i64 0, .int .i64 0] 111))
  go_upto_region 6 with fail
  obtain ⟨x, hx⟩ : ∃ x, w1.heap.size = x := ⟨_, rfl⟩
  obtain ⟨W1, hW1⟩ : ∃ W, w1.alloc (.cells #[.string s0, .int .i64 0, .int .i64 0] 111) = W := ⟨_, rfl⟩
  rw [hW1] at HXR HOX ⊢
  rw [hx] at HXR ⊢
  have HX : Hid (w.heap.size < x) := by unfold Hid; have := HP.out.lt; omega
  clear hW1 hx d0 d1 p0 p1 p2 p3 p4 p5 f0 f1 f2 f3 f4 f5 fl
  have HO1 := hide (o2 HO.out HOX.out)
  have HP1 := hide (HP.out.more HOX.out)
  go_wp2_with fail
  refine (HNUM.out W1 x HXR.out).mono ?_
  rintro e w2 ⟨rfl, pl, hxr, hpl, ho2⟩
  have HXR2 := hide hxr
  have HPL := hide hpl
  have HO2 : Hid (Only (fun _ => False) w w2) := HO1.out.trans ho2 (fun i hi e => by have := HX.out; omega)
  have HP2 := hide (HP1.out.kept ho2 (by have := HX.out; omega))
  clear hxr hpl ho2
  by_cases hz : z = 0
  · obtain ⟨hpl1, hpl2⟩ := HPL.out hz
    have HE := hide (xend_ok w2 x s0 pl (by have := HXR2.out; rw [hz] at this; exact this) hpl1)
    by_cases hr : r = []
    · have hn00 : nv = 0 := by have := HC.out; rw [if_pos ⟨hz, hr⟩] at this; exact this.symm
      have e0 : s0.size - pl = 0 := by
        rw [hr] at hpl2
        have := congrArg List.length hpl2
        rw [List.length_drop, Array.length_toList] at this
        exact this
      rw [if_pos e0] at HE
      subst hn00
      clear hz hr e0 hpl1 hpl2 HC
      go_wp2_with fail
      refine HE.out.mono ?_
      rintro e w3 ⟨rfl, hw⟩
      have HO3 : Hid (Only (fun _ => False) w w3) := by unfold Hid; rw [hw]; exact o2 HO2.out (Only.drew _ _)
      clear hw
      go_wp2_with fail
      go_ret3
      exact ⟨rfl, HO3.out⟩
    · have e0 : ¬ s0.size - pl = 0 := by
        intro h
        apply hr
        rw [← hpl2]
        exact List.eq_nil_of_length_eq_zero (by rw [List.length_drop, Array.length_toList]; exact h)
      rw [if_neg e0] at HE
      clear hz hr e0 hpl1 hpl2 HC
      go_wp2_with fail
      refine HE.out.mono ?_
      rintro e w3 ⟨rfl, hw⟩
      have HO3 : Hid (Only (fun _ => False) w w3) := by unfold Hid; rw [hw]; exact o2 HO2.out (Only.drew _ _)
      clear hw
      go_wp2_with fail
      go_ret3
      exact ⟨rfl, HO3.out⟩
  · have hzz : (z == 0) = false := by simp [hz]
    have hzn : (z != 0) = true := by simp [hz]
    have HE := hide (xend_err w2 x s0 pl z HXR2.out hzz)
    clear hz HC
    go_wp2_with fail
    refine HE.out.mono ?_
    rintro e w3 ⟨rfl, hw⟩
    have HO3 : Hid (Only (fun _ => False) w w3) := by unfold Hid; rw [hw]; exact o2 HO2.out (Only.drew _ _)
    clear hw
    go_wp2_with fail
    go_ret3
    exact ⟨rfl, HO3.out⟩
set_option maxRecDepth 100000 in
set_option maxHeartbeats 1600000 in
theorem taken_t (w : World) (m a : Int) (cp B : Nat) (ao : Option Addr) (s0 s1 : ByteArray) (hM : Md m) (ha : 0 ≤ a) (hS : Strs w B ao [s0, s1]) (hk : s1.size = nb m) (hl : ¬ lim m s0 = 0) :
    Calls Tryz.prog 149 #[.int .i64 m, .agg #[.int .i64 a, .int .i64 1, .int .i64 0, .int .i64 0, .string ⟨#[]⟩, .slice ao 2 cp]] w fun e w' => (topOk m s1 → TakY w w' e (lim m s0) (stsTo (bl s1) m.toNat m.toNat)) ∧ (¬ topOk m s1 → TakN w w' e 31) := by
  have htd : (m + 3).tdiv 4 = (nb m : Int) := by
    have : (m + 3) / 4 = (nb m : Int) := by have := hM.1; unfold nb; omega
    rw [← this]
    exact Int.tdiv_eq_ediv_of_nonneg (by have := hM.1; omega)
  have hnb := (nb_bd hM).2.1
  have hnb4 := (nb_bd hM).1
  obtain ⟨nv, hnv⟩ : ∃ n, (rdN m (bl s0)).1 = n := ⟨_, rfl⟩
  obtain ⟨z, hz⟩ : ∃ z, (rdN m (bl s0)).2.2 = z := ⟨_, rfl⟩
  obtain ⟨r, hr⟩ : ∃ r, (rdN m (bl s0)).2.1 = r := ⟨_, rfl⟩
  have HC : Hid (lim m s0 = if z = 0 ∧ r = [] then nv else 0) := by unfold Hid lim; rw [hnv, hz, hr]
  have HNUM : Hid (∀ W x, XR W x s0 0 0 → Calls Tryz.prog 106 #[.pointer (some ⟨x, 0, none⟩), .int .i64 m] W fun e w' => e = .returned (.int .i64 nv) ∧ XPost W w' x s0 r z) := by
    intro W x hX
    have := xnum_any W x s0 0 m hX (Nat.zero_le _) (by have := hS.size s0 (by simp); have : maxLen = 9223372036854775807 := rfl; omega)
    rw [List.drop_zero] at this
    rw [hnv, hz, hr] at this
    exact this
  have hnb0 := rdN_facts m (bl s0)
  rw [hnv] at hnb0
  have hn0 := hnb0.1
  have hn1 := hnb0.2.1
  clear hnv hz hr hnb0
  have HTOP := hide (top_iff hM (s := s1))
  have hm4 := (nb_bd hM).2.2.1
  obtain ⟨N, hN⟩ : ∃ N, nb m = N := ⟨_, rfl⟩
  rw [hN] at htd hnb hnb4 hk
  have hsN : (s1.size : Int) = (N : Int) := by omega
  rw [hN] at HTOP hm4
  clear hN
  have hzr : z = 0 ∧ r = [] := Classical.byContradiction fun h => hl (by rw [HC.out, if_neg h])
  have hnl : lim m s0 = nv := by rw [HC.out, if_pos hzr]
  rw [hnl] at hl
  rw [hnl]
  have hn2 : 1 ≤ nv := by omega
  obtain ⟨rfl, rfl⟩ := hzr
  clear HC hnl hl
  obtain ⟨PY, hPY⟩ : ∃ P : Prop, topOk m s1 = P := ⟨_, rfl⟩
  rw [hPY] at HTOP
  rw [hPY]
  clear hPY
  have HKS := hide hk
  have HP := hide (Pag.new w (.int .i64 a) (.int .i64 1) (.int .i64 0) (.int .i64 0) (.string ⟨#[]⟩) (.slice ao 2 cp))
  have HM := hide (fun W => right_any m W ⟨by have := hM.1; omega, by have := hM.2.1; omega⟩)
  simp only [decide_eq_true hM] at HM
  have hm1 := hM.1
  have hm2 := hM.2.1
  clear hM
  have HO := hide (onlyA w (.cells #[.int .i64 a, .int .i64 1, .int .i64 0, .int .i64 0, .string ⟨#[]⟩, .slice ao 2 cp] 30))
  obtain ⟨o, rfl, hc⟩ := hS.at_ (by simp)
  have hB := hS.lt (by simp)
  have hc0 := hc 0 (by simp)
  have hc1 := hc 1 (by simp)
  simp only [List.getElem_cons_zero, List.getElem_cons_succ, Nat.add_zero] at hc0 hc1
  have HC0 := hide hc0
  have HC1 := hide hc1
  clear hc hc0 hc1
  go_enter Tryz.func149, Tryz.ntmps149
  go_wp2_with fail
  refine (HM.out _).mono ?_
  rintro e w1 ⟨rfl, hw⟩
  rw [← hw] at HO HP
  clear hw
  have d1 := (HO.out.cell (p := ⟨B, o + 1, none⟩) hB (fun h => h)).trans HC1.out
  have d0 := (HO.out.cell (p := ⟨B, o, none⟩) hB (fun h => h)).trans HC0.out
  obtain ⟨p0, p1, p2, p3, p4, p5, f0, f1, f2, f3, f4, f5, fl⟩ := HP.out
  have HXR := hide (XR.new w1 s0)
  have HOX := hide (onlyA w1 (.cells #[.string s0, .int .i64 0, .int .i64 0] 111))
  go_upto_region 6 with fail
  obtain ⟨x, hx⟩ : ∃ x, w1.heap.size = x := ⟨_, rfl⟩
  obtain ⟨W1, hW1⟩ : ∃ W, w1.alloc (.cells #[.string s0, .int .i64 0, .int .i64 0] 111) = W := ⟨_, rfl⟩
  rw [hW1] at HXR HOX ⊢
  rw [hx] at HXR ⊢
  have HX : Hid (w.heap.size < x) := by unfold Hid; have := HP.out.lt; omega
  clear hW1 hx d0 d1 p0 p1 p2 p3 p4 p5 f0 f1 f2 f3 f4 f5 fl
  have HO1 := hide (o2 HO.out HOX.out)
  have HP1 := hide (HP.out.more HOX.out)
  go_wp2_with fail
  refine (HNUM.out W1 x HXR.out).mono ?_
  rintro e w2 ⟨rfl, pl, hxr, hpl, ho2⟩
  have HXR2 := hide hxr
  have HPL := hide hpl
  have HO2 : Hid (Only (fun _ => False) w w2) := HO1.out.trans ho2 (fun i hi e => by have := HX.out; omega)
  have HP2 := hide (HP1.out.kept ho2 (by have := HX.out; omega))
  clear hxr hpl ho2
  obtain ⟨hpl1, hpl2⟩ := HPL.out rfl
  have HE := hide (xend_ok w2 x s0 pl HXR2.out hpl1)
  have e0 : s0.size - pl = 0 := by
    have := congrArg List.length hpl2
    rw [List.length_drop, Array.length_toList] at this
    exact this
  rw [if_pos e0] at HE
  clear e0 hpl1 hpl2
  go_wp2_with fail
  refine HE.out.mono ?_
  rintro e w3 ⟨rfl, hw⟩
  have HO3 : Hid (Only (fun _ => False) w w3) := by unfold Hid; rw [hw]; exact o2 HO2.out (Only.drew _ _)
  have HP3 : Hid (Pag w3 w.heap.size (.int .i64 a) (.int .i64 1) (.int .i64 0) (.int .i64 0) (.string ⟨#[]⟩) (.slice (some ⟨B, o, none⟩) 2 cp)) := by unfold Hid; rw [hw]; exact HP2.out.more (Only.drew _ _)
  clear hw
  go_wp2_with fail
  go_loopw [9, 10] (fun u t wr => ∃ i : Nat, i ≤ 4 * N ∧ t = .int .i64 (i : Int) ∧ Hid (Sl wr w3.heap.size u (stsTo (bl s1) m.toNat i)) ∧ Hid (∀ j : Nat, m ≤ (j : Int) → j < i → stAt (bl s1) j = 0) ∧ Hid (Only (fun k => w3.heap.size ≤ k) w3 wr)) (fun _ t _ => 4 * N - (intOf t).toNat)
  case atStart => exact ⟨0, by omega, rfl, Sl.nil _ _, (fun j _ h => by omega), Only.refl _ _⟩
  case round =>
    obtain ⟨i, hi, rfl, HSL, HZE, HON⟩ := hrel
    have HOW : Hid (Only (fun _ => False) w wr) := HO3.out.trans HON.out (fun i hi e => by have := HO3.out.size; omega)
    have HPW : Hid (Pag wr w.heap.size (.int .i64 a) (.int .i64 1) (.int .i64 0) (.int .i64 0) (.string ⟨#[]⟩) (.slice (some ⟨B, o, none⟩) 2 cp)) := HP3.out.kept HON.out (by have := HP3.out.lt; omega)
    have d1 := (HOW.out.cell (p := ⟨B, o + 1, none⟩) hB (fun h => h)).trans HC1.out
    have p5 := HPW.out.c5
    by_cases hlt : i < 4 * N
    · have hq : i / 4 < s1.size := by omega
      have e1 : (i : Int).tmod 4 = ((i % 4 : Nat) : Int) := by rw [Int.tmod_eq_emod_of_nonneg (by omega)]; omega
      have e2 : (i : Int).tdiv 4 = ((i / 4 : Nat) : Int) := by rw [Int.tdiv_eq_ediv_of_nonneg (by omega)]; omega
      have hk4 : i % 4 < 4 := by omega
      have HST : Hid (stAt (bl s1) i = dig (byt (bl s1) (i / 4)) (i % 4)) := rfl
      rw [byt_is hq] at HST
      obtain ⟨k, hkk⟩ : ∃ k, i % 4 = k := ⟨_, rfl⟩
      rw [hkk] at e1 hk4 HST
      clear hkk
      have hbt := UInt8.toNat_lt (s1[i / 4]'hq)
      obtain ⟨bq, hbq⟩ : ∃ b, (s1[i / 4]'hq).toNat = b := ⟨_, rfl⟩
      rw [hbq] at HST hbt
      have HBQ := hide hbq
      clear hbq
      have hiN : (i : Int) < 4 * (N : Int) := by omega
      have hli : (i : Int) < 4 * (s1.size : Int) := by omega
      have HMM : Hid ((i : Int) < m ↔ i < m.toNat) := by unfold Hid; omega
      go_wp2_with fail
      clear d1 p5
      go_loop [11, 12] (fun a b => ∃ j : Nat, j ≤ k ∧ a = .int .i64 ((bq / 4 ^ j : Nat) : Int) ∧ b = .int .i64 (j : Int)) (fun _ b => k - (intOf b).toNat)
      case atStart => exact ⟨0, by omega, by simp; rw [HBQ.out]; exact w64_id _ (by omega), rfl⟩
      case round =>
        obtain ⟨j, hj, rfl, rfl⟩ := hrel
        have hle : bq / 4 ^ j ≤ bq := Nat.div_le_self _ _
        by_cases hjk : j < k
        · have hs : bq / 4 ^ j / 4 = bq / 4 ^ (j + 1) := by rw [Nat.pow_succ, Nat.div_div_eq_div_mul]
          obtain ⟨nn, hnn⟩ : ∃ n, bq / 4 ^ j = n := ⟨_, rfl⟩
          rw [hnn] at hle hs ⊢
          have HSS := hide hs
          clear hs hnn
          have hjk' : (j : Int) < (k : Int) := by omega
          go_wp2_with fail
          go_round
          case rel => exact ⟨j + 1, by omega, by rw [← HSS.out]; go_num, by go_num⟩
          case measure => simp [intOf]; omega
        · have hjk' : ¬ (j : Int) < (k : Int) := by omega
          have ejk : j = k := by omega
          have HSV : Hid (stAt (bl s1) i = bq / 4 ^ j % 4) := by unfold Hid; rw [ejk]; exact HST.out
          obtain ⟨nn, hnn⟩ : ∃ n, bq / 4 ^ j = n := ⟨_, rfl⟩
          rw [hnn] at hle HSV ⊢
          clear hnn ejk HST
          obtain ⟨st, hst⟩ : ∃ s, nn % 4 = s := ⟨_, rfl⟩
          rw [hst] at HSV
          have hs1 : (nn : Int).tmod 4 = (st : Int) := by rw [Int.tmod_eq_emod_of_nonneg (by omega)]; omega
          have hs2 : (st : Int) % 256 = (st : Int) := by omega
          have hs3 : (nn : Int) % 4 = (st : Int) := by omega
          by_cases him : (i : Int) < m
          · obtain ⟨v', w5, hrun, hsl5, ho5⟩ := append_st wr w3.heap.size u9 _ HSL.out (by have := HON.out.size; omega) st (by rw [stsTo_len]; omega)
            have HRUN := hide hrun
            have HSL5 : Hid (Sl w5 w3.heap.size v' (stsTo (bl s1) m.toNat (i + 1))) := by
              unfold Hid
              rw [stsTo_next _ _ _ (HMM.out.1 him), HSV.out]
              exact hsl5
            have HON5 := hide (HON.out.trans ho5 (fun _ _ h => h))
            clear hrun hsl5 ho5 hst
            go_wp2_with (at_builtin; go_must (refine Lib.wpList_append_run _ rfl (.tmp 105) (.tmp 107) _ _ rfl _ _ rfl rfl _ _ HRUN.out ?_))
            exact ⟨⟨i + 1, by omega, by go_num, HSL5, (fun j hj hji => by
              by_cases e : j < i
              · exact HZE.out j hj e
              · omega), HON5⟩, by simp [intOf]; omega⟩
          · have HSL5 : Hid (Sl wr w3.heap.size u9 (stsTo (bl s1) m.toNat (i + 1))) := by
              unfold Hid
              rw [stsTo_past _ _ _ (fun h => him (HMM.out.2 h))]
              exact HSL.out
            by_cases hs0 : st = 0
            · have HZ5 : Hid (∀ j : Nat, m ≤ (j : Int) → j < i + 1 → stAt (bl s1) j = 0) := fun j hj hji => by
                by_cases e : j < i
                · exact HZE.out j hj e
                · have : j = i := by omega
                  rw [this, HSV.out, hs0]
              have hs00 : (st : Int) = 0 := by omega
              clear hst
              go_wp2_with fail
              exact ⟨⟨i + 1, by omega, by go_num, HSL5, HZ5, HON⟩, by simp [intOf]; omega⟩
            · have hs00 : ¬ (st : Int) = 0 := by omega
              have HNO : Hid (¬ PY) := fun h => hs0 (by rw [← HSV.out]; exact HTOP.out.1 h i (by omega) hlt)
              clear hst hs0
              go_wp2_with fail
              go_ret3
              exact ⟨fun h => absurd h HNO.out, fun _ => ⟨rfl, HOW.out⟩⟩
    · have hli : ¬ (i : Int) < 4 * (s1.size : Int) := by omega
      have ei : i = 4 * N := by omega
      have HYES : Hid PY := HTOP.out.2 (fun j h1 h2 => HZE.out j h1 (by omega))
      have HSLF : Hid (Sl wr w3.heap.size u9 (stsTo (bl s1) m.toNat m.toNat)) := by
        have := HSL.out
        unfold stsTo at this ⊢
        rw [show min i m.toNat = min m.toNat m.toNat by omega] at this
        exact this
      obtain ⟨BF, capF, hvF, hbF, hF⟩ := HSLF.out.stl (by rw [stsTo_len]; omega) (stsTo_four _ _ _)
      have HF := hide hF
      have HBF := hide hbF
      subst hvF
      clear hbF hF ei HTOP
      go_wp2_with fail
      go_ret3
      exact ⟨fun _ => ⟨BF, capF, rfl, HF.out, by have := HBF.out; have := HO3.out.size; omega, HOW.out⟩, fun h => absurd HYES.out h⟩
-- T}
theorem ret_str {a b : ByteArray} (h : a = b) : Ending.returned (.string a) = .returned (.string b) := by rw [h]
theorem xtext_err (w : World) (x : Nat) (s : ByteArray) (p : Nat) (y z : Int) (h : XR w x s p y) (hy : (y != 0) = true) (hy2 : (y == 0) = false) :
    Calls Tryz.prog 62 #[.pointer (some ⟨x, 0, none⟩), .int .i64 z] w fun e w' => e = .returned (.string ⟨#[]⟩) ∧ Only (fun _ => False) w w' := by
  have HX := hide h
  obtain ⟨c0, c1, c2, f0, f1, f2, hl⟩ := h
  go_enter Tryz.func62, Tryz.ntmps62
  go_wp2_with fail
  refine (xnum_err _ x s p y z (unhide HX) hy).mono ?_
  rintro e w1 ⟨rfl, rfl⟩
  go_wp2_with fail
  go_region
  go_wp2_with fail
  go_ret
  exact ⟨rfl, Only.drew _ _⟩
set_option maxRecDepth 100000 in
set_option maxHeartbeats 1600000 in
theorem xtext_any (w : World) (x : Nat) (s : ByteArray) (p : Nat) (z : Int) (h : XR w x s p 0) (hp : p ≤ s.size) (hs : s.size ≤ maxLen - 100) :
    Calls Tryz.prog 62 #[.pointer (some ⟨x, 0, none⟩), .int .i64 z] w fun e w' => e = .returned (.string ⟨(rdT z (s.data.toList.drop p)).1.toArray⟩) ∧ XPost w w' x s (rdT z (s.data.toList.drop p)).2.1 (rdT z (s.data.toList.drop p)).2.2 := by
  have hcall := xnum_any w x s p z h hp hs
  have hfx := rdN_facts z (s.data.toList.drop p)
  unfold maxLen at hs
  by_cases hx : (rdN z (s.data.toList.drop p)).2.2 = 0
  · by_cases hsh : ((rdN z (s.data.toList.drop p)).2.1.length : Int) < (rdN z (s.data.toList.drop p)).1
    · rw [rdT_short hx hsh]
      generalize rdN z (s.data.toList.drop p) = N at *
      obtain ⟨n, t, y⟩ := N
      simp only at hx hsh hfx hcall
      subst hx
      have HC := hide hcall
      clear hcall
      go_enter Tryz.func62, Tryz.ntmps62
      go_wp2_with fail
      refine (unhide HC).mono ?_
      rintro e w1 ⟨rfl, p', hX1, hpl, ho1⟩
      obtain ⟨hp1, ht⟩ := hpl rfl
      have hlen : s.size - p' = t.length := by rw [← ht]; simp
      have hgt : (s.size : Int) - (p' : Int) < n := by omega
      have HX1 := hide (And.intro hX1 ho1)
      obtain ⟨c0, c1, c2, f0, f1, f2, hl⟩ := hX1
      clear hpl ht ho1 hlen hfx hsh
      go_wp2_with fail
      go_region
      go_wp2_with fail
      refine (wrong_any _ x s p' 0 10 (unhide HX1).1.drew).mono ?_
      rintro e w2 ⟨rfl, hw2⟩
      have hX2 : XR w2 x s p' 10 := by rw [hw2]; exact (unhide HX1).1.drew.set2 10
      have hP2 : XPost w w2 x s [] 10 := by
        rw [hw2]
        exact xp_wrong (unhide HX1).1.drew ((unhide HX1).2.trans (Only.drew (fun _ => False) _) (fun _ _ h => h.elim)) (by decide) (Only.refl _ _)
      have HP2 := hide hP2
      clear hw2 hP2 c0 c1 c2 f0 f1 f2 hl
      obtain ⟨c0, c1, c2, f0, f1, f2, hl⟩ := hX2
      go_wp2_with fail
      go_ret
      exact ⟨rfl, unhide HP2⟩
    · rw [rdT_ok hx hsh]
      generalize rdN z (s.data.toList.drop p) = N at *
      obtain ⟨n, t, y⟩ := N
      simp only at hx hsh hfx hcall ⊢
      subst hx
      obtain ⟨m, rfl⟩ := Int.eq_ofNat_of_zero_le hfx.1
      have HC := hide hcall
      clear hcall
      go_enter Tryz.func62, Tryz.ntmps62
      go_wp2_with fail
      refine (unhide HC).mono ?_
      rintro e w1 ⟨rfl, p', hX1, hpl, ho1⟩
      obtain ⟨hp1, ht⟩ := hpl rfl
      have hlen : s.size - p' = t.length := by rw [← ht]; simp
      have hgt : ¬ (s.size : Int) - (p' : Int) < (m : Int) := by omega
      obtain ⟨k, hk⟩ : ∃ k : Nat, p' + m = k := ⟨_, rfl⟩
      have hpk : (p' : Int) + (m : Int) = (k : Int) := by omega
      have hk1 : k ≤ s.size := by omega
      have hk2 : p' ≤ k := by omega
      have HX1 := hide (And.intro hX1 (And.intro ho1 (And.intro ht hk)))
      obtain ⟨c0, c1, c2, f0, f1, f2, hl⟩ := hX1
      clear hpl ht ho1 hlen hfx hsh hk
      go_wp2_with fail
      go_region
      go_wp2_with fail
      go_region
      go_wp2_with fail
      go_ret
      obtain ⟨hX1, ho1, ht, hk⟩ := unhide HX1
      have e1 : s.extract p' k = ⟨(t.take m).toArray⟩ := ba_eq _ _ (by rw [Lib.extract_data, ht, ← hk]; congr 1; omega)
      rw [Int.toNat_natCast]
      refine ⟨ret_str e1, (xp_last hX1 ho1 rfl (drews _) hk1 ?_).1⟩
      rw [← ht, List.drop_drop, hk]
  · have hne : ((rdN z (s.data.toList.drop p)).2.2 != 0) = true := by simpa using hx
    have hne2 : ((rdN z (s.data.toList.drop p)).2.2 == 0) = false := by simpa using hx
    rw [rdT_err hx]
    have hnil := rdN_errs z (s.data.toList.drop p) hx
    generalize rdN z (s.data.toList.drop p) = N at *
    obtain ⟨n, t, y⟩ := N
    simp only at hx hfx hcall hne hne2 hnil ⊢
    subst hnil
    have HC := hide hcall
    clear hcall
    have HY := hide hx
    clear hx
    go_enter Tryz.func62, Tryz.ntmps62
    go_wp2_with fail
    refine (unhide HC).mono ?_
    rintro e w1 ⟨rfl, p', hX1, hpl, ho1⟩
    have HX1 := hide (And.intro hX1 ho1)
    obtain ⟨c0, c1, c2, f0, f1, f2, hl⟩ := hX1
    clear hpl ho1
    go_wp2_with fail
    go_region
    go_wp2_with fail
    go_ret
    exact ⟨rfl, p', (unhide HX1).1.drew, fun e => absurd e (unhide HY), (unhide HX1).2.trans (Only.drew (fun _ => False) _) (fun _ _ h => h.elim)⟩
theorem cat_eqU (a : List UInt8) (s : ByteArray) : (⟨a.toArray⟩ : ByteArray) ++ s = ⟨(a ++ s.data.toList).toArray⟩ := by
  obtain ⟨⟨l⟩⟩ := s
  apply ByteArray.ext
  simp
set_option maxRecDepth 100000 in
theorem refText_any (w : World) (s : ByteArray) (hs : s.size + 30 ≤ 158329674399744) :
    Calls Tryz.prog 109 #[.string s] w fun e w' => e = .returned (.string ⟨(sev s.size ++ s.data.toList).toArray⟩) ∧ Only (fun _ => False) w w' := by
  go_enter Tryz.func109, Tryz.ntmps109
  go_wp2_with fail
  refine (refNum_one w (s.size : Int) (by omega)).mono ?_
  rintro e w1 ⟨rfl, ho1⟩
  rw [Int.toNat_natCast]
  have hsl : (sev s.size).length ≤ 10 := sevF_len 9 s.size
  go_wp2_with fail
  go_ret
  exact ⟨ret_str (cat_eqU _ _), ho1⟩
end Go.Proofs.YtpnbhddmdfcjdaaGreat
