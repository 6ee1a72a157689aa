/- Walk of PageDecodes. -/
import Derived.Test.YtbhmhhnacpjgpaaDoorPRefD
import Derived.Test.YtbhmhhnacpjgpaaDoorPOwn
import Derived.Test.YtbhmhhnacpjgpaaDoorPAwake
import Derived.Test.YtbhmhhnacpjgpaaDoorPOpen
namespace Go.Proofs.YtbhmhhnacpjgpaaDoor
open Go.RowKit

set_option maxRecDepth 100000 in
set_option maxHeartbeats 1600000 in
theorem fixed_yes (w : World) (d : ByteArray) : Calls Tryd.prog 11 #[.string d, .bool true] w fun e w' => ∃ F, e = .returned (.string F) ∧ Only (fun _ => False) w w' := by
  by_cases h5 : d.size = 512
  · have h5' : ((d.size : Int) != 512) = false := by simp; omega
    have t4 : (4 : Int) ≤ (d.size : Int) := by omega
    obtain ⟨D, hD⟩ : ∃ D, d.extract 4 d.size = D := ⟨_, rfl⟩
    have sD : D.size = 508 := by rw [← bl_len, ← hD, ext_bl, List.length_drop, List.length_take, bl_len]; omega
    obtain ⟨z, hz⟩ : ∃ z, sum D.data.toList = z := ⟨_, rfl⟩
    have hzb := sum_bd D.data.toList
    rw [hz] at hzb
    obtain ⟨n, hn⟩ := Int.eq_ofNat_of_zero_le hzb.1
    have hn2 : n < 4294967296 := by omega
    obtain ⟨Y, hY⟩ : ∃ Y : ByteArray, (⟨(bigF 4 n).toArray⟩ : ByteArray) = Y := ⟨_, rfl⟩
    have hYs : Y.size ≤ 4 := by rw [← hY]; show (bigF 4 n).length ≤ 4; rw [bigF_len]; omega
    have H1 : Hid (∀ W, Calls Tryd.prog 28 #[.string D] W fun e w' => e = .returned (.int .u32 (n : Int)) ∧ w' = W) := fun W => by
      have h1 := refSum_any D W (by unfold maxLen; omega)
      rw [hz, hn] at h1
      exact h1
    have H2 : Hid (∀ W, Calls Tryd.prog 27 #[.int .i64 (n : Int), .int .i64 4] W fun e w' => e = .returned (.string Y) ∧ Only (fun _ => False) W w') := fun W => by
      have h1 := refBig_any n 4 W (by omega) (by omega) (by omega)
      rw [hY] at h1
      exact h1
    have hYD : ¬ (9223372036854775807 : Int) < (Y.size : Int) + (D.size : Int) := by omega
    have hwn : IntKind.i64.wrap (n : Int) = (n : Int) := wraps_i64 _ (by omega) (by omega)
    clear hz hzb hn hY h5 sD
    go_enter Tryd.func11, Tryd.ntmps11
    go_upto_region 3 with fail
    go_region_with (first
        | (go_at_call 28; refine (H1.out _).mono ?_; rintro e w1 ⟨rfl, rfl⟩)
        | (go_at_call 27; refine (H2.out _).mono ?_; rintro e w2 ⟨rfl, ho2⟩))
    all_goals go_wp2_with fail
    all_goals go_ret
    all_goals exact ⟨_, rfl, (Only.drew (fun _ => False) w).trans ho2 (fun _ _ h => h)⟩
  · have h5' : ((d.size : Int) != 512) = true := by simp; omega
    clear h5
    go_enter Tryd.func11, Tryd.ntmps11
    go_wp2_with fail
    go_ret
    exact ⟨_, rfl, Only.refl _ _⟩

set_option maxRecDepth 100000 in
set_option maxHeartbeats 800000 in
theorem fixed_both (w : World) (d : ByteArray) (b : Bool) : Calls Tryd.prog 11 #[.string d, .bool b] w fun e w' => ∃ F, e = .returned (.string F) ∧ Only (fun _ => False) w w' := by
  cases b with
  | true => exact fixed_yes w d
  | false =>
    by_cases h5 : d.size = 512
    · have h5' : ((d.size : Int) != 512) = false := by simp; omega
      clear h5
      go_enter Tryd.func11, Tryd.ntmps11
      go_wp2_with fail
      go_ret
      exact ⟨_, rfl, Only.refl _ _⟩
    · have h5' : ((d.size : Int) != 512) = true := by simp; omega
      clear h5
      go_enter Tryd.func11, Tryd.ntmps11
      go_wp2_with fail
      go_ret
      exact ⟨_, rfl, Only.refl _ _⟩
/-- A page in a box, with its list. -/
structure Hp (w : World) (b : Nat) (p : Pg) (B : Nat) (ao : Option Addr) (cp : Nat) : Prop where
  pag : Pag w b (.int .i64 p.lsn) (.int .i64 p.kind) (.int .i64 p.level) (.int .i64 p.right) (.string p.high) (.slice ao p.items.length cp)
  strs : Strs w B ao p.items
theorem Hp.more {w w' : World} {b : Nat} {p : Pg} {B : Nat} {ao : Option Addr} {cp : Nat} (h : Hp w b p B ao cp) (ho : Only (fun _ => False) w w') : Hp w' b p B ao cp := ⟨h.pag.more ho, h.strs.more ho⟩
theorem Hp.kept {S : Nat → Prop} {w w' : World} {b : Nat} {p : Pg} {B : Nat} {ao : Option Addr} {cp : Nat} (h : Hp w b p B ao cp) (ho : Only S w w') (h1 : ¬ S b) (h2 : 0 < p.items.length → ¬ S B) : Hp w' b p B ao cp := ⟨h.pag.kept ho h1, h.strs.kept ho h2⟩
theorem Hp.new {x : World} {p : Pg} {B : Nat} {ao : Option Addr} {cp : Nat} (hS : Strs x B ao p.items) : Hp (x.alloc (.cells #[.int .i64 p.lsn, .int .i64 p.kind, .int .i64 p.level, .int .i64 p.right, .string p.high, .slice ao p.items.length cp] 24)) x.heap.size p B ao cp :=
  ⟨Pag.new x _ _ _ _ _ _, hS.more (onlyA _ _)⟩
theorem dec_cases2 (l : List UInt8) : (∃ q, dec l = (q, 0)) ∨ ∃ c, dec l = (.none, c) := by
  unfold dec
  split
  · exact .inr ⟨31, rfl⟩
  · split
    · exact .inr ⟨30, rfl⟩
    · split
      · rename_i p r _
        split
        · exact .inl ⟨p, rfl⟩
        · exact .inr ⟨31, rfl⟩
      · exact .inr ⟨31, rfl⟩
theorem append_one (w : World) (base : Nat) (v : Value) (l : List ByteArray) (h : Ls w base v l) (s : ByteArray) (hl : l.length ≤ 1000) (hbase : base ≤ w.heap.size) :
    ∃ ao n cp w', (Builtin.append_ #[22, 22] 22 #[v, .slice (some ⟨w.heap.size, 0, none⟩) 1 1]).run Tryd.prog (w.alloc (.cells #[.string s] 9)) = .ok (.slice ao n cp) w' ∧ Only (fun k => v.ownBlock = some k) w w' := by
  obtain ⟨i0, hi, hz0, hz1, hz2⟩ := info_parts Tryd.infoStr
  have h' := h.more (onlyA w (.cells #[.string s] 9))
  obtain ⟨v', w', hr, h2, h3, _, _⟩ := run_append_own_at (P := Tryd.prog) (w.alloc (.cells #[.string s] 9)) base 22 22 9 i0 (.string ⟨#[]⟩) 1 16 Tryd.underlying22 hi hz0 hz1 hz2 rfl (by decide) v l.length (scells l) h' ⟨w.heap.size, 0, none⟩ 1 1 [.string s] rfl
    (fun j u hu => by
      match j, hu with
      | 0, hu => simp at hu; subst hu; simp [Addr.add]) (by intro u hu; simp at hu; subst hu; rfl) (by unfold maxLen; omega) (by omega) (by simp; omega)
  have hf : ∃ ao n cp, v' = .slice ao n cp := by
    rcases h2.2 with ⟨rfl, _⟩ | ⟨g, cap, cur, rfl, _⟩
    · exact ⟨_, _, _, rfl⟩
    · exact ⟨_, _, _, rfl⟩
  obtain ⟨ao, n, cp, rfl⟩ := hf
  exact ⟨ao, n, cp, w', hr, ((onlyA w _).mono (fun _ _ h => h.elim)).trans (Only.grown (S := fun k => v.ownBlock = some k) h3 (fun k hk => hk)) (fun _ _ h => h)⟩
set_option maxRecDepth 100000 in
set_option maxHeartbeats 3200000 in
theorem decodes_law (w : World) (d : ByteArray) (b : Bool) :
    Calls Tryd.prog 4 #[.string d, .bool b] w fun e w' => e = .returned (.bool true) ∧ Only (fun _ => False) w w' := by
  go_enter Tryd.func4, Tryd.ntmps4
  go_wp2_with fail
  refine (fixed_both w d b).mono ?_
  rintro e w0 ⟨F, rfl, ho0⟩
  have HO0 := hide ho0
  clear ho0
  obtain ⟨P, hP⟩ : ∃ P, dec (bl F) = P := ⟨_, rfl⟩
  have hit : P.1.items.length ≤ 255 := by
    rw [← hP]
    rcases dec_cases2 (bl F) with ⟨q, hq⟩ | ⟨c, hc⟩
    · rw [hq]; exact (dec_ok hq).1.fit.2.1
    · rw [hc]; simp [Pg.none]
  have HP := hide hP
  clear hP
  go_wp2_with fail
  have hc1 := pdecode_own w0 F
  rw [HP.out] at hc1
  refine Calls.mono hc1 ?_
  clear hc1
  rintro e y1 ⟨B1, a1, c1, rfl, hS1, hF1, ho1, hn1, hL1⟩
  have HSr1 := hide hS1
  have HOy1 := hide ho1
  have HN1 := hide hn1
  clear hS1 hF1 ho1 hn1
  go_upto_region 3 with fail
  obtain ⟨X1, hX1⟩ : ∃ X, y1.alloc (.cells #[.int .i64 P.1.lsn, .int .i64 P.1.kind, .int .i64 P.1.level, .int .i64 P.1.right, .string P.1.high, .slice a1 P.1.items.length c1] 24) = X := ⟨_, rfl⟩
  have HH1 := hide (Hp.new (cp := c1) HSr1.out)
  have HOa1 := hide (onlyA y1 (.cells #[.int .i64 P.1.lsn, .int .i64 P.1.kind, .int .i64 P.1.level, .int .i64 P.1.right, .string P.1.high, .slice a1 P.1.items.length c1] 24))
  have hsz1 : X1.heap.size = y1.heap.size + 1 := by rw [← hX1]; simp
  have HSZ1 := hide hsz1
  rw [hX1] at HH1 HOa1 ⊢
  clear hX1 hsz1
  have HL1 := hide hL1
  clear hL1
  go_wp2_with fail
  have hc2 := pdecode_any X1 F
  rw [HP.out] at hc2
  refine Calls.mono hc2 ?_
  clear hc2
  rintro e y2 ⟨B2, a2, c2, rfl, hS2, hF2, ho2, hn2⟩
  have HSr2 := hide hS2
  have HOy2 := hide ho2
  have HN2 := hide hn2
  clear hS2 hF2 ho2 hn2
  go_upto_region 4 with fail
  obtain ⟨X2, hX2⟩ : ∃ X, y2.alloc (.cells #[.int .i64 P.1.lsn, .int .i64 P.1.kind, .int .i64 P.1.level, .int .i64 P.1.right, .string P.1.high, .slice a2 P.1.items.length c2] 24) = X := ⟨_, rfl⟩
  have HH2 := hide (Hp.new (cp := c2) HSr2.out)
  have HOa2 := hide (onlyA y2 (.cells #[.int .i64 P.1.lsn, .int .i64 P.1.kind, .int .i64 P.1.level, .int .i64 P.1.right, .string P.1.high, .slice a2 P.1.items.length c2] 24))
  have hsz2 : X2.heap.size = y2.heap.size + 1 := by rw [← hX2]; simp
  have HSZ2 := hide hsz2
  rw [hX2] at HH2 HOa2 ⊢
  clear hX2 hsz2
  go_wp2_with fail
  have hc3 := ydecode_any X2 F
  rw [HP.out] at hc3
  refine Calls.mono hc3 ?_
  clear hc3
  rintro e y3 ⟨B3, a3, c3, rfl, hS3, hF3, ho3, hn3⟩
  have HSr3 := hide hS3
  have HOy3 := hide ho3
  have HN3 := hide hn3
  clear hS3 hF3 ho3 hn3
  go_upto_region 5 with fail
  obtain ⟨X3, hX3⟩ : ∃ X, y3.alloc (.cells #[.int .i64 P.1.lsn, .int .i64 P.1.kind, .int .i64 P.1.level, .int .i64 P.1.right, .string P.1.high, .slice a3 P.1.items.length c3] 24) = X := ⟨_, rfl⟩
  have HH3 := hide (Hp.new (cp := c3) HSr3.out)
  have HOa3 := hide (onlyA y3 (.cells #[.int .i64 P.1.lsn, .int .i64 P.1.kind, .int .i64 P.1.level, .int .i64 P.1.right, .string P.1.high, .slice a3 P.1.items.length c3] 24))
  have hsz3 : X3.heap.size = y3.heap.size + 1 := by rw [← hX3]; simp
  have HSZ3 := hide hsz3
  rw [hX3] at HH3 HOa3 ⊢
  clear hX3 hsz3
  have HOX := hide (o2 HOy2.out HOa2.out)
  have HOZ := hide (o2 HOy3.out HOa3.out)
  have HH1c := hide (HH1.out.more (o2 HOX.out HOZ.out))
  have HH2c := hide (HH2.out.more HOZ.out)
  have HLc := hide ((HL1.out.more HOa1.out).more (o2 HOX.out HOZ.out))
  have HOc := hide (o2 (o2 HO0.out (o2 HOy1.out HOa1.out)) (o2 HOX.out HOZ.out))
  obtain ⟨p0, p1, p2, p3, p4, p5, _⟩ := HH1c.out.pag
  obtain ⟨q0, q1, q2, q3, q4, q5, _⟩ := HH3.out.pag
  have hee : (P.2 != P.2) = false := by simp
  go_wp2_with fail
  have hs := ysame_any X3 P.1.lsn P.1.kind P.1.level P.1.right P.1.lsn P.1.kind P.1.level P.1.right P.1.high P.1.high B1 B3 c1 c3 a1 a3 P.1.items P.1.items HH1c.out.strs HH3.out.strs
  rw [show decide (P.1.lsn = P.1.lsn ∧ P.1.kind = P.1.kind ∧ P.1.level = P.1.level ∧ P.1.right = P.1.right ∧ P.1.high = P.1.high ∧ P.1.items = P.1.items) = true by simp] at hs
  refine Calls.mono hs ?_
  clear hs
  rintro e x4 ⟨rfl, ho4⟩
  have HO4 := hide ho4
  clear ho4 p0 p1 p2 p3 p4 p5 q0 q1 q2 q3 q4 q5
  have HNB : Hid (∀ k, (Value.slice a1 P.1.items.length c1).ownBlock = some k → w0.heap.size ≤ k ∧ k < y1.heap.size) := fun k hk => World.ownsRow.lt HL1.out k hk
  obtain ⟨n, hn⟩ : ∃ n, P.1.items.length = n := ⟨_, rfl⟩
  have HNN := hide hn
  obtain ⟨Q, hQ⟩ : ∃ Q : Nat → Prop, (fun k => (Value.slice a1 P.1.items.length c1).ownBlock = some k) = Q := ⟨_, rfl⟩
  have HQ : Hid (∀ k, Q k → w0.heap.size ≤ k ∧ k < y1.heap.size) := fun k hk => HNB.out k (by rw [← hQ] at hk; exact hk)
  have HQ2 : Hid (∀ k, (Value.slice a1 n c1).ownBlock = some k → Q k) := fun k hk => by rw [← hQ, hn]; exact hk
  have HLx : Hid (Ls x4 w0.heap.size (.slice a1 n c1) P.1.items) := by
    unfold Hid
    rw [← hn]
    exact HLc.out.more HO4.out
  have HH1x : Hid (Pag x4 y1.heap.size (.int .i64 P.1.lsn) (.int .i64 P.1.kind) (.int .i64 P.1.level) (.int .i64 P.1.right) (.string P.1.high) (.slice a1 n c1)) := by
    unfold Hid
    rw [← hn]
    exact (HH1c.out.more HO4.out).pag
  have hn5 : n ≤ 255 := by omega
  clear hQ hn hit HNB
  go_wp2_with fail
  go_loopw [12] (fun y wr => ∃ (j : Nat) (l' : List ByteArray), j ≤ n ∧ y = .int .i64 (j : Int) ∧ l'.length = n ∧ Hid (Ls wr w0.heap.size (.slice a1 n c1) l') ∧ Hid (Only Q x4 wr)) (fun y _ => n - (intOf y).toNat)
  case atStart => exact ⟨0, P.1.items, by omega, rfl, HNN.out, HLx, Only.refl _ _⟩
  case round =>
    obtain ⟨j, l', hj, rfl, hl', HL, HO⟩ := hrel
    have hb1 : ¬ Q y1.heap.size := fun hq => by have := HQ.out _ hq; omega
    obtain ⟨p0, p1, p2, p3, p4, p5, g0, g1, g2, g3, g4, g5, gl⟩ := HH1x.out.kept HO.out hb1
    by_cases hlt : j < n
    · have hj1 : (j : Int) < (n : Int) := by omega
      have hj0 : (0 : Int) ≤ (j : Int) := by omega
      rcases HL.out.2 with ⟨_, h0⟩ | ⟨g, cap, cur, hv, hgb, hgh, hnc, hcm, hcs, htk⟩
      · omega
      · injection hv with hv1 hv2 hv3
        subst hv1
        subst hv3
        clear hv2
        have hL2 := HL.out
        unfold Ls at hL2
        rw [hl'] at hL2
        have hcj := World.ownsRow.cellAt hL2 j (by omega)
        rw [show (scells l')[j]? = some (.string l'[j]) by simp [scells, hl', hlt]] at hcj
        have hfj := World.ownsRow.frozenAt hL2 j
        have hst := (World.ownsRow.stored hL2 j (.string ⟨#[111, 118, 101, 114]⟩)).1
        have e : (scells l').set j (.string ⟨#[111, 118, 101, 114]⟩) = scells (l'.set j ⟨#[111, 118, 101, 114]⟩) := by unfold scells; rw [List.map_set]
        rw [e] at hst
        have HST : Hid (Ls (wr.setCell ⟨g, j, none⟩ (.string ⟨#[111, 118, 101, 114]⟩)) w0.heap.size (.slice (some ⟨g, 0, none⟩) n c1) (l'.set j ⟨#[111, 118, 101, 114]⟩)) := by unfold Hid Ls; rw [List.length_set, hl']; exact hst
        have HQg := hide (HQ2.out g rfl)
        have hll : (l'.set j ⟨#[111, 118, 101, 114]⟩).length = n := by rw [List.length_set]; exact hl'
        clear hL2 hst e hgh hcs htk hgb
        go_wp2_with fail
        go_roundw
        case rel => exact ⟨j + 1, l'.set j ⟨#[111, 118, 101, 114]⟩, by omega, by go_num, hll, HST, HO.out.trans (Only.setCell (S := Q) wr ⟨g, j, none⟩ _ HQg.out) (fun _ _ h => h)⟩
        case measure => simp [intOf]; omega
    · have hj1 : ¬ (j : Int) < (n : Int) := by omega
      obtain ⟨a9, n9, c9, w9, r9, o9⟩ := append_one wr w0.heap.size (.slice a1 n c1) l' HL.out ⟨#[109, 111, 114, 101]⟩ (by omega) (by have h1 := HO.out.size; have h2 := HO4.out.size; have h3 := HOy1.out.size; have h4 := HOa1.out.size; have h5 := HOX.out.size; have h6 := HOZ.out.size; omega)
      have R9 := hide r9
      have HO9 : Hid (Only Q x4 w9) := HO.out.trans o9 (fun k _ hk => HQ2.out k hk)
      have HP9 := hide (HH1x.out.kept HO9.out hb1)
      clear r9 o9 p0 p1 p2 p3 p4 g0 g1 g2 g3 g4 gl
      obtain ⟨p0', p1', p2', p3', p4', p5', g0', g1', g2', g3', g4', g5', gl'⟩ := HP9.out
      clear p0' p1' p2' p3' p4' g0' g1' g2' g3' g4' gl'
      go_wp2_with (at_builtin; go_must (refine Lib.wpList_append_run _ rfl (.tmp 57) (.tmp 58) _ _ rfl _ _ rfl rfl _ _ R9.out ?_))
      have HOq : Hid (Only (fun k => w0.heap.size ≤ k ∧ k ≤ y1.heap.size) x4 (w9.setCell ⟨y1.heap.size, 5, none⟩ (.slice a9 n9 c9))) :=
        (HO9.out.mono (fun k _ hk => by have := HQ.out k hk; omega)).trans (Only.setCell (S := fun k => k = y1.heap.size) w9 ⟨y1.heap.size, 5, none⟩ _ rfl) (fun k _ e => by have h3 := HOy1.out.size; omega)
      have HH2q := hide ((HH2c.out.more HO4.out).kept HOq.out (by have h1 := HOy2.out.size; have h2 := HSZ1.out; omega) (fun h0 => by have h1 := HN2.out h0; have h2 := HSZ1.out; omega))
      have HH3q := hide ((HH3.out.more HO4.out).kept HOq.out (by have h1 := HOy2.out.size; have h2 := HSZ1.out; have h3 := HOy3.out.size; have h4 := HSZ2.out; omega) (fun h0 => by have h1 := HN3.out h0; have h2 := HSZ1.out; have h3 := HOy2.out.size; have h4 := HSZ2.out; omega))
      have HOE : Hid (Only (fun _ => False) w (w9.setCell ⟨y1.heap.size, 5, none⟩ (.slice a9 n9 c9))) := (o2 HOc.out HO4.out).trans HOq.out (fun i hi e => by have := HO0.out.size; omega)
      obtain ⟨W9, hW9⟩ : ∃ W9, w9.setCell ⟨y1.heap.size, 5, none⟩ (.slice a9 n9 c9) = W9 := ⟨_, rfl⟩
      rw [hW9] at HOq HH2q HH3q HOE ⊢
      clear hW9 p5 g5 p5' g5'
      refine (awake_any W9).mono ?_
      rintro e v1 ⟨rfl, hv1⟩
      have HV1 := hide hv1
      clear hv1
      obtain ⟨q0, q1, q2, q3, q4, q5, _⟩ := (HH2q.out.more HV1.out).pag
      obtain ⟨t0, t1, t2, t3, t4, t5, _⟩ := (HH3q.out.more HV1.out).pag
      go_wp2_with fail
      have hs := ysame_any v1 P.1.lsn P.1.kind P.1.level P.1.right P.1.lsn P.1.kind P.1.level P.1.right P.1.high P.1.high B2 B3 c2 c3 a2 a3 P.1.items P.1.items (HH2q.out.more HV1.out).strs (HH3q.out.more HV1.out).strs
      rw [show decide (P.1.lsn = P.1.lsn ∧ P.1.kind = P.1.kind ∧ P.1.level = P.1.level ∧ P.1.right = P.1.right ∧ P.1.high = P.1.high ∧ P.1.items = P.1.items) = true by simp] at hs
      refine Calls.mono hs ?_
      clear hs
      rintro e v2 ⟨rfl, hv2⟩
      have HV2 := hide (o2 HV1.out hv2)
      clear hv2 q0 q1 q2 q3 q4 q5 t0 t1 t2 t3 t4 t5
      go_wp2_with fail
      go_ret
      exact ⟨ret_bool (by simp), o2 HOE.out HV2.out⟩
end Go.Proofs.YtbhmhhnacpjgpaaDoor
