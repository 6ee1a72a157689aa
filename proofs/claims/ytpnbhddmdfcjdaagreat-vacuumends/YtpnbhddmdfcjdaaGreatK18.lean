/- Parts. -/
import Derived.Test.YtpnbhddmdfcjdaaGreatK14
import Derived.Laws.IdiomStrings
import Derived.Test.YtpnbhddmdfcjdaaGreatK16
set_option maxRecDepth 100000
namespace Go.Proofs.YtpnbhddmdfcjdaaGreat
open Go.RowKit
set_option maxRecDepth 100000 in
set_option maxHeartbeats 1600000 in
theorem with_some (w : World) (a k v r : Int) (h : ByteArray) (B cp : Nat) (ao : Option Addr) (l : List ByteArray) (i : Nat) (it : ByteArray) (hS : Strs w B ao l) (hh : h.size ≤ 140737488355328) (hit : it.size ≤ 140737488355328) (hi : i < l.length) :
    Calls Tryz.prog 47 #[.agg #[.int .i64 a, .int .i64 k, .int .i64 v, .int .i64 r, .string h, .slice ao l.length cp], .int .i64 (i : Int), .string it] w fun e w' =>
      Or3 w w' e (255 < (l.set i it).length ∨ 512 < 20 + h.size + isz (l.set i it)) ⟨a, k, v, r, h, l.set i it⟩ := by
  have hlen := hS.len
  have HS := hide hS
  clear hS
  have HB0 := hide (boxes_only w a k v r h (.slice ao l.length cp))
  have HB1 := hide (boxes_one w a k v r h (.slice ao l.length cp))
  have HB2 := hide (boxes_two w a k v r h (.slice ao l.length cp))
  have HBZ := hide (boxes_size w a k v r h (.slice ao l.length cp))
  have hi0 : (0 : Int) ≤ (i : Int) := by omega
  have hi1 : (i : Int) < (l.length : Int) := by omega
  obtain ⟨nl, hnl⟩ : ∃ nl, l.set i it = nl := ⟨_, rfl⟩
  rw [hnl]
  have HNL := hide hnl
  have HLL : Hid (nl.length = l.length) := by unfold Hid; rw [← hnl, List.length_set]
  clear hnl
  go_enter Tryz.func47, Tryz.ntmps47
  go_wp2_with fail
  refine (hasItem_any _ a k v r (i : Int) h cp l.length ao).mono ?_
  rintro e w1 ⟨rfl, ho1⟩
  have hd : decide (0 ≤ (i : Int) ∧ (i : Int) < (l.length : Int)) = true := decide_eq_true ⟨hi0, hi1⟩
  rw [hd]
  clear hd
  obtain ⟨p0, p1, p2, p3, p4, p5, g0, g1, g2, g3, g4, g5, gl⟩ := HB1.out.more ho1
  have HO1 := hide ho1
  clear ho1
  go_wp2_with fail
  refine (clone_any _ B cp ao l (HS.out.more (o2 HB0.out HO1.out))).mono ?_
  rintro e w2 ⟨v2, rfl, hl2, ho2⟩
  have HO2 := hide (o2 HO1.out ho2)
  clear p0 p1 p2 p3 p4 p5 g0 g1 g2 g3 g4 g5 gl
  obtain ⟨p0, p1, p2, p3, p4, p5, g0, g1, g2, g3, g4, g5, gl⟩ := HB1.out.more HO2.out
  obtain ⟨q0, q1, q2, q3, q4, q5, t0, t1, t2, t3, t4, t5, tl⟩ := HB2.out.more HO2.out
  rcases hl2.2 with ⟨_, hz⟩ | ⟨g, cap, cur, rfl, hgb, hgh, hnc, hcm, hcs, htk⟩
  · omega
  · have hbz := HBZ.out
    have hs1 : (boxes w a k v r h (.slice ao l.length cp)).heap.size ≤ w1.heap.size := HO1.out.size
    have hne : ¬ w.heap.size = g := by omega
    have hne2 : ¬ w.heap.size + 1 = g := by omega
    have hci := World.ownsRow.cellAt hl2 i (by omega)
    rw [show (scells l)[i]? = some (.string l[i]) by simp [scells, hi]] at hci
    have hfi := World.ownsRow.frozenAt hl2 i
    have HL2 := hide hl2
    have HA2 : Hid (Aft w w2 a k v r h (.slice ao l.length cp) g (some ⟨g, 0, none⟩) cap l) := by
      obtain ⟨B5, ao5, cp5, hv, hS5, hF5, hB5, hO5⟩ := hl2.strs hlen HS.out.size
      cases hv
      rcases hO5 with hO5 | hO5
      · cases hO5
      · cases hO5
        exact ⟨HB1.out.more HO2.out, HB2.out.more HO2.out, hS5, hF5, o2 HB0.out HO2.out, fun _ => by omega⟩
    have HGB := hide hgb
    clear hl2 hgb hgh hcs htk hbz hs1 ho2
    obtain ⟨s, hs⟩ : ∃ s, l[i] = s := ⟨_, rfl⟩
    rw [hs] at hci
    clear hs
    have HA : Hid (Aft w (w2.setCell ⟨w.heap.size, 5, none⟩ (.slice (some ⟨g, 0, none⟩) l.length cap)) a k v r h (.slice (some ⟨g, 0, none⟩) l.length cap) g (some ⟨g, 0, none⟩) cap l) := HA2.out.store _
    have HA4 := hide (HA.out.setItem (base := w1.heap.size) (HL2.out.kept (Only.setCell (S := fun k => k = w.heap.size) w2 ⟨w.heap.size, 5, none⟩ (.slice (some ⟨g, 0, none⟩) l.length cap) rfl) (fun k hk e => by simp [Value.ownBlock] at hk; omega)) i it hit (by omega))
    rw [HNL.out] at HA4
    go_wp2_with fail
    have hf := fitting_any _ a k v r h g cap (some ⟨g, 0, none⟩) nl HA4.out.strs hh
    rw [HLL.out] at hf
    refine Calls.mono hf ?_
    clear hf
    rintro e w6 ⟨rfl, ho6⟩
    have HA6 := hide (HA4.out.more ho6)
    clear p0 p1 p2 p3 p4 p5 g0 g1 g2 g3 g4 g5 gl q0 q1 q2 q3 q4 q5 t0 t1 t2 t3 t4 t5 tl ho6 hci hfi hne hne2
    obtain ⟨q0, q1, q2, q3, q4, q5, t0, t1, t2, t3, t4, t5, tl⟩ := HA6.out.two
    have hrs := fun (v0 v1 v2 v3 v4 v5 : Value) (c : Int) (w7 : World) => HA6.out.res v0 v1 v2 v3 v4 v5 c w7
    rw [HLL.out] at hrs
    have HRS := hide hrs
    clear hrs
    by_cases hc : 255 < l.length ∨ 512 < 20 + h.size + isz nl
    · rw [if_pos hc]
      have HC : Hid (255 < nl.length ∨ 512 < 20 + h.size + isz nl) := by unfold Hid; rw [HLL.out]; exact hc
      clear hc
      go_wp2_with fail
      refine bodyPost_ret (results_page rfl rfl (Pag.six HA6.out.two _ _ _ _ _ _)) rfl ?_
      exact Or3.yes HC.out (Res.none 3 (HRS.out _ _ _ _ _ _ 0 _ rfl).2)
    · rw [if_neg hc]
      have HC : Hid (¬ (255 < nl.length ∨ 512 < 20 + h.size + isz nl)) := by unfold Hid; rw [HLL.out]; exact hc
      clear hc
      go_wp2_with fail
      refine bodyPost_ret (results_page rfl rfl (Pag.six HA6.out.two _ _ _ _ _ _)) rfl ?_
      exact Or3.no HC.out (HRS.out _ _ _ _ _ _ 0 _ rfl).1
theorem and3 : ∀ n : Fin 256, bits BinOp.and IntKind.u8 (n.val : Int) 3 = ((n.val % 4 : Nat) : Int) := by
  decide +kernel
theorem st_and {n : Nat} (h : n < 256) (d k : Nat) (hd : d = 4 ^ k) : bits BinOp.and IntKind.u8 ((n : Int) / (d : Int)) 3 = (dig n k : Int) := by
  have hle : n / d ≤ n := Nat.div_le_self _ _
  have := and3 ⟨n / d, by omega⟩
  unfold dig
  rw [← hd, ← this]
  simp
theorem ret_st {a b : Int} (h : a = b) : Ending.returned (.tuple #[.int .u8 a, .int .i64 0]) = .returned (.tuple #[.int .u8 b, .int .i64 0]) := by rw [h]
/-- What Get answers. -/
noncomputable def gst (m : Int) (p : Pg) (x : Int) : Nat := if cid m p x = 0 then stAt (bl (it1 p)) (x - 1).toNat else 0
theorem cget_err (w : World) (m a k v r x : Int) (h : ByteArray) (cp B : Nat) (ao : Option Addr) (l : List ByteArray) (hm : I64 m) (hx : I64 x) (hS : Strs w B ao l) (hc : ¬ cid m ⟨a, k, v, r, h, l⟩ x = 0) :
    Calls Tryz.prog 147 #[.int .i64 m, .agg #[.int .i64 a, .int .i64 k, .int .i64 v, .int .i64 r, .string h, .slice ao l.length cp], .int .i64 x] w fun e w' => e = .returned (.tuple #[.int .u8 0, .int .i64 (cid m ⟨a, k, v, r, h, l⟩ x)]) ∧ Only (fun _ => False) w w' := by
  have HC := hide (fun W (ho : Only (fun _ => False) w W) => checkWithID_any W m a k v r x h cp B ao l hm hx (hS.more ho))
  have HO := hide (onlyA w (.cells #[.int .i64 a, .int .i64 k, .int .i64 v, .int .i64 r, .string h, .slice ao l.length cp] 30))
  have hcb := cid_bd m ⟨a, k, v, r, h, l⟩ x
  obtain ⟨C, hC⟩ : ∃ C, cid m ⟨a, k, v, r, h, l⟩ x = C := ⟨_, rfl⟩
  rw [hC] at hc hcb
  simp only [hC] at HC
  rw [hC]
  have hne : (C != 0) = true := by simp [hc]
  have hx1 := hx.1
  have hx2 := hx.2
  clear hC hc hm hx hS
  go_enter Tryz.func147, Tryz.ntmps147
  go_wp2_with fail
  refine (HC.out _ HO.out).mono ?_
  rintro e w1 ⟨rfl, ho⟩
  have HO1 := hide (o2 HO.out ho)
  clear ho
  go_wp2_with fail
  go_ret2
  exact ⟨rfl, HO1.out⟩
theorem byt_is {s : ByteArray} {q : Nat} (hq : q < s.size) : byt (bl s) q = (s[q]'hq).toNat := by
  unfold byt
  rw [List.getD_eq_getElem?_getD, List.getElem?_eq_getElem (by rw [bl_len]; exact hq)]
  rfl
theorem cget_ok (w : World) (m a x : Int) (cp B : Nat) (ao : Option Addr) (s0 s1 : ByteArray) (hS : Strs w B ao [s0, s1]) (hO : OkP m ⟨a, 1, 0, 0, ⟨#[]⟩, [s0, s1]⟩) (hI : Idd m x) :
    Calls Tryz.prog 147 #[.int .i64 m, .agg #[.int .i64 a, .int .i64 1, .int .i64 0, .int .i64 0, .string ⟨#[]⟩, .slice ao 2 cp], .int .i64 x] w fun e w' => e = .returned (.tuple #[.int .u8 (stAt (bl s1) (x - 1).toNat : Int), .int .i64 0]) ∧ Only (fun _ => False) w w' := by
  have hm : I64 m := ⟨by have := hI.1.1; omega, by have := hI.1.2.1; omega⟩
  have hx : I64 x := ⟨by have := hI.2; omega, by have := hI.2; have := hI.1.2.1; omega⟩
  have HC := hide (fun W (ho : Only (fun _ => False) w W) => checkWithID_any W m a 1 0 0 x ⟨#[]⟩ cp B ao [s0, s1] hm hx (hS.more ho))
  simp only [cid_ok hI hO] at HC
  have HO := hide (onlyA w (.cells #[.int .i64 a, .int .i64 1, .int .i64 0, .int .i64 0, .string ⟨#[]⟩, .slice ao 2 cp] 30))
  have HPL := hide (fun W => cplace_any x W hI.2.1 (by have := hI.2; have := hI.1.2.1; omega))
  have HP := hide (Pag.new w (.int .i64 a) (.int .i64 1) (.int .i64 0) (.int .i64 0) (.string ⟨#[]⟩) (.slice ao 2 cp))
  have hq : (x - 1).toNat / 4 < s1.size := by have := at_lt hI hO.size; rw [bl_len] at this; exact this
  obtain ⟨R, hR⟩ : ∃ R, stAt (bl s1) (x - 1).toNat = R := ⟨_, rfl⟩
  have HV : Hid (R = dig (byt (bl s1) ((x - 1).toNat / 4)) ((x - 1).toNat % 4)) := hR.symm
  rw [hR]
  clear hR
  obtain ⟨o, rfl, hc⟩ := hS.at_ (by simp)
  have hB := hS.lt (by simp)
  have hc1 := hc 1 (by simp)
  simp only [List.getElem_cons_zero, List.getElem_cons_succ] at hc1
  have HC1 := hide hc1
  have hk4 : (x - 1).toNat % 4 < 4 := by omega
  obtain ⟨q, hqq⟩ : ∃ q, (x - 1).toNat / 4 = q := ⟨_, rfl⟩
  obtain ⟨k, hkk⟩ : ∃ k, (x - 1).toNat % 4 = k := ⟨_, rfl⟩
  simp only [hqq, hkk] at HPL hk4 HV
  rw [hqq] at hq
  have hqs : (q : Int) < (s1.size : Int) := by omega
  rw [byt_is hq] at HV
  have hx1 := hx.1
  have hx2 := hx.2
  have hb := UInt8.toNat_lt (s1[q]'hq)
  clear hkk hqq hc hc1 hS hO hI hm hx
  simp only [List.length_cons, List.length_nil, Nat.zero_add, Nat.reduceAdd] at HC
  rcases k4 hk4 with rfl | rfl | rfl | rfl
  · go_enter Tryz.func147, Tryz.ntmps147
    go_wp2_with fail
    refine (HC.out _ HO.out).mono ?_
    rintro e w1 ⟨rfl, ho⟩
    have HO1 := hide (o2 HO.out ho)
    have c5 := (HP.out.more ho).c5
    have d1 := (HO1.out.cell (p := ⟨B, o + 1, none⟩) hB (fun h => h)).trans HC1.out
    clear ho
    go_wp2_with fail
    refine (HPL.out _).mono ?_
    rintro e w2 ⟨rfl, hw⟩
    obtain rfl := hw.symm
    clear hw
    go_wp2_with fail
    go_ret2
    refine ⟨ret_st ?_, HO1.out⟩
    have hv := st_and hb 1 0 rfl
    rw [HV.out]
    simpa using hv
  · go_enter Tryz.func147, Tryz.ntmps147
    go_wp2_with fail
    refine (HC.out _ HO.out).mono ?_
    rintro e w1 ⟨rfl, ho⟩
    have HO1 := hide (o2 HO.out ho)
    have c5 := (HP.out.more ho).c5
    have d1 := (HO1.out.cell (p := ⟨B, o + 1, none⟩) hB (fun h => h)).trans HC1.out
    clear ho
    go_wp2_with fail
    refine (HPL.out _).mono ?_
    rintro e w2 ⟨rfl, hw⟩
    obtain rfl := hw.symm
    clear hw
    go_wp2_with fail
    go_ret2
    refine ⟨ret_st ?_, HO1.out⟩
    have hv := st_and hb 4 1 rfl
    rw [HV.out]
    simpa using hv
  · go_enter Tryz.func147, Tryz.ntmps147
    go_wp2_with fail
    refine (HC.out _ HO.out).mono ?_
    rintro e w1 ⟨rfl, ho⟩
    have HO1 := hide (o2 HO.out ho)
    have c5 := (HP.out.more ho).c5
    have d1 := (HO1.out.cell (p := ⟨B, o + 1, none⟩) hB (fun h => h)).trans HC1.out
    clear ho
    go_wp2_with fail
    refine (HPL.out _).mono ?_
    rintro e w2 ⟨rfl, hw⟩
    obtain rfl := hw.symm
    clear hw
    go_wp2_with fail
    go_ret2
    refine ⟨ret_st ?_, HO1.out⟩
    have hv := st_and hb 16 2 rfl
    rw [HV.out]
    simpa using hv
  · go_enter Tryz.func147, Tryz.ntmps147
    go_wp2_with fail
    refine (HC.out _ HO.out).mono ?_
    rintro e w1 ⟨rfl, ho⟩
    have HO1 := hide (o2 HO.out ho)
    have c5 := (HP.out.more ho).c5
    have d1 := (HO1.out.cell (p := ⟨B, o + 1, none⟩) hB (fun h => h)).trans HC1.out
    clear ho
    go_wp2_with fail
    refine (HPL.out _).mono ?_
    rintro e w2 ⟨rfl, hw⟩
    obtain rfl := hw.symm
    clear hw
    go_wp2_with fail
    go_ret2
    refine ⟨ret_st ?_, HO1.out⟩
    have hv := st_and hb 64 3 rfl
    rw [HV.out]
    simpa using hv
theorem cget_any (w : World) (m a k v r x : Int) (h : ByteArray) (cp B : Nat) (ao : Option Addr) (l : List ByteArray) (hm : I64 m) (hx : I64 x) (hS : Strs w B ao l) :
    Calls Tryz.prog 147 #[.int .i64 m, .agg #[.int .i64 a, .int .i64 k, .int .i64 v, .int .i64 r, .string h, .slice ao l.length cp], .int .i64 x] w fun e w' => e = .returned (.tuple #[.int .u8 (gst m ⟨a, k, v, r, h, l⟩ x : Int), .int .i64 (cid m ⟨a, k, v, r, h, l⟩ x)]) ∧ Only (fun _ => False) w w' := by
  by_cases hc : cid m ⟨a, k, v, r, h, l⟩ x = 0
  · obtain ⟨hI, hO⟩ := cid_zero hc
    unfold gst
    rw [if_pos hc, hc]
    clear hc
    have h1 := hO.kind
    have h2 := hO.level
    have h3 := hO.right
    have h4 := hO.high
    simp only at h1 h2 h3 h4
    subst h1 h2 h3 h4
    obtain ⟨s0, s1, rfl⟩ := two_of hO.two
    exact cget_ok w m a x cp B ao s0 s1 hS hO hI
  · unfold gst
    rw [if_neg hc]
    exact cget_err w m a k v r x h cp B ao l hm hx hS hc
theorem bytes_made (w : World) (s : ByteArray) : ∃ (W1 : World) (cap : Nat), (convert 9 100 (.string s)).run Tryz.prog w = .ok (.slice (some ⟨w.heap.size, 0, none⟩) s.size cap) W1 ∧ Byt W1 w.heap.size (bl s) ∧ Only (fun _ => False) w W1 := by
  refine ⟨_, _, run_bytes_of_string (P := Tryz.prog) w 9 100 5 s Tryz.underlying9 Tryz.underlying100 Tryz.underlying5, ⟨?_, ?_, ?_⟩, ?_⟩
  · intro j hj
    rw [bl_len] at hj
    generalize grownCap w s.size 0 5 = cap
    have hb : (w.drew.alloc (.cells (bytesRow s cap) 5 ((bytesRow s cap).size, (bytesRow s cap).size + 1))).heap[w.heap.size]? = some (.cells (bytesRow s cap) 5 ((bytesRow s cap).size, (bytesRow s cap).size + 1)) := heap_alloc_new w.drew _
    rw [cell_of_row _ w.heap.size j (bytesRow s cap) 5 _ hb]
    unfold bytesRow
    rw [Array.getElem?_append_left (by simpa using hj)]
    have hj' : j < s.data.size := hj
    simp [Array.getElem?_map, Array.getElem?_eq_getElem hj']
  · intro j hj
    rw [bl_len] at hj
    generalize hcap : grownCap w s.size 0 5 = cap
    have hb : (w.drew.alloc (.cells (bytesRow s cap) 5 ((bytesRow s cap).size, (bytesRow s cap).size + 1))).heap[w.heap.size]? = some (.cells (bytesRow s cap) 5 ((bytesRow s cap).size, (bytesRow s cap).size + 1)) := heap_alloc_new w.drew _
    have hl : s.size ≤ (bytesRow s cap).size := by unfold bytesRow; rw [Array.size_append, Array.size_map]; exact Nat.le_add_right _ _
    unfold World.frozen?
    rw [hb]
    simp
    omega
  · simp
  · exact (Only.drew _ w).trans (Only.alloc _ _ _) (fun _ _ h => h) (T := fun _ => False)
theorem Byt.back {w : World} {g cp : Nat} {l : List UInt8} (h : Byt w g l) : (convert 100 9 (.slice (some ⟨g, 0, none⟩) l.length cp)).run Tryz.prog w = .ok (.string (str l)) w := by
  refine run_convert_bytes_back w 100 9 5 ⟨g, 0, none⟩ cp l Tryz.underlying100 Tryz.underlying5 Tryz.underlying9 (fun j hj => ?_)
  rw [add_at, Nat.zero_add]
  exact h.c j hj
/-- An answer stored into its cell. -/
theorem res_end {w w6 : World} {b B cp : Nat} {ao : Option Addr} (hb : w.heap.size ≤ b) (p : Pg) (hS : Strs w6 B ao p.items) (hF : Fit ao p.items.length cp) (ho : Only (fun _ => False) w w6) (hB : 0 < p.items.length → b < B) (c : Int) (v0 v1 v2 v3 v4 v5 : Value) :
    Res w ((((((w6.setCell ⟨b, 0, none⟩ v0).setCell ⟨b, 1, none⟩ v1).setCell ⟨b, 2, none⟩ v2).setCell ⟨b, 3, none⟩ v3).setCell ⟨b, 4, none⟩ v4).setCell ⟨b, 5, none⟩ v5)
      (.returned (.tuple #[.agg #[.int .i64 p.lsn, .int .i64 p.kind, .int .i64 p.level, .int .i64 p.right, .string p.high, .slice ao p.items.length cp], .int .i64 c])) p c := by
  have h6 := Only.six w6 b v0 v1 v2 v3 v4 v5
  exact ⟨B, ao, cp, rfl, hS.kept h6 (fun h e => by have := hB h; omega), hF, ho.trans h6 (fun i hi e => by omega), fun h => by have := hB h; omega⟩
theorem res_none {w w6 : World} {b : Nat} (hb : w.heap.size ≤ b) (ho : Only (fun _ => False) w w6) (c : Int) (v0 v1 v2 v3 v4 v5 : Value) :
    Res w ((((((w6.setCell ⟨b, 0, none⟩ v0).setCell ⟨b, 1, none⟩ v1).setCell ⟨b, 2, none⟩ v2).setCell ⟨b, 3, none⟩ v3).setCell ⟨b, 4, none⟩ v4).setCell ⟨b, 5, none⟩ v5)
      (.returned (.tuple #[.agg #[.int .i64 0, .int .i64 0, .int .i64 0, .int .i64 0, .string ⟨#[]⟩, .slice none 0 0], .int .i64 c])) .none c :=
  Res.none c (ho.trans (Only.six w6 b v0 v1 v2 v3 v4 v5) (fun i hi e => by omega))
/-- What Set answers. -/
noncomputable def setC (m : Int) (p : Pg) (x : Int) (v : Nat) : Int := if cid m p x = 0 then (if v ≤ 3 then 0 else 1) else cid m p x
noncomputable def setR (m : Int) (p : Pg) (x : Int) (v : Nat) : Pg := if setC m p x v = 0 then setP p x v else .none
set_option maxRecDepth 100000 in
set_option maxHeartbeats 800000 in
theorem cset_err (w : World) (m a k v r x : Int) (h : ByteArray) (cp B : Nat) (ao : Option Addr) (l : List ByteArray) (s : Nat) (hm : I64 m) (hx : I64 x) (hS : Strs w B ao l) (hs : s < 256) (hc : ¬ setC m ⟨a, k, v, r, h, l⟩ x s = 0) :
    Calls Tryz.prog 18 #[.int .i64 m, .agg #[.int .i64 a, .int .i64 k, .int .i64 v, .int .i64 r, .string h, .slice ao l.length cp], .int .i64 x, .int .u8 (s : Int)] w fun e w' => Res w w' e .none (setC m ⟨a, k, v, r, h, l⟩ x s) := by
  have HC := hide (fun W (ho : Only (fun _ => False) w W) => checkWithID_any W m a k v r x h cp B ao l hm hx (hS.more ho))
  have HO := hide (boxes_only w a k v r h (.slice ao l.length cp))
  have HP := hide (boxes_two w a k v r h (.slice ao l.length cp))
  unfold boxes at HO HP
  have hcb := cid_bd m ⟨a, k, v, r, h, l⟩ x
  obtain ⟨C, hC⟩ : ∃ C, cid m ⟨a, k, v, r, h, l⟩ x = C := ⟨_, rfl⟩
  have HR : Hid (setC m ⟨a, k, v, r, h, l⟩ x s = if C = 0 then (if s ≤ 3 then 0 else 1) else C) := by unfold Hid setC; rw [hC]
  rw [HR.out] at hc
  rw [HR.out]
  rw [hC] at hcb
  simp only [hC] at HC
  have hx1 := hx.1
  have hx2 := hx.2
  clear hC HR hm hx hS
  by_cases h0 : C = 0
  · rw [if_pos h0] at hc
    rw [if_pos h0]
    have h3 : ¬ s ≤ 3 := by intro h; rw [if_pos h] at hc; exact hc rfl
    rw [if_neg h3]
    have hs3 : (3 : Int) < (s : Int) := by omega
    subst h0
    clear hcb hc h3
    go_enter Tryz.func18, Tryz.ntmps18
    go_wp2_with fail
    refine (HC.out _ HO.out).mono ?_
    rintro e w1 ⟨rfl, ho⟩
    have HO1 := hide (o2 HO.out ho)
    have HP1 := hide (HP.out.more ho)
    obtain ⟨q0, q1, q2, q3, q4, q5, t0, t1, t2, t3, t4, t5, tl⟩ := HP.out.more ho
    clear ho
    go_wp2_with fail
    refine bodyPost_ret (results_page rfl rfl (Pag.six HP1.out _ _ _ _ _ _)) rfl ?_
    exact res_none (by omega) HO1.out 1 _ _ _ _ _ _
  · rw [if_neg h0]
    have hne : (C != 0) = true := by simp [h0]
    clear h0 hc
    go_enter Tryz.func18, Tryz.ntmps18
    go_wp2_with fail
    refine (HC.out _ HO.out).mono ?_
    rintro e w1 ⟨rfl, ho⟩
    have HO1 := hide (o2 HO.out ho)
    have HP1 := hide (HP.out.more ho)
    obtain ⟨q0, q1, q2, q3, q4, q5, t0, t1, t2, t3, t4, t5, tl⟩ := HP.out.more ho
    clear ho
    go_wp2_with fail
    refine bodyPost_ret (results_page rfl rfl (Pag.six HP1.out _ _ _ _ _ _)) rfl ?_
    exact res_none (by omega) HO1.out C _ _ _ _ _ _
set_option maxRecDepth 100000 in
set_option maxHeartbeats 800000 in
theorem cset_ok (w : World) (m a x : Int) (cp B : Nat) (ao : Option Addr) (s0 s1 : ByteArray) (s : Nat) (hS : Strs w B ao [s0, s1]) (hO : OkP m ⟨a, 1, 0, 0, ⟨#[]⟩, [s0, s1]⟩) (hI : Idd m x) (hs : s < 4) :
    Calls Tryz.prog 18 #[.int .i64 m, .agg #[.int .i64 a, .int .i64 1, .int .i64 0, .int .i64 0, .string ⟨#[]⟩, .slice ao 2 cp], .int .i64 x, .int .u8 (s : Int)] w fun e w' => Res w w' e ⟨a, 1, 0, 0, ⟨#[]⟩, [s0, str (stSet (bl s1) (x - 1).toNat s)]⟩ 0 := by
  have hm : I64 m := ⟨by have := hI.1.1; omega, by have := hI.1.2.1; omega⟩
  have hx : I64 x := ⟨by have := hI.2; omega, by have := hI.2; have := hI.1.2.1; omega⟩
  have HC := hide (fun W (ho : Only (fun _ => False) w W) => checkWithID_any W m a 1 0 0 x ⟨#[]⟩ cp B ao [s0, s1] hm hx (hS.more ho))
  simp only [cid_ok hI hO] at HC
  have HO := hide (boxes_only w a 1 0 0 ⟨#[]⟩ (.slice ao 2 cp))
  have HP := hide (boxes_two w a 1 0 0 ⟨#[]⟩ (.slice ao 2 cp))
  have HQ := hide (boxes_one w a 1 0 0 ⟨#[]⟩ (.slice ao 2 cp))
  unfold boxes at HO HP HQ
  have hq := at_lt hI hO.size
  have hsz : s1.size = nb m := hO.size
  have hnb := nb_bd hI.1
  have HLY := hide (fun (W : World) (g cap : Nat) (hB : Byt W g (bl s1)) => clay_any W g cap (bl s1) x s hB hI.2.1 (by have := hI.2; have := hI.1.2.1; omega) hq hs)
  obtain ⟨T, hT⟩ : ∃ T, stSet (bl s1) (x - 1).toNat s = T := ⟨_, rfl⟩
  have hTl : T.length = s1.size := by rw [← hT, stSet_len, bl_len]
  rw [hT]
  simp only [hT] at HLY
  have HTL := hide hTl
  have hs0 : s0.size ≤ 10 := by
    have hc := lim_canon hO.lm
    have : s0 = str (sev (lim m s0).toNat) := hc
    rw [this, str_size]
    exact sevF_len 9 _
  have HFIT : Hid (¬ (255 < ([s0, s1].set 1 (str T)).length ∨ 512 < 20 + (⟨#[]⟩ : ByteArray).size + isz ([s0, s1].set 1 (str T)))) := by
    unfold Hid
    have e : [s0, s1].set 1 (str T) = [s0, str T] := rfl
    have e0 : (⟨#[]⟩ : ByteArray).size = 0 := rfl
    rw [e, isz_cons, isz_cons, isz_nil, str_size, e0]
    simp only [List.length_cons, List.length_nil]
    omega
  have HW := hide (fun (W : World) (ho : Only (fun _ => False) w W) => with_some W a 1 0 0 ⟨#[]⟩ B cp ao [s0, s1] 1 (str T) (hS.more ho) (Nat.zero_le _) (by rw [str_size]; omega) (by simp))
  obtain ⟨o, rfl, hc⟩ := hS.at_ (by simp)
  have hB := hS.lt (by simp)
  have hc1 := hc 1 (by simp)
  simp only [List.getElem_cons_zero, List.getElem_cons_succ] at hc1
  have HC1 := hide hc1
  have hx1 := hx.1
  have hx2 := hx.2
  clear hc hc1 hS hO hI hm hx hT hTl hnb hsz hq hs0
  simp only [List.length_cons, List.length_nil, Nat.zero_add, Nat.reduceAdd] at HC HW
  go_enter Tryz.func18, Tryz.ntmps18
  go_wp2_with fail
  refine (HC.out _ HO.out).mono ?_
  rintro e w1 ⟨rfl, ho⟩
  have HO1 := hide (o2 HO.out ho)
  have HP1 := hide (HP.out.more ho)
  have HQ1 := hide (HQ.out.more ho)
  have c5 := HQ1.out.c5
  have d1 := (HO1.out.cell (p := ⟨B, o + 1, none⟩) hB (fun h => h)).trans HC1.out
  clear ho
  obtain ⟨w2, cap, hcv, hby, ho2⟩ := bytes_made w1 s1
  obtain ⟨g, hg⟩ : ∃ g, w1.heap.size = g := ⟨_, rfl⟩
  rw [hg] at hcv hby
  have HBY := hide hby
  have HG := hide hg
  have HO2 := hide (o2 HO1.out ho2)
  have HP2 := hide (HP1.out.more ho2)
  have HQ2 := hide (HQ1.out.more ho2)
  have HW1 := hide HP1.out.lt
  clear hby hg ho2
  go_wp2_with fail
  have q := HLY.out w2 g cap HBY.out
  rw [bl_len] at q
  refine q.mono ?_
  clear q
  rintro e w3 ⟨rfl, hby3, ho3⟩
  have HBY3 := hide hby3
  have HO3 : Hid (Only (fun _ => False) w w3) := HO2.out.trans ho3 (fun i hi e => by have := HG.out; have := HO1.out.size; omega)
  have HP3 : Hid (Pag w3 (w.heap.size + 1) (.int .i64 0) (.int .i64 0) (.int .i64 0) (.int .i64 0) (.string ⟨#[]⟩) (.slice none 0 0)) := HP2.out.kept ho3 (by have := HG.out; have := HW1.out; omega)
  have HQ3 : Hid (Pag w3 w.heap.size (.int .i64 a) (.int .i64 1) (.int .i64 0) (.int .i64 0) (.string ⟨#[]⟩) (.slice (some ⟨B, o, none⟩) 2 cp)) := HQ2.out.kept ho3 (by have := HG.out; have := HW1.out; omega)
  clear hby3 ho3 c5 d1 hcv
  have hcb := HBY3.out.back (cp := cap)
  rw [HTL.out] at hcb
  obtain ⟨r0, r1, r2, r3, r4, r5, _, _, _, _, _, _, _⟩ := HQ3.out
  go_wp2_with fail
  refine (HW.out w3 HO3.out).mono ?_
  rintro e w4 H4
  obtain ⟨B4, ao4, cp4, rfl, hS4, hF4, ho4, hB4⟩ := H4.2 HFIT.out
  have HS4 := hide hS4
  have HF4 := hide hF4
  have HB4 : Hid (w.heap.size + 1 < B4) := by
    have := hB4 (by simp)
    have := HP3.out.lt
    unfold Hid
    omega
  have HO4 := hide (o2 HO3.out ho4)
  have HP4 := hide (HP3.out.more ho4)
  clear hS4 hF4 hB4 ho4 H4 hcb r0 r1 r2 r3 r4 r5
  obtain ⟨q0, q1, q2, q3, q4, q5, t0, t1, t2, t3, t4, t5, tl⟩ := HP4.out
  simp only [List.set_cons_succ, List.set_cons_zero, List.length_cons, List.length_nil, Nat.zero_add, Nat.reduceAdd] at HS4 HF4 ⊢
  go_wp2_with fail
  refine bodyPost_ret (results_page rfl rfl (Pag.six HP4.out _ _ _ _ _ _)) rfl ?_
  exact res_end (by omega) ⟨a, 1, 0, 0, ⟨#[]⟩, [s0, str T]⟩ HS4.out HF4.out HO4.out (fun _ => HB4.out) 0 _ _ _ _ _ _
theorem cset_any (w : World) (m a k v r x : Int) (h : ByteArray) (cp B : Nat) (ao : Option Addr) (l : List ByteArray) (s : Nat) (hm : I64 m) (hx : I64 x) (hS : Strs w B ao l) (hs : s < 256) :
    Calls Tryz.prog 18 #[.int .i64 m, .agg #[.int .i64 a, .int .i64 k, .int .i64 v, .int .i64 r, .string h, .slice ao l.length cp], .int .i64 x, .int .u8 (s : Int)] w fun e w' => Res w w' e (setR m ⟨a, k, v, r, h, l⟩ x s) (setC m ⟨a, k, v, r, h, l⟩ x s) := by
  by_cases hc : setC m ⟨a, k, v, r, h, l⟩ x s = 0
  · have h4 : s < 4 ∧ cid m ⟨a, k, v, r, h, l⟩ x = 0 := by
      unfold setC at hc
      split at hc
      · rename_i h1
        split at hc
        · exact ⟨by omega, h1⟩
        · omega
      · rename_i h1
        exact absurd hc h1
    obtain ⟨hI, hO⟩ := cid_zero h4.2
    unfold setR
    rw [if_pos hc, hc]
    clear hc
    have h1 := hO.kind
    have h2 := hO.level
    have h3 := hO.right
    have h4' := hO.high
    simp only at h1 h2 h3 h4'
    subst h1 h2 h3 h4'
    obtain ⟨s0, s1, rfl⟩ := two_of hO.two
    exact cset_ok w m a x cp B ao s0 s1 s hS hO hI h4.1
  · unfold setR
    rw [if_neg hc]
    exact cset_err w m a k v r x h cp B ao l s hm hx hS hs hc
/-- Two texts in a new block. -/
theorem Strs.two (w : World) (s t : ByteArray) (hs : s.size ≤ 140737488355328) (ht : t.size ≤ 140737488355328) : Strs (w.alloc (.cells #[.string s, .string t] 9)) w.heap.size (some ⟨w.heap.size, 0, none⟩) [s, t] :=
  ⟨fun _ => ⟨0, rfl, fun j hj => by
    have hj2 : j = 0 ∨ j = 1 := by simp at hj; omega
    rcases hj2 with rfl | rfl <;> simp⟩, fun _ => by simp, by simp, fun u hu => by
    simp at hu
    rcases hu with rfl | rfl
    · exact hs
    · exact ht⟩
theorem repeat_any (c : Nat) (hc : c ≤ 512) (W : World) :
    Calls Tryz.prog 43 #[.string ⟨#[0]⟩, .int .i64 (c : Int)] W fun e w' => e = .returned (.string (str (List.replicate c 0))) ∧ Only (fun _ => False) W w' := by
  have e1 : (⟨#[0]⟩ : ByteArray).size = 1 := rfl
  have h1 := Tryz.strings_Repeat ⟨#[0]⟩ c W (by omega) (by rw [e1]; omega)
  refine Calls.mono h1 ?_
  rintro e w' ⟨rfl, hb⟩
  refine ⟨?_, only_below hb⟩
  rw [rep_zero]
  rfl
theorem Pag.zero (w : World) : Pag (w.alloc (.cells #[.int .i64 0, .int .i64 0, .int .i64 0, .int .i64 0, .string ⟨#[]⟩, .slice none 0 0] 30)) w.heap.size (.int .i64 0) (.int .i64 0) (.int .i64 0) (.int .i64 0) (.string ⟨#[]⟩) (.slice none 0 0) := Pag.new w _ _ _ _ _ _
set_option maxRecDepth 100000 in
set_option maxHeartbeats 800000 in
theorem cblank_err (w : World) (m f : Int) (hm : I64 m) (hf : I64 f) (hI : ¬ Idd m f) :
    Calls Tryz.prog 17 #[.int .i64 m, .int .i64 f] w fun e w' => Res w w' e .none 1 := by
  have HI := hide (fun W => cisID_any m f W hm hf)
  simp only [decide_eq_false hI] at HI
  have HP := hide (Pag.zero w)
  have HO := hide (onlyA w (.cells #[.int .i64 0, .int .i64 0, .int .i64 0, .int .i64 0, .string ⟨#[]⟩, .slice none 0 0] 30))
  have hm1 := hm.1
  have hm2 := hm.2
  have hf1 := hf.1
  have hf2 := hf.2
  clear hI hm hf
  go_enter Tryz.func17, Tryz.ntmps17
  go_wp2_with fail
  refine (HI.out _).mono ?_
  rintro e w1 ⟨rfl, hw⟩
  rw [← hw] at HP HO
  clear hw
  obtain ⟨q0, q1, q2, q3, q4, q5, t0, t1, t2, t3, t4, t5, tl⟩ := HP.out
  go_wp2_with fail
  refine bodyPost_ret (results_page rfl rfl (Pag.six HP.out _ _ _ _ _ _)) rfl ?_
  exact res_none (Nat.le_refl _) HO.out 1 _ _ _ _ _ _
set_option maxRecDepth 100000 in
set_option maxHeartbeats 800000 in
theorem cblank_ok (w : World) (m f : Int) (hI : Idd m f) :
    Calls Tryz.prog 17 #[.int .i64 m, .int .i64 f] w fun e w' => Res w w' e (blankP m f) 0 := by
  have hm : I64 m := ⟨by have := hI.1.1; omega, by have := hI.1.2.1; omega⟩
  have hx : I64 f := ⟨by have := hI.2; omega, by have := hI.2; have := hI.1.2.1; omega⟩
  have HI := hide (fun W => cisID_any m f W hm hx)
  simp only [decide_eq_true hI] at HI
  have HL := hide (fun W => laidLimit_any f W (by have := hI.2; omega) (by have := hI.2; have := hI.1.2.1; omega))
  have HB := hide (fun W => statusBytes_any m W hI.1)
  have hn := (nb_bd hI.1).2.1
  have HR := hide (fun W => repeat_any (nb m) (by omega) W)
  have HP := hide (Pag.zero w)
  have HO := hide (onlyA w (.cells #[.int .i64 0, .int .i64 0, .int .i64 0, .int .i64 0, .string ⟨#[]⟩, .slice none 0 0] 30))
  have hm1 := hm.1
  have hm2 := hm.2
  have hf1 := hx.1
  have hf2 := hx.2
  have hse : (sev f.toNat).length ≤ 10 := sevF_len 9 _
  unfold blankP
  obtain ⟨n, hnn⟩ : ∃ n, nb m = n := ⟨_, rfl⟩
  simp only [hnn] at HB HR hn
  rw [hnn]
  obtain ⟨S, hS⟩ : ∃ S, str (sev f.toNat) = S := ⟨_, rfl⟩
  obtain ⟨Z, hZ⟩ : ∃ Z, str (List.replicate n 0) = Z := ⟨_, rfl⟩
  have HS : Hid (S.size ≤ 140737488355328) := by unfold Hid; rw [← hS, str_size]; omega
  have HZ : Hid (Z.size ≤ 140737488355328) := by unfold Hid; rw [← hZ, str_size, List.length_replicate]; omega
  simp only [hS] at HL
  simp only [hZ] at HR
  rw [hS, hZ]
  clear hI hm hx hnn hS hZ hse
  go_enter Tryz.func17, Tryz.ntmps17
  go_wp2_with fail
  refine (HI.out _).mono ?_
  rintro e w1 ⟨rfl, hw⟩
  obtain rfl := hw.symm
  clear hw
  go_wp2_with fail
  refine (HL.out _).mono ?_
  rintro e w2 ⟨rfl, ho2⟩
  have HO2 := hide (o2 HO.out ho2)
  have HP2 := hide (HP.out.more ho2)
  clear ho2
  go_wp2_with fail
  refine (HB.out _).mono ?_
  rintro e w1 ⟨rfl, hw⟩
  obtain rfl := hw.symm
  clear hw
  go_wp2_with fail
  refine (HR.out _).mono ?_
  rintro e w3 ⟨rfl, ho3⟩
  have HO3 := hide (o2 HO2.out ho3)
  have HP3 := hide (HP2.out.more ho3)
  clear ho3
  have HP4 := hide (HP3.out.more (onlyA w3 (.cells #[.string S, .string Z] 9)))
  have HO4 := hide (o2 HO3.out (onlyA w3 (.cells #[.string S, .string Z] 9)))
  have HS4 := hide (Strs.two w3 S Z HS.out HZ.out)
  have hlt := HP3.out.lt
  go_upto_region 4 with fail
  obtain ⟨g, hg⟩ : ∃ g, w3.heap.size = g := ⟨_, rfl⟩
  obtain ⟨w4, hw4⟩ : ∃ w4, w3.alloc (.cells #[.string S, .string Z] 9) = w4 := ⟨_, rfl⟩
  rw [hw4] at HP4 HO4 HS4 ⊢
  rw [hg] at HS4 hlt ⊢
  clear hw4 hg HP3 HO3
  obtain ⟨q0, q1, q2, q3, q4, q5, t0, t1, t2, t3, t4, t5, tl⟩ := HP4.out
  go_wp2_with fail
  refine bodyPost_ret (results_page rfl rfl (Pag.six HP4.out _ _ _ _ _ _)) rfl ?_
  exact res_end (cp := 2) (Nat.le_refl _) ⟨0, 1, 0, 0, ⟨#[]⟩, [S, Z]⟩ HS4.out ⟨(fun h => by cases h), Nat.le_refl _, (by unfold maxLen; omega)⟩ HO4.out (fun _ => hlt) 0 _ _ _ _ _ _
theorem follows_nil (w : World) (a1 a2 : Option Addr) (c1 n2 c2 : Nat) (h e : En) :
    Calls Tryz.prog 197 #[cvv (.slice a1 0 c1) (.slice a2 n2 c2) h, e.agg] w fun x w' => x = .returned (.bool (decide (e = noE))) ∧ Only (fun _ => False) w w' := by
  have HL : Hid (∀ W, Calls Tryz.prog 195 #[.agg #[.string e.key, .int .i64 e.page, .int .i64 e.slot]] W fun x w' => x = .returned (.bool (decide (e = noE))) ∧ Only (fun _ => False) W w') := fun W => isLeast_any e W
  have HX := hide (ce_new w (.slice a1 0 c1) (.slice a2 n2 c2) h e)
  obtain ⟨bb, hbb⟩ : ∃ b, decide (e = noE) = b := ⟨_, rfl⟩
  rw [hbb] at HL ⊢
  clear hbb
  unfold cvv En.agg
  go_enter Tryz.func197, Tryz.ntmps197
  go_upto_region 1 with fail
  obtain ⟨W0, hW0⟩ : ∃ x, (w.alloc (.cells #[.slice a1 0 c1, .slice a2 n2 c2, .string h.key, .int .i64 h.page, .int .i64 h.slot] 200)).alloc (.cells #[.string e.key, .int .i64 e.page, .int .i64 e.slot] 74) = x := ⟨_, rfl⟩
  rw [hW0] at HX ⊢
  clear hW0
  have q0 := HX.out.1.c0
  obtain ⟨d0, d1, d2, _⟩ := HX.out.2.1
  go_wp2_with fail
  refine (HL.out _).mono ?_
  rintro x w1 ⟨rfl, ho⟩
  have HO1 := hide (o2 HX.out.2.2 ho)
  clear ho
  go_wp2_with fail
  go_ret
  exact ⟨rfl, HO1.out⟩
set_option maxRecDepth 100000 in
set_option maxHeartbeats 3200000 in
theorem follows_one (w : World) (B o n c1 n2 c2 : Nat) (a2 : Option Addr) (h e la : En) (hE : Eb w B (o + n * 3) la) (hn : n ≤ 8796093021952) :
    Calls Tryz.prog 197 #[cvv (.slice (some ⟨B, o, none⟩) (n + 1) c1) (.slice a2 n2 c2) h, e.agg] w fun x w' => x = .returned (.bool (decide (la.lt e) && blw h e)) ∧ Only (fun _ => False) w w' := by
  have HM : Hid (∀ W, Calls Tryz.prog 194 #[.agg #[.string e.key, .int .i64 e.page, .int .i64 e.slot], .agg #[.string la.key, .int .i64 la.page, .int .i64 la.slot]] W fun x w' => x = .returned (.int .i64 (cmpE e la)) ∧ Only (fun _ => False) W w') := fun W => compare_any e la W
  have HB : Hid (∀ W, Calls Tryz.prog 175 #[.agg #[.slice (some ⟨B, o, none⟩) (n + 1) c1, .slice a2 n2 c2, .string h.key, .int .i64 h.page, .int .i64 h.slot], .agg #[.string e.key, .int .i64 e.page, .int .i64 e.slot]] W fun x w' => x = .returned (.bool (blw h e)) ∧ Only (fun _ => False) W w') := fun W => isBelow_any W (some ⟨B, o, none⟩) a2 (n + 1) n2 c1 c2 h e
  have hzp : 0 < cmpE e la ↔ la.lt e := cmpE_pos
  obtain ⟨z, hz⟩ : ∃ z, cmpE e la = z := ⟨_, rfl⟩
  obtain ⟨bw, hbw⟩ : ∃ b, blw h e = b := ⟨_, rfl⟩
  rw [hz] at HM hzp
  rw [hbw] at HB ⊢
  obtain ⟨rb, hrb⟩ : ∃ b, (decide (la.lt e) && bw) = b := ⟨_, rfl⟩
  rw [hrb]
  have HX := hide (ce_new w (.slice (some ⟨B, o, none⟩) (n + 1) c1) (.slice a2 n2 c2) h e)
  have HEB := hide (hE.more HX.out.2.2)
  clear hz hE hbw
  unfold cvv En.agg
  go_enter Tryz.func197, Tryz.ntmps197
  go_upto_region 1 with fail
  obtain ⟨W0, hW0⟩ : ∃ x, (w.alloc (.cells #[.slice (some ⟨B, o, none⟩) (n + 1) c1, .slice a2 n2 c2, .string h.key, .int .i64 h.page, .int .i64 h.slot] 200)).alloc (.cells #[.string e.key, .int .i64 e.page, .int .i64 e.slot] 74) = x := ⟨_, rfl⟩
  rw [hW0] at HX HEB ⊢
  clear hW0
  have q0 := HX.out.1.c0
  have hn0 : ((n : Int) + 1 == 0) = false := by simp; omega
  go_upto_region 3 with fail
  clear q0 hn0
  have hwn : IntKind.i64.wrap (n : Int) = (n : Int) := by rw [IntKind.wrap_i64]; omega
  have hle : ¬ (n : Int) + 1 ≤ (n : Int) := by omega
  by_cases hlt : la.lt e
  · have hz0 : 0 < z := hzp.2 hlt
    have HR : Hid (bw = rb) := by rw [decide_eq_true hlt, Bool.true_and] at hrb; exact hrb
    clear hzp hlt hrb
    -- {r3a
    refine wp_region_noPanic ?_
    refine wp_region_held_drew (S := fun W => Only (fun _ => False) W0 W) (by kernel_rfl) (Only.drew _ _) (fun hHeld => ?_)
    refine wpAnyH_take (i := 0) (oi := { dst := some 11, op := Op.load 74 (Operand.tmp 3), type := 74, pos := "read.go:78", after := #[], guard := none }) (v := .agg #[.string e.key, .int .i64 e.page, .int .i64 e.slot]) rfl (by kernel_rfl) (by kernel_rfl) (by kernel_rfl) (fun _ _ _ h => h) (yieldsIf_load_ev (by rfl) _ rfl rfl (fun W hW => HX.out.2.1.more hW)) (by assumption) ?_
    simp only [Act.put, List.setIfInBounds_toArray, List.set_cons_zero, List.set_cons_succ]
    refine wpAnyH_take (i := 1) (oi := { dst := some 12, op := Op.fieldAddr 200 (Operand.tmp 2) 0, type := 0, pos := "read.go:78", after := #[], guard := none }) (v := .pointer (some ⟨w.heap.size, 0, none⟩)) rfl (by kernel_rfl) (by kernel_rfl) (by kernel_rfl) (fun _ _ _ h => h) (Or.inl ⟨by rfl, fun w' hSw => by clear hSw; go_simp⟩) (by assumption) ?_
    simp only [Act.put, List.setIfInBounds_toArray, List.set_cons_zero, List.set_cons_succ]
    refine wpAnyH_take (i := 3) (oi := { dst := some 14, op := Op.fieldAddr 200 (Operand.tmp 2) 0, type := 0, pos := "read.go:78", after := #[], guard := none }) (v := .pointer (some ⟨w.heap.size, 0, none⟩)) rfl (by kernel_rfl) (by kernel_rfl) (by kernel_rfl) (fun _ _ _ h => h) (Or.inl ⟨by rfl, fun w' hSw => by clear hSw; go_simp⟩) (by assumption) ?_
    simp only [Act.put, List.setIfInBounds_toArray, List.set_cons_zero, List.set_cons_succ]
    refine wpAnyH_take (i := 2) (oi := { dst := some 13, op := Op.load 37 (Operand.tmp 12), type := 37, pos := "read.go:78", after := #[{ on := 1, ground := Ground.data }], guard := none }) (v := .slice (some ⟨B, o, none⟩) (n + 1) c1) rfl (by kernel_rfl) (by kernel_rfl) (by kernel_rfl) (fun _ _ _ h => h) (yieldsIf_load_cell (by rfl) 37 _ rfl _ rfl (fun W hW => (HX.out.1.more hW).c0) (fun W hc => ld_entries hc)) (by assumption) ?_
    simp only [Act.put, List.setIfInBounds_toArray, List.set_cons_zero, List.set_cons_succ]
    refine wpAnyH_take (i := 4) (oi := { dst := some 15, op := Op.load 37 (Operand.tmp 14), type := 37, pos := "read.go:78", after := #[{ on := 3, ground := Ground.data }], guard := none }) (v := .slice (some ⟨B, o, none⟩) (n + 1) c1) rfl (by kernel_rfl) (by kernel_rfl) (by kernel_rfl) (fun _ _ _ h => h) (yieldsIf_load_cell (by rfl) 37 _ rfl _ rfl (fun W hW => (HX.out.1.more hW).c0) (fun W hc => ld_entries hc)) (by assumption) ?_
    simp only [Act.put, List.setIfInBounds_toArray, List.set_cons_zero, List.set_cons_succ]
    refine wpAnyH_take (i := 5) (oi := { dst := some 16, op := Op.call { callee := Callee.builtin Builtin.len, args := #[Operand.tmp 15], argTypes := #[37] }, type := 3, pos := "read.go:78", after := #[{ on := 4, ground := Ground.data }], guard := none }) (v := .int .i64 ((n : Int) + 1)) rfl (by kernel_rfl) (by kernel_rfl) (by kernel_rfl) (fun _ _ _ h => h) (Or.inl ⟨by rfl, fun w' hSw => by clear hSw; go_simp⟩) (by assumption) ?_
    simp only [Act.put, List.setIfInBounds_toArray, List.set_cons_zero, List.set_cons_succ]
    refine wpAnyH_take (i := 6) (oi := { dst := some 17, op := Op.binOp BinOp.sub 3 (Operand.tmp 16) (Operand.const (Value.int IntKind.i64 1)) 3, type := 3, pos := "read.go:78", after := #[{ on := 5, ground := Ground.data }], guard := none }) (v := .int .i64 (n : Int)) rfl (by kernel_rfl) (by kernel_rfl) (by kernel_rfl) (fun _ _ _ h => h) (Or.inl ⟨by rfl, fun w' hSw => by clear hSw; go_simp⟩) (by assumption) ?_
    simp only [Act.put, List.setIfInBounds_toArray, List.set_cons_zero, List.set_cons_succ]
    refine wpAnyH_take (i := 7) (oi := { dst := some 18, op := Op.indexAddr 37 (Operand.tmp 13) (Operand.tmp 17), type := 0, pos := "read.go:78", after := #[{ on := 2, ground := Ground.data }, { on := 6, ground := Ground.data }], guard := none }) (v := .pointer (some ⟨B, o + n * 3, none⟩)) rfl (by kernel_rfl) (by kernel_rfl) (by kernel_rfl) (fun _ _ _ h => h) (Or.inl ⟨by rfl, fun w' hSw => by clear hSw; go_simp⟩) (by assumption) ?_
    simp only [Act.put, List.setIfInBounds_toArray, List.set_cons_zero, List.set_cons_succ]
    refine wpAnyH_take (i := 8) (oi := { dst := some 19, op := Op.load 74 (Operand.tmp 18), type := 74, pos := "read.go:78", after := #[{ on := 7, ground := Ground.data }], guard := none }) (v := .agg #[.string la.key, .int .i64 la.page, .int .i64 la.slot]) rfl (by kernel_rfl) (by kernel_rfl) (by kernel_rfl) (fun _ _ _ h => h) (yieldsIf_load_eb (by rfl) _ rfl rfl (fun W hW => HEB.out.more hW)) (by assumption) ?_
    simp only [Act.put, List.setIfInBounds_toArray, List.set_cons_zero, List.set_cons_succ]
    refine wpAnyH_ready (rs := [9]) (by kernel_rfl) (by simp) ?_
    refine AllReadyH.cons (o := { dst := some 20, op := Op.call { callee := Callee.value (Operand.func 194), args := #[Operand.tmp 11, Operand.tmp 19], argTypes := #[74, 74] }, type := 3, pos := "read.go:78", after := #[{ on := 0, ground := Ground.data }, { on := 8, ground := Ground.data }], guard := none }) rfl (fun K hK => ?_) (AllReadyH.nil)
    go_simp
    refine (HM.out _).mono ?_
    rintro x x1 ⟨rfl, hx1⟩
    have HX1 := hide (o2 hHeld hx1)
    clear hx1
    refine hK.out _ _ (HX1.out) (fun hHeld => ?_)
    clear hK K
    try simp only [Act.put, List.setIfInBounds_toArray, List.set_cons_zero, List.set_cons_succ]
    refine wpAnyH_take (i := 10) (oi := { dst := some 21, op := Op.binOp BinOp.gtr 3 (Operand.tmp 20) (Operand.const (Value.int IntKind.i64 0)) 3, type := 4, pos := "read.go:78", after := #[{ on := 9, ground := Ground.data }], guard := none }) (v := .bool true) rfl (by kernel_rfl) (by kernel_rfl) (by kernel_rfl) (fun _ _ _ h => h) (Or.inl ⟨by rfl, fun w' hSw => by clear hSw; go_simp⟩) (by assumption) ?_
    simp only [Act.put, List.setIfInBounds_toArray, List.set_cons_zero, List.set_cons_succ]
    refine wpAnyH_take (i := 11) (oi := { dst := some 22, op := Op.move (Operand.tmp 21), type := 4, pos := "read.go:78", after := #[{ on := 10, ground := Ground.data }, { on := 9, ground := Ground.chain }], guard := none }) (v := .bool true) rfl (by kernel_rfl) (by kernel_rfl) (by kernel_rfl) (fun _ _ _ h => h) (Or.inl ⟨by rfl, fun w' hSw => by clear hSw; go_simp⟩) (by assumption) ?_
    simp only [Act.put, List.setIfInBounds_toArray, List.set_cons_zero, List.set_cons_succ]
    refine wpAnyH_take (i := 12) (oi := { dst := some 23, op := Op.load 200 (Operand.tmp 2), type := 200, pos := "read.go:78", after := #[{ on := 11, ground := Ground.guard }], guard := some (11, true) }) (v := .agg #[.slice (some ⟨B, o, none⟩) (n + 1) c1, .slice a2 n2 c2, .string h.key, .int .i64 h.page, .int .i64 h.slot]) rfl (by kernel_rfl) (by kernel_rfl) (by kernel_rfl) (fun _ _ _ h => h) (yieldsIf_load_cv (by rfl) _ rfl rfl (fun W hW => HX.out.1.more hW)) (by assumption) ?_
    simp only [Act.put, List.setIfInBounds_toArray, List.set_cons_zero, List.set_cons_succ]
    refine wpAnyH_take (i := 13) (oi := { dst := some 24, op := Op.load 74 (Operand.tmp 3), type := 74, pos := "read.go:78", after := #[{ on := 11, ground := Ground.guard }], guard := some (11, true) }) (v := .agg #[.string e.key, .int .i64 e.page, .int .i64 e.slot]) rfl (by kernel_rfl) (by kernel_rfl) (by kernel_rfl) (fun _ _ _ h => h) (yieldsIf_load_ev (by rfl) _ rfl rfl (fun W hW => HX.out.2.1.more hW)) (by assumption) ?_
    simp only [Act.put, List.setIfInBounds_toArray, List.set_cons_zero, List.set_cons_succ]
    refine wpAnyH_ready (rs := [14]) (by kernel_rfl) (by simp) ?_
    refine AllReadyH.cons (o := { dst := some 25, op := Op.call { callee := Callee.value (Operand.func 175), args := #[Operand.tmp 23, Operand.tmp 24], argTypes := #[200, 74] }, type := 4, pos := "read.go:78", after := #[{ on := 12, ground := Ground.data }, { on := 13, ground := Ground.data }, { on := 11, ground := Ground.chain }, { on := 11, ground := Ground.guard }], guard := some (11, true) }) rfl (fun K hK => ?_) (AllReadyH.nil)
    go_simp
    refine (HB.out _).mono ?_
    rintro x x2 ⟨rfl, hx2⟩
    have HX2 := hide (o2 HX1.out hx2)
    clear hx2
    refine hK.out _ _ (HX2.out) (fun hHeld => ?_)
    clear hK K
    try simp only [Act.put, List.setIfInBounds_toArray, List.set_cons_zero, List.set_cons_succ]
    refine wpAnyH_take (i := 15) (oi := { dst := some 26, op := Op.pick (Operand.tmp 22) (Operand.tmp 25) (Operand.const (Value.bool false)), type := 4, pos := "read.go:78", after := #[{ on := 11, ground := Ground.data }, { on := 14, ground := Ground.data }], guard := none }) (v := .bool bw) rfl (by kernel_rfl) (by kernel_rfl) (by kernel_rfl) (fun _ _ _ h => h) (Or.inl ⟨by rfl, fun w' hSw => by clear hSw; go_simp⟩) (by assumption) ?_
    simp only [Act.put, List.setIfInBounds_toArray, List.set_cons_zero, List.set_cons_succ]
    refine wpAnyH_take (i := 16) (oi := { dst := some 4, op := Op.assign (Operand.tmp 26), type := 4, pos := "read.go:78", after := #[{ on := 15, ground := Ground.data }, { on := 14, ground := Ground.chain }, { on := 0, ground := Ground.phase }, { on := 1, ground := Ground.phase }, { on := 2, ground := Ground.phase }, { on := 3, ground := Ground.phase }, { on := 4, ground := Ground.phase }, { on := 5, ground := Ground.phase }, { on := 6, ground := Ground.phase }, { on := 7, ground := Ground.phase }, { on := 8, ground := Ground.phase }, { on := 9, ground := Ground.phase }, { on := 10, ground := Ground.phase }, { on := 11, ground := Ground.phase }, { on := 12, ground := Ground.phase }, { on := 13, ground := Ground.phase }, { on := 14, ground := Ground.phase }, { on := 15, ground := Ground.phase }], guard := none }) (v := .bool bw) rfl (by kernel_rfl) (by kernel_rfl) (by kernel_rfl) (fun _ _ _ h => h) (Or.inl ⟨by rfl, fun w' hSw => by clear hSw; go_simp⟩) (by assumption) ?_
    simp only [Act.put, List.setIfInBounds_toArray, List.set_cons_zero, List.set_cons_succ]
    refine wpAnyH_done (by kernel_rfl) ?_ _
    refine NoPanic.normal ?_
    go_wp2_with fail
    go_ret
    obtain rfl := HR.out
    exact ⟨rfl, o2 HX.out.2.2 HX2.out⟩
    -- r3a}
  · have hz0 : ¬ 0 < z := fun k => hlt (hzp.1 k)
    have HR : Hid (false = rb) := by rw [decide_eq_false hlt, Bool.false_and] at hrb; exact hrb
    clear hzp hlt hrb
    -- {r3b
    refine wp_region_noPanic ?_
    refine wp_region_held_drew (S := fun W => Only (fun _ => False) W0 W) (by kernel_rfl) (Only.drew _ _) (fun hHeld => ?_)
    refine wpAnyH_take (i := 0) (oi := { dst := some 11, op := Op.load 74 (Operand.tmp 3), type := 74, pos := "read.go:78", after := #[], guard := none }) (v := .agg #[.string e.key, .int .i64 e.page, .int .i64 e.slot]) rfl (by kernel_rfl) (by kernel_rfl) (by kernel_rfl) (fun _ _ _ h => h) (yieldsIf_load_ev (by rfl) _ rfl rfl (fun W hW => HX.out.2.1.more hW)) (by assumption) ?_
    simp only [Act.put, List.setIfInBounds_toArray, List.set_cons_zero, List.set_cons_succ]
    refine wpAnyH_take (i := 1) (oi := { dst := some 12, op := Op.fieldAddr 200 (Operand.tmp 2) 0, type := 0, pos := "read.go:78", after := #[], guard := none }) (v := .pointer (some ⟨w.heap.size, 0, none⟩)) rfl (by kernel_rfl) (by kernel_rfl) (by kernel_rfl) (fun _ _ _ h => h) (Or.inl ⟨by rfl, fun w' hSw => by clear hSw; go_simp⟩) (by assumption) ?_
    simp only [Act.put, List.setIfInBounds_toArray, List.set_cons_zero, List.set_cons_succ]
    refine wpAnyH_take (i := 3) (oi := { dst := some 14, op := Op.fieldAddr 200 (Operand.tmp 2) 0, type := 0, pos := "read.go:78", after := #[], guard := none }) (v := .pointer (some ⟨w.heap.size, 0, none⟩)) rfl (by kernel_rfl) (by kernel_rfl) (by kernel_rfl) (fun _ _ _ h => h) (Or.inl ⟨by rfl, fun w' hSw => by clear hSw; go_simp⟩) (by assumption) ?_
    simp only [Act.put, List.setIfInBounds_toArray, List.set_cons_zero, List.set_cons_succ]
    refine wpAnyH_take (i := 2) (oi := { dst := some 13, op := Op.load 37 (Operand.tmp 12), type := 37, pos := "read.go:78", after := #[{ on := 1, ground := Ground.data }], guard := none }) (v := .slice (some ⟨B, o, none⟩) (n + 1) c1) rfl (by kernel_rfl) (by kernel_rfl) (by kernel_rfl) (fun _ _ _ h => h) (yieldsIf_load_cell (by rfl) 37 _ rfl _ rfl (fun W hW => (HX.out.1.more hW).c0) (fun W hc => ld_entries hc)) (by assumption) ?_
    simp only [Act.put, List.setIfInBounds_toArray, List.set_cons_zero, List.set_cons_succ]
    refine wpAnyH_take (i := 4) (oi := { dst := some 15, op := Op.load 37 (Operand.tmp 14), type := 37, pos := "read.go:78", after := #[{ on := 3, ground := Ground.data }], guard := none }) (v := .slice (some ⟨B, o, none⟩) (n + 1) c1) rfl (by kernel_rfl) (by kernel_rfl) (by kernel_rfl) (fun _ _ _ h => h) (yieldsIf_load_cell (by rfl) 37 _ rfl _ rfl (fun W hW => (HX.out.1.more hW).c0) (fun W hc => ld_entries hc)) (by assumption) ?_
    simp only [Act.put, List.setIfInBounds_toArray, List.set_cons_zero, List.set_cons_succ]
    refine wpAnyH_take (i := 5) (oi := { dst := some 16, op := Op.call { callee := Callee.builtin Builtin.len, args := #[Operand.tmp 15], argTypes := #[37] }, type := 3, pos := "read.go:78", after := #[{ on := 4, ground := Ground.data }], guard := none }) (v := .int .i64 ((n : Int) + 1)) rfl (by kernel_rfl) (by kernel_rfl) (by kernel_rfl) (fun _ _ _ h => h) (Or.inl ⟨by rfl, fun w' hSw => by clear hSw; go_simp⟩) (by assumption) ?_
    simp only [Act.put, List.setIfInBounds_toArray, List.set_cons_zero, List.set_cons_succ]
    refine wpAnyH_take (i := 6) (oi := { dst := some 17, op := Op.binOp BinOp.sub 3 (Operand.tmp 16) (Operand.const (Value.int IntKind.i64 1)) 3, type := 3, pos := "read.go:78", after := #[{ on := 5, ground := Ground.data }], guard := none }) (v := .int .i64 (n : Int)) rfl (by kernel_rfl) (by kernel_rfl) (by kernel_rfl) (fun _ _ _ h => h) (Or.inl ⟨by rfl, fun w' hSw => by clear hSw; go_simp⟩) (by assumption) ?_
    simp only [Act.put, List.setIfInBounds_toArray, List.set_cons_zero, List.set_cons_succ]
    refine wpAnyH_take (i := 7) (oi := { dst := some 18, op := Op.indexAddr 37 (Operand.tmp 13) (Operand.tmp 17), type := 0, pos := "read.go:78", after := #[{ on := 2, ground := Ground.data }, { on := 6, ground := Ground.data }], guard := none }) (v := .pointer (some ⟨B, o + n * 3, none⟩)) rfl (by kernel_rfl) (by kernel_rfl) (by kernel_rfl) (fun _ _ _ h => h) (Or.inl ⟨by rfl, fun w' hSw => by clear hSw; go_simp⟩) (by assumption) ?_
    simp only [Act.put, List.setIfInBounds_toArray, List.set_cons_zero, List.set_cons_succ]
    refine wpAnyH_take (i := 8) (oi := { dst := some 19, op := Op.load 74 (Operand.tmp 18), type := 74, pos := "read.go:78", after := #[{ on := 7, ground := Ground.data }], guard := none }) (v := .agg #[.string la.key, .int .i64 la.page, .int .i64 la.slot]) rfl (by kernel_rfl) (by kernel_rfl) (by kernel_rfl) (fun _ _ _ h => h) (yieldsIf_load_eb (by rfl) _ rfl rfl (fun W hW => HEB.out.more hW)) (by assumption) ?_
    simp only [Act.put, List.setIfInBounds_toArray, List.set_cons_zero, List.set_cons_succ]
    refine wpAnyH_ready (rs := [9]) (by kernel_rfl) (by simp) ?_
    refine AllReadyH.cons (o := { dst := some 20, op := Op.call { callee := Callee.value (Operand.func 194), args := #[Operand.tmp 11, Operand.tmp 19], argTypes := #[74, 74] }, type := 3, pos := "read.go:78", after := #[{ on := 0, ground := Ground.data }, { on := 8, ground := Ground.data }], guard := none }) rfl (fun K hK => ?_) (AllReadyH.nil)
    go_simp
    refine (HM.out _).mono ?_
    rintro x x1 ⟨rfl, hx1⟩
    have HX1 := hide (o2 hHeld hx1)
    clear hx1
    refine hK.out _ _ (HX1.out) (fun hHeld => ?_)
    clear hK K
    try simp only [Act.put, List.setIfInBounds_toArray, List.set_cons_zero, List.set_cons_succ]
    refine wpAnyH_take (i := 10) (oi := { dst := some 21, op := Op.binOp BinOp.gtr 3 (Operand.tmp 20) (Operand.const (Value.int IntKind.i64 0)) 3, type := 4, pos := "read.go:78", after := #[{ on := 9, ground := Ground.data }], guard := none }) (v := .bool false) rfl (by kernel_rfl) (by kernel_rfl) (by kernel_rfl) (fun _ _ _ h => h) (Or.inl ⟨by rfl, fun w' hSw => by clear hSw; go_simp⟩) (by assumption) ?_
    simp only [Act.put, List.setIfInBounds_toArray, List.set_cons_zero, List.set_cons_succ]
    refine wpAnyH_take (i := 11) (oi := { dst := some 22, op := Op.move (Operand.tmp 21), type := 4, pos := "read.go:78", after := #[{ on := 10, ground := Ground.data }, { on := 9, ground := Ground.chain }], guard := none }) (v := .bool false) rfl (by kernel_rfl) (by kernel_rfl) (by kernel_rfl) (fun _ _ _ h => h) (Or.inl ⟨by rfl, fun w' hSw => by clear hSw; go_simp⟩) (by assumption) ?_
    simp only [Act.put, List.setIfInBounds_toArray, List.set_cons_zero, List.set_cons_succ]
    refine wpAnyH_take (i := 12) (oi := { dst := some 23, op := Op.load 200 (Operand.tmp 2), type := 200, pos := "read.go:78", after := #[{ on := 11, ground := Ground.guard }], guard := some (11, true) }) (v := undef) rfl (by kernel_rfl) (by kernel_rfl) (by kernel_rfl) (fun _ _ _ h => h) (Or.inr ⟨by rfl, rfl⟩) (by assumption) ?_
    simp only [Act.put, List.setIfInBounds_toArray, List.set_cons_zero, List.set_cons_succ]
    refine wpAnyH_take (i := 13) (oi := { dst := some 24, op := Op.load 74 (Operand.tmp 3), type := 74, pos := "read.go:78", after := #[{ on := 11, ground := Ground.guard }], guard := some (11, true) }) (v := undef) rfl (by kernel_rfl) (by kernel_rfl) (by kernel_rfl) (fun _ _ _ h => h) (Or.inr ⟨by rfl, rfl⟩) (by assumption) ?_
    simp only [Act.put, List.setIfInBounds_toArray, List.set_cons_zero, List.set_cons_succ]
    refine wpAnyH_take (i := 14) (oi := { dst := some 25, op := Op.call { callee := Callee.value (Operand.func 175), args := #[Operand.tmp 23, Operand.tmp 24], argTypes := #[200, 74] }, type := 4, pos := "read.go:78", after := #[{ on := 12, ground := Ground.data }, { on := 13, ground := Ground.data }, { on := 11, ground := Ground.chain }, { on := 11, ground := Ground.guard }], guard := some (11, true) }) (v := undef) rfl (by kernel_rfl) (by kernel_rfl) (by kernel_rfl) (fun _ _ _ h => h) (Or.inr ⟨by rfl, rfl⟩) (by assumption) ?_
    simp only [Act.put, List.setIfInBounds_toArray, List.set_cons_zero, List.set_cons_succ]
    refine wpAnyH_take (i := 15) (oi := { dst := some 26, op := Op.pick (Operand.tmp 22) (Operand.tmp 25) (Operand.const (Value.bool false)), type := 4, pos := "read.go:78", after := #[{ on := 11, ground := Ground.data }, { on := 14, ground := Ground.data }], guard := none }) (v := .bool false) rfl (by kernel_rfl) (by kernel_rfl) (by kernel_rfl) (fun _ _ _ h => h) (Or.inl ⟨by rfl, fun w' hSw => by clear hSw; go_simp⟩) (by assumption) ?_
    simp only [Act.put, List.setIfInBounds_toArray, List.set_cons_zero, List.set_cons_succ]
    refine wpAnyH_take (i := 16) (oi := { dst := some 4, op := Op.assign (Operand.tmp 26), type := 4, pos := "read.go:78", after := #[{ on := 15, ground := Ground.data }, { on := 14, ground := Ground.chain }, { on := 0, ground := Ground.phase }, { on := 1, ground := Ground.phase }, { on := 2, ground := Ground.phase }, { on := 3, ground := Ground.phase }, { on := 4, ground := Ground.phase }, { on := 5, ground := Ground.phase }, { on := 6, ground := Ground.phase }, { on := 7, ground := Ground.phase }, { on := 8, ground := Ground.phase }, { on := 9, ground := Ground.phase }, { on := 10, ground := Ground.phase }, { on := 11, ground := Ground.phase }, { on := 12, ground := Ground.phase }, { on := 13, ground := Ground.phase }, { on := 14, ground := Ground.phase }, { on := 15, ground := Ground.phase }], guard := none }) (v := .bool false) rfl (by kernel_rfl) (by kernel_rfl) (by kernel_rfl) (fun _ _ _ h => h) (Or.inl ⟨by rfl, fun w' hSw => by clear hSw; go_simp⟩) (by assumption) ?_
    simp only [Act.put, List.setIfInBounds_toArray, List.set_cons_zero, List.set_cons_succ]
    refine wpAnyH_done (by kernel_rfl) ?_ _
    refine NoPanic.normal ?_
    go_wp2_with fail
    go_ret
    obtain rfl := HR.out
    exact ⟨rfl, o2 HX.out.2.2 HX1.out⟩
    -- r3b}
/-- follows of any. -/
theorem follows_any (W : World) (base C n2 C2 : Nat) (A A2 : Option Addr) (hi e : En) (es : List En) (n : Nat) (hn : es.length = n) (hl : n ≤ 8796093021952) (hE : Ets W base (.slice A n C) es) :
    Calls Tryz.prog 197 #[.agg #[.slice A n C, .slice A2 n2 C2, .string hi.key, .int .i64 hi.page, .int .i64 hi.slot], .agg #[.string e.key, .int .i64 e.page, .int .i64 e.slot]] W fun x w' => x = .returned (.bool (okI hi es.getLast? e)) ∧ Only (fun _ => False) W w' := by
  subst hn
  cases hx : es.getLast? with
  | none =>
    have e0 : es = [] := List.getLast?_eq_none_iff.1 hx
    subst e0
    exact follows_nil W A A2 C n2 C2 hi e
  | some la =>
    obtain ⟨ini, rfl⟩ := List.getLast?_eq_some_iff.1 hx
    obtain ⟨B, ao, cp, hv, hels, _, _⟩ := hE.els
    have hlen : (ini ++ [la]).length = ini.length + 1 := by simp
    obtain ⟨o, hao, hat⟩ := hels.at_ (by omega)
    have hv' : A = ao := by injection hv
    subst hao
    subst hv'
    have hb := hat ini.length (by omega)
    have e1 : (ini ++ [la])[ini.length]'(by omega) = la := by simp
    rw [e1] at hb
    have q := follows_one W B o ini.length C n2 C2 A2 hi e la hb (by omega)
    rw [hlen]
    exact q
end Go.Proofs.YtpnbhddmdfcjdaaGreat
