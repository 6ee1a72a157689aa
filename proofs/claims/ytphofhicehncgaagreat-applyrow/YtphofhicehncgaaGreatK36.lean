/- What Cut does. -/
import Derived.Test.YtphofhicehncgaaGreatK35
import Derived.Test.YtphofhicehncgaaGreatK33
import Derived.Laws.IdiomStrings
import Derived.Test.YtphofhicehncgaaGreatK08
namespace Go.Proofs.YtphofhicehncgaaGreat
open Go.RowKit

theorem and3 : ∀ n : Fin 256, bits BinOp.and IntKind.u8 (n.val : Int) 3 = ((n.val % 4 : Nat) : Int) := by
  decide +kernel
theorem st_and {n : Nat} (h : n < 256) (d k : Nat) (hd : d = 4 ^ k) : bits BinOp.and IntKind.u8 ((n : Int) / (d : Int)) 3 = (dig n k : Int) := by
  have hle : n / d ≤ n := Nat.div_le_self _ _
  have := and3 ⟨n / d, by omega⟩
  unfold dig
  rw [← hd, ← this]
  simp
theorem ret_st {a b : Int} (h : a = b) : Ending.returned (.tuple #[.int .u8 a, .int .i64 0]) = .returned (.tuple #[.int .u8 b, .int .i64 0]) := by rw [h]
/-- What Get answers. -/
noncomputable def gst (m : Int) (p : Pg) (x : Int) : Nat := if cid m p x = 0 then stAt (bl (it1 p)) (x - 1).toNat else 0
theorem byt_is {s : ByteArray} {q : Nat} (hq : q < s.size) : byt (bl s) q = (s[q]'hq).toNat := by
  unfold byt
  rw [List.getD_eq_getElem?_getD, List.getElem?_eq_getElem (by rw [bl_len]; exact hq)]
  rfl
/-- What Frozen answers. -/
noncomputable def fst (m : Int) (p : Pg) : Int := if chk m p = 0 then lim m (it0 p) else 0
end Go.Proofs.YtphofhicehncgaaGreat

namespace Go.Proofs.YtphofhicehncgaaGreat
open Go.RowKit

theorem bytes_made (w : World) (s : ByteArray) : ∃ (W1 : World) (cap : Nat), (convert 9 75 (.string s)).run Tryz.prog w = .ok (.slice (some ⟨w.heap.size, 0, none⟩) s.size cap) W1 ∧ Byt W1 w.heap.size (bl s) ∧ Only (fun _ => False) w W1 := by
  refine ⟨_, _, run_bytes_of_string (P := Tryz.prog) w 9 75 5 s Tryz.underlying9 Tryz.underlying75 Tryz.underlying5, ⟨?_, ?_, ?_⟩, ?_⟩
  · intro j hj
    rw [bl_len] at hj
    generalize grownCap w s.size 0 5 = cap
    have hb : (w.drew.alloc (.cells (bytesRow s cap) 5 ((bytesRow s cap).size, (bytesRow s cap).size + 1))).heap[w.heap.size]? = some (.cells (bytesRow s cap) 5 ((bytesRow s cap).size, (bytesRow s cap).size + 1)) := heap_alloc_new w.drew _
    rw [cell_of_row _ w.heap.size j (bytesRow s cap) 5 _ hb]
    unfold bytesRow
    rw [Array.getElem?_append_left (by simpa using hj)]
    have hj' : j < s.data.size := hj
    simp [Array.getElem?_map, Array.getElem?_eq_getElem hj']
  · intro j hj
    rw [bl_len] at hj
    generalize hcap : grownCap w s.size 0 5 = cap
    have hb : (w.drew.alloc (.cells (bytesRow s cap) 5 ((bytesRow s cap).size, (bytesRow s cap).size + 1))).heap[w.heap.size]? = some (.cells (bytesRow s cap) 5 ((bytesRow s cap).size, (bytesRow s cap).size + 1)) := heap_alloc_new w.drew _
    have hl : s.size ≤ (bytesRow s cap).size := by unfold bytesRow; rw [Array.size_append, Array.size_map]; exact Nat.le_add_right _ _
    unfold World.frozen?
    rw [hb]
    simp
    omega
  · simp
  · exact (Only.drew _ w).trans (Only.alloc _ _ _) (fun _ _ h => h) (T := fun _ => False)
theorem Byt.back {w : World} {g cp : Nat} {l : List UInt8} (h : Byt w g l) : (convert 75 9 (.slice (some ⟨g, 0, none⟩) l.length cp)).run Tryz.prog w = .ok (.string (str l)) w := by
  refine run_convert_bytes_back w 75 9 5 ⟨g, 0, none⟩ cp l Tryz.underlying75 Tryz.underlying5 Tryz.underlying9 (fun j hj => ?_)
  rw [add_at, Nat.zero_add]
  exact h.c j hj
/-- An answer stored into its cell. -/
theorem res_end {w w6 : World} {b B cp : Nat} {ao : Option Addr} (hb : w.heap.size ≤ b) (p : Pg) (hS : Strs w6 B ao p.items) (hF : Fit ao p.items.length cp) (ho : Only (fun _ => False) w w6) (hB : 0 < p.items.length → b < B) (c : Int) (v0 v1 v2 v3 v4 v5 : Value) :
    Res w ((((((w6.setCell ⟨b, 0, none⟩ v0).setCell ⟨b, 1, none⟩ v1).setCell ⟨b, 2, none⟩ v2).setCell ⟨b, 3, none⟩ v3).setCell ⟨b, 4, none⟩ v4).setCell ⟨b, 5, none⟩ v5)
      (.returned (.tuple #[.agg #[.int .i64 p.lsn, .int .i64 p.kind, .int .i64 p.level, .int .i64 p.right, .string p.high, .slice ao p.items.length cp], .int .i64 c])) p c := by
  have h6 := Only.six w6 b v0 v1 v2 v3 v4 v5
  exact ⟨B, ao, cp, rfl, hS.kept h6 (fun h e => by have := hB h; omega), hF, ho.trans h6 (fun i hi e => by omega), fun h => by have := hB h; omega⟩
theorem res_none {w w6 : World} {b : Nat} (hb : w.heap.size ≤ b) (ho : Only (fun _ => False) w w6) (c : Int) (v0 v1 v2 v3 v4 v5 : Value) :
    Res w ((((((w6.setCell ⟨b, 0, none⟩ v0).setCell ⟨b, 1, none⟩ v1).setCell ⟨b, 2, none⟩ v2).setCell ⟨b, 3, none⟩ v3).setCell ⟨b, 4, none⟩ v4).setCell ⟨b, 5, none⟩ v5)
      (.returned (.tuple #[.agg #[.int .i64 0, .int .i64 0, .int .i64 0, .int .i64 0, .string ⟨#[]⟩, .slice none 0 0], .int .i64 c])) .none c :=
  Res.none c (ho.trans (Only.six w6 b v0 v1 v2 v3 v4 v5) (fun i hi e => by omega))
/-- What Set answers. -/
noncomputable def setC (m : Int) (p : Pg) (x : Int) (v : Nat) : Int := if cid m p x = 0 then (if v ≤ 3 then 0 else 1) else cid m p x
noncomputable def setR (m : Int) (p : Pg) (x : Int) (v : Nat) : Pg := if setC m p x v = 0 then setP p x v else .none
set_option maxRecDepth 100000 in
set_option maxHeartbeats 800000 in
theorem cset_err (w : World) (m a k v r x : Int) (h : ByteArray) (cp B : Nat) (ao : Option Addr) (l : List ByteArray) (s : Nat) (hm : I64 m) (hx : I64 x) (hS : Strs w B ao l) (hs : s < 256) (hc : ¬ setC m ⟨a, k, v, r, h, l⟩ x s = 0) :
    Calls Tryz.prog 17 #[.int .i64 m, .agg #[.int .i64 a, .int .i64 k, .int .i64 v, .int .i64 r, .string h, .slice ao l.length cp], .int .i64 x, .int .u8 (s : Int)] w fun e w' => Res w w' e .none (setC m ⟨a, k, v, r, h, l⟩ x s) := by
  have HC := hide (fun W (ho : Only (fun _ => False) w W) => checkWithID_any W m a k v r x h cp B ao l hm hx (hS.more ho))
  have HO := hide (boxes_only w a k v r h (.slice ao l.length cp))
  have HP := hide (boxes_two w a k v r h (.slice ao l.length cp))
  unfold boxes at HO HP
  have hcb := cid_bd m ⟨a, k, v, r, h, l⟩ x
  obtain ⟨C, hC⟩ : ∃ C, cid m ⟨a, k, v, r, h, l⟩ x = C := ⟨_, rfl⟩
  have HR : Hid (setC m ⟨a, k, v, r, h, l⟩ x s = if C = 0 then (if s ≤ 3 then 0 else 1) else C) := by unfold Hid setC; rw [hC]
  rw [HR.out] at hc
  rw [HR.out]
  rw [hC] at hcb
  simp only [hC] at HC
  have hx1 := hx.1
  have hx2 := hx.2
  clear hC HR hm hx hS
  by_cases h0 : C = 0
  · rw [if_pos h0] at hc
    rw [if_pos h0]
    have h3 : ¬ s ≤ 3 := by intro h; rw [if_pos h] at hc; exact hc rfl
    rw [if_neg h3]
    have hs3 : (3 : Int) < (s : Int) := by omega
    subst h0
    clear hcb hc h3
    go_enter Tryz.func17, Tryz.ntmps17
    go_wp2_with fail
    refine (HC.out _ HO.out).mono ?_
    rintro e w1 ⟨rfl, ho⟩
    have HO1 := hide (o2 HO.out ho)
    have HP1 := hide (HP.out.more ho)
    obtain ⟨q0, q1, q2, q3, q4, q5, t0, t1, t2, t3, t4, t5, tl⟩ := HP.out.more ho
    clear ho
    go_wp2_with fail
    refine bodyPost_ret (results_page rfl rfl (Pag.six HP1.out _ _ _ _ _ _)) rfl ?_
    exact res_none (by omega) HO1.out 1 _ _ _ _ _ _
  · rw [if_neg h0]
    have hne : (C != 0) = true := by simp [h0]
    clear h0 hc
    go_enter Tryz.func17, Tryz.ntmps17
    go_wp2_with fail
    refine (HC.out _ HO.out).mono ?_
    rintro e w1 ⟨rfl, ho⟩
    have HO1 := hide (o2 HO.out ho)
    have HP1 := hide (HP.out.more ho)
    obtain ⟨q0, q1, q2, q3, q4, q5, t0, t1, t2, t3, t4, t5, tl⟩ := HP.out.more ho
    clear ho
    go_wp2_with fail
    refine bodyPost_ret (results_page rfl rfl (Pag.six HP1.out _ _ _ _ _ _)) rfl ?_
    exact res_none (by omega) HO1.out C _ _ _ _ _ _
set_option maxRecDepth 100000 in
set_option maxHeartbeats 800000 in
theorem cset_ok (w : World) (m a x : Int) (cp B : Nat) (ao : Option Addr) (s0 s1 : ByteArray) (s : Nat) (hS : Strs w B ao [s0, s1]) (hO : OkP m ⟨a, 1, 0, 0, ⟨#[]⟩, [s0, s1]⟩) (hI : Idd m x) (hs : s < 4) :
    Calls Tryz.prog 17 #[.int .i64 m, .agg #[.int .i64 a, .int .i64 1, .int .i64 0, .int .i64 0, .string ⟨#[]⟩, .slice ao 2 cp], .int .i64 x, .int .u8 (s : Int)] w fun e w' => Res w w' e ⟨a, 1, 0, 0, ⟨#[]⟩, [s0, str (stSet (bl s1) (x - 1).toNat s)]⟩ 0 := by
  have hm : I64 m := ⟨by have := hI.1.1; omega, by have := hI.1.2.1; omega⟩
  have hx : I64 x := ⟨by have := hI.2; omega, by have := hI.2; have := hI.1.2.1; omega⟩
  have HC := hide (fun W (ho : Only (fun _ => False) w W) => checkWithID_any W m a 1 0 0 x ⟨#[]⟩ cp B ao [s0, s1] hm hx (hS.more ho))
  simp only [cid_ok hI hO] at HC
  have HO := hide (boxes_only w a 1 0 0 ⟨#[]⟩ (.slice ao 2 cp))
  have HP := hide (boxes_two w a 1 0 0 ⟨#[]⟩ (.slice ao 2 cp))
  have HQ := hide (boxes_one w a 1 0 0 ⟨#[]⟩ (.slice ao 2 cp))
  unfold boxes at HO HP HQ
  have hq := at_lt hI hO.size
  have hsz : s1.size = nb m := hO.size
  have hnb := nb_bd hI.1
  have HLY := hide (fun (W : World) (g cap : Nat) (hB : Byt W g (bl s1)) => lay_any W g cap (bl s1) x s hB hI.2.1 (by have := hI.2; have := hI.1.2.1; omega) hq hs)
  obtain ⟨T, hT⟩ : ∃ T, stSet (bl s1) (x - 1).toNat s = T := ⟨_, rfl⟩
  have hTl : T.length = s1.size := by rw [← hT, stSet_len, bl_len]
  rw [hT]
  simp only [hT] at HLY
  have HTL := hide hTl
  have hs0 : s0.size ≤ 10 := by
    have hc := lim_canon hO.lm
    have : s0 = str (sev (lim m s0).toNat) := hc
    rw [this, str_size]
    exact sevF_len 9 _
  have HFIT : Hid (¬ (255 < ([s0, s1].set 1 (str T)).length ∨ 512 < 20 + (⟨#[]⟩ : ByteArray).size + isz ([s0, s1].set 1 (str T)))) := by
    unfold Hid
    have e : [s0, s1].set 1 (str T) = [s0, str T] := rfl
    have e0 : (⟨#[]⟩ : ByteArray).size = 0 := rfl
    rw [e, isz_cons, isz_cons, isz_nil, str_size, e0]
    simp only [List.length_cons, List.length_nil]
    omega
  have HW := hide (fun (W : World) (ho : Only (fun _ => False) w W) => with_some W a 1 0 0 ⟨#[]⟩ B cp ao [s0, s1] 1 (str T) (hS.more ho) (Nat.zero_le _) (by rw [str_size]; omega) (by simp))
  obtain ⟨o, rfl, hc⟩ := hS.at_ (by simp)
  have hB := hS.lt (by simp)
  have hc1 := hc 1 (by simp)
  simp only [List.getElem_cons_zero, List.getElem_cons_succ] at hc1
  have HC1 := hide hc1
  have hx1 := hx.1
  have hx2 := hx.2
  clear hc hc1 hS hO hI hm hx hT hTl hnb hsz hq hs0
  simp only [List.length_cons, List.length_nil, Nat.zero_add, Nat.reduceAdd] at HC HW
  go_enter Tryz.func17, Tryz.ntmps17
  go_wp2_with fail
  refine (HC.out _ HO.out).mono ?_
  rintro e w1 ⟨rfl, ho⟩
  have HO1 := hide (o2 HO.out ho)
  have HP1 := hide (HP.out.more ho)
  have HQ1 := hide (HQ.out.more ho)
  have c5 := HQ1.out.c5
  have d1 := (HO1.out.cell (p := ⟨B, o + 1, none⟩) hB (fun h => h)).trans HC1.out
  clear ho
  obtain ⟨w2, cap, hcv, hby, ho2⟩ := bytes_made w1 s1
  obtain ⟨g, hg⟩ : ∃ g, w1.heap.size = g := ⟨_, rfl⟩
  rw [hg] at hcv hby
  have HBY := hide hby
  have HG := hide hg
  have HO2 := hide (o2 HO1.out ho2)
  have HP2 := hide (HP1.out.more ho2)
  have HQ2 := hide (HQ1.out.more ho2)
  have HW1 := hide HP1.out.lt
  clear hby hg ho2
  go_wp2_with fail
  have q := HLY.out w2 g cap HBY.out
  rw [bl_len] at q
  refine q.mono ?_
  clear q
  rintro e w3 ⟨rfl, hby3, ho3⟩
  have HBY3 := hide hby3
  have HO3 : Hid (Only (fun _ => False) w w3) := HO2.out.trans ho3 (fun i hi e => by have := HG.out; have := HO1.out.size; omega)
  have HP3 : Hid (Pag w3 (w.heap.size + 1) (.int .i64 0) (.int .i64 0) (.int .i64 0) (.int .i64 0) (.string ⟨#[]⟩) (.slice none 0 0)) := HP2.out.kept ho3 (by have := HG.out; have := HW1.out; omega)
  have HQ3 : Hid (Pag w3 w.heap.size (.int .i64 a) (.int .i64 1) (.int .i64 0) (.int .i64 0) (.string ⟨#[]⟩) (.slice (some ⟨B, o, none⟩) 2 cp)) := HQ2.out.kept ho3 (by have := HG.out; have := HW1.out; omega)
  clear hby3 ho3 c5 d1 hcv
  have hcb := HBY3.out.back (cp := cap)
  rw [HTL.out] at hcb
  obtain ⟨r0, r1, r2, r3, r4, r5, _, _, _, _, _, _, _⟩ := HQ3.out
  go_wp2_with fail
  refine (HW.out w3 HO3.out).mono ?_
  rintro e w4 H4
  obtain ⟨B4, ao4, cp4, rfl, hS4, hF4, ho4, hB4⟩ := H4.2 HFIT.out
  have HS4 := hide hS4
  have HF4 := hide hF4
  have HB4 : Hid (w.heap.size + 1 < B4) := by
    have := hB4 (by simp)
    have := HP3.out.lt
    unfold Hid
    omega
  have HO4 := hide (o2 HO3.out ho4)
  have HP4 := hide (HP3.out.more ho4)
  clear hS4 hF4 hB4 ho4 H4 hcb r0 r1 r2 r3 r4 r5
  obtain ⟨q0, q1, q2, q3, q4, q5, t0, t1, t2, t3, t4, t5, tl⟩ := HP4.out
  simp only [List.set_cons_succ, List.set_cons_zero, List.length_cons, List.length_nil, Nat.zero_add, Nat.reduceAdd] at HS4 HF4 ⊢
  go_wp2_with fail
  refine bodyPost_ret (results_page rfl rfl (Pag.six HP4.out _ _ _ _ _ _)) rfl ?_
  exact res_end (by omega) ⟨a, 1, 0, 0, ⟨#[]⟩, [s0, str T]⟩ HS4.out HF4.out HO4.out (fun _ => HB4.out) 0 _ _ _ _ _ _
theorem cset_any (w : World) (m a k v r x : Int) (h : ByteArray) (cp B : Nat) (ao : Option Addr) (l : List ByteArray) (s : Nat) (hm : I64 m) (hx : I64 x) (hS : Strs w B ao l) (hs : s < 256) :
    Calls Tryz.prog 17 #[.int .i64 m, .agg #[.int .i64 a, .int .i64 k, .int .i64 v, .int .i64 r, .string h, .slice ao l.length cp], .int .i64 x, .int .u8 (s : Int)] w fun e w' => Res w w' e (setR m ⟨a, k, v, r, h, l⟩ x s) (setC m ⟨a, k, v, r, h, l⟩ x s) := by
  by_cases hc : setC m ⟨a, k, v, r, h, l⟩ x s = 0
  · have h4 : s < 4 ∧ cid m ⟨a, k, v, r, h, l⟩ x = 0 := by
      unfold setC at hc
      split at hc
      · rename_i h1
        split at hc
        · exact ⟨by omega, h1⟩
        · omega
      · rename_i h1
        exact absurd hc h1
    obtain ⟨hI, hO⟩ := cid_zero h4.2
    unfold setR
    rw [if_pos hc, hc]
    clear hc
    have h1 := hO.kind
    have h2 := hO.level
    have h3 := hO.right
    have h4' := hO.high
    simp only at h1 h2 h3 h4'
    subst h1 h2 h3 h4'
    obtain ⟨s0, s1, rfl⟩ := two_of hO.two
    exact cset_ok w m a x cp B ao s0 s1 s hS hO hI h4.1
  · unfold setR
    rw [if_neg hc]
    exact cset_err w m a k v r x h cp B ao l s hm hx hS hs hc
end Go.Proofs.YtphofhicehncgaaGreat


namespace Go.Proofs.YtphofhicehncgaaGreat
open Go.RowKit

/-- Two texts in a new block. -/
theorem Strs.two (w : World) (s t : ByteArray) (hs : s.size ≤ 140737488355328) (ht : t.size ≤ 140737488355328) : Strs (w.alloc (.cells #[.string s, .string t] 9)) w.heap.size (some ⟨w.heap.size, 0, none⟩) [s, t] :=
  ⟨fun _ => ⟨0, rfl, fun j hj => by
    have hj2 : j = 0 ∨ j = 1 := by simp at hj; omega
    rcases hj2 with rfl | rfl <;> simp⟩, fun _ => by simp, by simp, fun u hu => by
    simp at hu
    rcases hu with rfl | rfl
    · exact hs
    · exact ht⟩
theorem Pag.zero (w : World) : Pag (w.alloc (.cells #[.int .i64 0, .int .i64 0, .int .i64 0, .int .i64 0, .string ⟨#[]⟩, .slice none 0 0] 25)) w.heap.size (.int .i64 0) (.int .i64 0) (.int .i64 0) (.int .i64 0) (.string ⟨#[]⟩) (.slice none 0 0) := Pag.new w _ _ _ _ _ _
/-- What Blank answers. -/
def blankC (m f : Int) : Int := if Idd m f then 0 else 1
def blankR (m f : Int) : Pg := if Idd m f then blankP m f else .none
end Go.Proofs.YtphofhicehncgaaGreat

namespace Go.Proofs.YtphofhicehncgaaGreat
open Go.RowKit

theorem gap_step {m x y : Int} (hx : Idd m x) (hy : Idd m y) (h : ¬ x = y) : xgap m (xadd m x 1) y = xgap m x y - 1 ∧ 1 ≤ xgap m x y := by
  have h1 := xadd_id (n := 1) hx
  have hm := hx.1.1
  have b1 := hx.2
  have b2 := hy.2
  rw [ring_gap h1 hy, ring_gap hx hy, ring_on hx (by omega) (by omega)]
  split <;> split <;> split <;> omega
theorem gap_zero {m x y : Int} (hx : Idd m x) (hy : Idd m y) (h : x = y) : xgap m x y = 0 := by
  have b1 := hx.2
  have b2 := hy.2
  rw [ring_gap hx hy]
  split <;> omega
/-- The loop of Cut: at x, n more to go, so that what is there becomes F. -/
structure CutS (m y : Int) (F : List UInt8) (len : Nat) (g : Nat) (w0 wr : World) (x : Int) (l : List UInt8) : Prop where
  id : Idd m x
  by_ : Byt wr g l
  only : Only (fun k => k = g) w0 wr
  len : l.length = len
  clr : clr m (xgap m x y).toNat x l = F
theorem CutS.last {m y : Int} {F : List UInt8} {len g : Nat} {w0 wr : World} {x : Int} {l : List UInt8} (h : CutS m y F len g w0 wr x l) (hy : Idd m y) (e : x = y) : l = F := by
  have := h.clr
  rw [gap_zero h.id hy e] at this
  exact this
theorem CutS.next {m y : Int} {F : List UInt8} {len g : Nat} {w0 wr w1 : World} {x : Int} {l : List UInt8} (h : CutS m y F len g w0 wr x l) (hy : Idd m y) (e : ¬ x = y) (hb : Byt w1 g (stSet l (x - 1).toNat 0)) (ho : Only (fun k => k = g) wr w1) :
    CutS m y F len g w0 w1 (xadd m x 1) (stSet l (x - 1).toNat 0) := by
  obtain ⟨e1, e2⟩ := gap_step h.id hy e
  refine ⟨xadd_id h.id, hb, h.only.trans ho (fun _ _ q => q), by rw [stSet_len]; exact h.len, ?_⟩
  have hc := h.clr
  rw [show (xgap m x y).toNat = (xgap m (xadd m x 1) y).toNat + 1 by omega, _root_.Go.Proofs.YtphofhicehncgaaGreat.clr] at hc
  exact hc
/-- Behind Cut's last but one statement. -/
structure CutA (w wc : World) (a : Int) (g2 : Nat) (S T : ByteArray) : Prop where
  one : Pag wc w.heap.size (.int .i64 a) (.int .i64 1) (.int .i64 0) (.int .i64 0) (.string ⟨#[]⟩) (.slice (some ⟨g2, 0, none⟩) 2 2)
  two : Pag wc (w.heap.size + 1) (.int .i64 0) (.int .i64 0) (.int .i64 0) (.int .i64 0) (.string ⟨#[]⟩) (.slice none 0 0)
  strs : Strs wc g2 (some ⟨g2, 0, none⟩) [S, T]
  only : Only (fun _ => False) w wc
  new : w.heap.size + 1 < g2
theorem CutA.of {w w9 : World} {a : Int} {v : Value} {S T : ByteArray} (h1 : Pag w9 w.heap.size (.int .i64 a) (.int .i64 1) (.int .i64 0) (.int .i64 0) (.string ⟨#[]⟩) v)
    (h2 : Pag w9 (w.heap.size + 1) (.int .i64 0) (.int .i64 0) (.int .i64 0) (.int .i64 0) (.string ⟨#[]⟩) (.slice none 0 0)) (ho : Only (fun _ => False) w w9) (hs : S.size ≤ 140737488355328) (ht : T.size ≤ 140737488355328) :
    CutA w ((w9.setCell ⟨w.heap.size, 5, none⟩ (.slice (some ⟨w9.heap.size, 0, none⟩) 2 2)).alloc (.cells #[.string S, .string T] 9)) a w9.heap.size S T := by
  have ho1 : Only (fun k => k = w.heap.size) w9 (w9.setCell ⟨w.heap.size, 5, none⟩ (.slice (some ⟨w9.heap.size, 0, none⟩) 2 2)) := Only.setCell w9 ⟨w.heap.size, 5, none⟩ _ rfl
  have hsz : (w9.setCell ⟨w.heap.size, 5, none⟩ (.slice (some ⟨w9.heap.size, 0, none⟩) 2 2)).heap.size = w9.heap.size := by simp
  have hS := Strs.two (w9.setCell ⟨w.heap.size, 5, none⟩ (.slice (some ⟨w9.heap.size, 0, none⟩) 2 2)) S T hs ht
  rw [hsz] at hS
  exact ⟨(h1.set5 _).more (onlyA _ _), (h2.kept ho1 (by omega)).more (onlyA _ _), hS, o2 (ho.trans ho1 (fun i hi e => by omega)) (onlyA _ _), h2.lt⟩
/-- What Cut answers. -/
noncomputable def cutR (m : Int) (p : Pg) (y : Int) : Pg := if cid m p y = 0 then cutP m p y else .none
set_option maxRecDepth 100000 in
set_option maxHeartbeats 800000 in
theorem ccut_err (w : World) (m a k v r x : Int) (h : ByteArray) (cp B : Nat) (ao : Option Addr) (l : List ByteArray) (hm : I64 m) (hx : I64 x) (hS : Strs w B ao l) (hc : ¬ cid m ⟨a, k, v, r, h, l⟩ x = 0) :
    Calls Tryz.prog 26 #[.int .i64 m, .agg #[.int .i64 a, .int .i64 k, .int .i64 v, .int .i64 r, .string h, .slice ao l.length cp], .int .i64 x] w fun e w' => Res w w' e .none (cid m ⟨a, k, v, r, h, l⟩ x) := by
  have HC := hide (fun W (ho : Only (fun _ => False) w W) => checkWithID_any W m a k v r x h cp B ao l hm hx (hS.more ho))
  have HO := hide (boxes_only w a k v r h (.slice ao l.length cp))
  have HP := hide (boxes_two w a k v r h (.slice ao l.length cp))
  unfold boxes at HO HP
  have hcb := cid_bd m ⟨a, k, v, r, h, l⟩ x
  obtain ⟨C, hC⟩ : ∃ C, cid m ⟨a, k, v, r, h, l⟩ x = C := ⟨_, rfl⟩
  rw [hC] at hcb hc
  simp only [hC] at HC
  rw [hC]
  have hx1 := hx.1
  have hx2 := hx.2
  have hne : (C != 0) = true := by simp [hc]
  clear hC hm hx hS hc
  go_enter Tryz.func26, Tryz.ntmps26
  go_wp2_with fail
  refine (HC.out _ HO.out).mono ?_
  rintro e w1 ⟨rfl, ho⟩
  have HO1 := hide (o2 HO.out ho)
  have HP1 := hide (HP.out.more ho)
  obtain ⟨q0, q1, q2, q3, q4, q5, t0, t1, t2, t3, t4, t5, tl⟩ := HP.out.more ho
  clear ho
  go_wp2_with fail
  refine bodyPost_ret (results_page rfl rfl (Pag.six HP1.out _ _ _ _ _ _)) rfl ?_
  exact res_none (by omega) HO1.out C _ _ _ _ _ _
set_option maxRecDepth 100000 in
set_option maxHeartbeats 1600000 in
theorem ccut_ok (w : World) (m a y : Int) (cp B : Nat) (ao : Option Addr) (s0 s1 : ByteArray) (hS : Strs w B ao [s0, s1]) (hO : OkP m ⟨a, 1, 0, 0, ⟨#[]⟩, [s0, s1]⟩) (hI : Idd m y) :
    Calls Tryz.prog 26 #[.int .i64 m, .agg #[.int .i64 a, .int .i64 1, .int .i64 0, .int .i64 0, .string ⟨#[]⟩, .slice ao 2 cp], .int .i64 y] w fun e w' => Res w w' e ⟨a, 1, 0, 0, ⟨#[]⟩, [str (sev y.toNat), str (clr m (xgap m (lim m s0) y).toNat (lim m s0) (bl s1))]⟩ 0 := by
  have hm : I64 m := ⟨by have := hI.1.1; omega, by have := hI.1.2.1; omega⟩
  have hx : I64 y := ⟨by have := hI.2; omega, by have := hI.2; have := hI.1.2.1; omega⟩
  have HC := hide (fun W (ho : Only (fun _ => False) w W) => checkWithID_any W m a 1 0 0 y ⟨#[]⟩ cp B ao [s0, s1] hm hx (hS.more ho))
  simp only [cid_ok hI hO] at HC
  have HO := hide (boxes_only w a 1 0 0 ⟨#[]⟩ (.slice ao 2 cp))
  have HP := hide (boxes_two w a 1 0 0 ⟨#[]⟩ (.slice ao 2 cp))
  have HQ := hide (boxes_one w a 1 0 0 ⟨#[]⟩ (.slice ao 2 cp))
  unfold boxes at HO HP HQ
  have hnb := nb_bd hI.1
  have hsz : s1.size = nb m := hO.size
  have hf : Idd m (lim m s0) := hO.idd hI.1
  have HLM := hide (fun W => readLimit_any m s0 W (by have := hI.1.1; omega))
  have HLL := hide (fun W => laidLimit_any y W (by have := hI.2; omega) (by have := hI.2; have := hI.1.2.1; omega))
  have HADD := hide (fun W x (h : Idd m x) => add_any m x 1 W hm ⟨by have := h.2; omega, by have := h.2; have := h.1.2.1; omega⟩ ⟨by omega, by omega⟩)
  have HLAY := hide (fun (W : World) (g cap : Nat) (x : Int) (l : List UInt8) (hB : Byt W g l) (hx : Idd m x) (hl : l.length = s1.size) => lay_any W g cap l x 0 hB hx.2.1 (by have := hx.2; have := hx.1.2.1; omega) (by have := hx.2; omega) (by omega))
  have hse : (str (sev y.toNat)).size ≤ 140737488355328 := by
    have : (sev y.toNat).length ≤ 10 := sevF_len 9 _
    rw [str_size]; omega
  obtain ⟨S, hSS⟩ : ∃ S, str (sev y.toNat) = S := ⟨_, rfl⟩
  rw [hSS] at hse
  simp only [hSS] at HLL
  rw [hSS]
  have HSE := hide hse
  obtain ⟨f, hff⟩ : ∃ f, lim m s0 = f := ⟨_, rfl⟩
  rw [hff] at hf
  simp only [hff] at HLM
  rw [hff]
  obtain ⟨F, hF⟩ : ∃ F, clr m (xgap m f y).toNat f (bl s1) = F := ⟨_, rfl⟩
  have HFL : Hid (F.length = s1.size) := by unfold Hid; rw [← hF, clr_len, bl_len]
  have HTE : Hid ((str F).size ≤ 140737488355328) := by unfold Hid; rw [str_size, HFL.out]; omega
  rw [hF]
  obtain ⟨T, hT⟩ : ∃ T, str F = T := ⟨_, rfl⟩
  rw [hT] at HTE ⊢
  have HT := hide hT
  have HF := hide hF
  have HFI := hide hf
  have HI := hide hI
  have hf1 := hf.2.1
  have hf2 := hf.2.2
  have hm2 := hI.1.2.1
  obtain ⟨o, rfl, hc⟩ := hS.at_ (by simp)
  have hB := hS.lt (by simp)
  have hc0 := hc 0 (by simp)
  have hc1 := hc 1 (by simp)
  simp only [List.getElem_cons_zero, List.getElem_cons_succ, Nat.add_zero] at hc0 hc1
  have HC0 := hide hc0
  have HC1 := hide hc1
  have hx1 := hx.1
  have hx2 := hx.2
  clear hc hc0 hc1 hS hO hI hm hx hT hF hnb hsz hf hse hff hSS
  simp only [List.length_cons, List.length_nil, Nat.zero_add, Nat.reduceAdd] at HC
  go_enter Tryz.func26, Tryz.ntmps26
  go_wp2_with fail
  refine (HC.out _ HO.out).mono ?_
  rintro e w1 ⟨rfl, ho⟩
  have HO1 := hide (o2 HO.out ho)
  have HP1 := hide (HP.out.more ho)
  have HQ1 := hide (HQ.out.more ho)
  have c5 := HQ1.out.c5
  have d1 := (HO1.out.cell (p := ⟨B, o + 1, none⟩) hB (fun h => h)).trans HC1.out
  clear ho
  obtain ⟨w2, cap, hcv, hby, ho2⟩ := bytes_made w1 s1
  obtain ⟨g, hg⟩ : ∃ g, w1.heap.size = g := ⟨_, rfl⟩
  rw [hg] at hcv hby
  have HBY := hide hby
  have HG : Hid (w.heap.size + 1 < g) := by unfold Hid; have := HP1.out.lt; omega
  have HO2 := hide (o2 HO1.out ho2)
  have HP2 := hide (HP1.out.more ho2)
  have HQ2 := hide (HQ1.out.more ho2)
  clear hby hg ho2
  go_upto_region 5 with fail
  clear c5 d1 hcv
  have c5 := HQ2.out.c5
  have d0 := (HO2.out.cell (p := ⟨B, o, none⟩) hB (fun h => h)).trans HC0.out
  go_wp2_with fail
  refine (HLM.out _).mono ?_
  rintro e w3 ⟨rfl, ho3⟩
  have HBY3 := hide (HBY.out.kept ho3 (fun h => h))
  have HO3 := hide (o2 HO2.out ho3)
  have HP3 := hide (HP2.out.more ho3)
  have HQ3 := hide (HQ2.out.more ho3)
  clear ho3 c5 d0
  go_wp2_with fail
  go_loopw [10] (fun t wr => ∃ (x : Int) (l : List UInt8), t = .int .i64 x ∧ 1 ≤ x ∧ x ≤ m ∧ Hid (CutS m y F s1.size g w3 wr x l)) (fun t _ => (xgap m (intOf t) y).toNat)
  case atStart => exact ⟨f, bl s1, rfl, hf1, hf2, HFI.out, HBY3.out, Only.refl _ _, bl_len _, HF.out⟩
  case round =>
    obtain ⟨x, l, rfl, hx1, hx2, HS⟩ := hrel
    by_cases hxy : x = y
    · have hl : l = F := HS.out.last HI.out hxy
      have HON := hide HS.out.only
      have HBF : Hid (Byt wr g F) := by have := HS.out.by_; rw [hl] at this; exact this
      clear HS hl
      have HO4 : Hid (Only (fun _ => False) w wr) := HO3.out.trans HON.out (fun i hi e => by have := HG.out; omega)
      have HP4 : Hid (Pag wr (w.heap.size + 1) (.int .i64 0) (.int .i64 0) (.int .i64 0) (.int .i64 0) (.string ⟨#[]⟩) (.slice none 0 0)) := HP3.out.kept HON.out (by have := HG.out; omega)
      have HQ4 : Hid (Pag wr w.heap.size (.int .i64 a) (.int .i64 1) (.int .i64 0) (.int .i64 0) (.string ⟨#[]⟩) (.slice (some ⟨B, o, none⟩) 2 cp)) := HQ3.out.kept HON.out (by have := HG.out; omega)
      have HCV : Hid (∀ W, Only (fun _ => False) wr W → (convert 75 9 (.slice (some ⟨g, 0, none⟩) s1.size cap)).run Tryz.prog W = .ok (.string T) W) := by
        intro W ho
        have := (HBF.out.kept ho (fun h => h)).back (cp := cap)
        rw [HFL.out, HT.out] at this
        exact this
      have HK : Hid (∀ W, Only (fun _ => False) wr W → Calls Tryz.prog 52 #[.int .i64 y] W fun e w' => e = .returned (.string S) ∧ (convert 75 9 (.slice (some ⟨g, 0, none⟩) s1.size cap)).run Tryz.prog w' = .ok (.string T) w' ∧ w'.cell? ⟨w.heap.size, 5, none⟩ = some (.slice (some ⟨B, o, none⟩) 2 cp) ∧ w'.frozen? ⟨w.heap.size, 5, none⟩ = false ∧ w.heap.size < w'.heap.size ∧ Hid (Only (fun _ => False) wr w')) := by
        intro W ho
        refine (HLL.out W).mono ?_
        rintro e w' ⟨rfl, ho'⟩
        have hq := HQ4.out.more (o2 ho ho')
        exact ⟨rfl, HCV.out _ (o2 ho ho'), hq.c5, hq.f5, hq.lt, o2 ho ho'⟩
      subst hxy
      have hcv0 := HCV.out _ (Only.drew _ wr)
      have e5 := HQ4.out.c5
      have f5 := HQ4.out.f5
      go_upto_region 9 with fail
      go_cut [43] (fun t wc => ∃ g2, t = .slice (some ⟨g2, 0, none⟩) 2 2 ∧ Hid (CutA w wc a g2 S T))
      case first =>
        go_region_with (
          go_at_call 52
          refine (HK.out _ (Only.drew _ _)).mono ?_
          rintro e w9 ⟨rfl, hcv9, p5, g5, hlt9, HX9⟩)
        all_goals (go_wp2_with fail; go_meet; exact ⟨_, rfl, CutA.of (HQ4.out.more HX9.out) (HP4.out.more HX9.out) (o2 HO4.out HX9.out) HSE.out HTE.out⟩)
      case rest =>
        obtain ⟨g2, rfl, HA⟩ := hcut
        obtain ⟨p0, p1, p2, p3, p4, p5, g0, g1, g2', g3, g4, g5, gl⟩ := HA.out.one
        obtain ⟨q0, q1, q2, q3, q4, q5, t0, t1, t2, t3, t4, t5, tl⟩ := HA.out.two
        go_wp2_with fail
        refine bodyPost_ret (results_page rfl rfl (Pag.six HA.out.two _ _ _ _ _ _)) rfl ?_
        exact res_end (cp := 2) (by omega) ⟨a, 1, 0, 0, ⟨#[]⟩, [S, T]⟩ HA.out.strs ⟨(fun h => by cases h), Nat.le_refl _, (by unfold maxLen; omega)⟩ HA.out.only (fun _ => HA.out.new) 0 _ _ _ _ _ _
    · have q := HLAY.out wr g cap x l HS.out.by_ HS.out.id HS.out.len
      rw [HS.out.len] at q
      have HAD := hide (fun W => HADD.out W x HS.out.id)
      have HSTEP := hide (gap_step HS.out.id HI.out hxy)
      have HNX := hide (fun w5 hb ho => HS.out.next (w1 := w5) HI.out hxy hb ho)
      have hid := (xadd_id (n := 1) HS.out.id).2
      obtain ⟨x', hx'⟩ : ∃ x', xadd m x 1 = x' := ⟨_, rfl⟩
      simp only [hx'] at HAD HNX HSTEP hid
      clear hx' HS
      go_wp2_with fail
      refine q.mono ?_
      clear q
      rintro e w5 ⟨rfl, hb5, ho5⟩
      have HN := hide (HNX.out w5 hb5 ho5)
      clear hb5 ho5
      go_wp2_with fail
      refine (HAD.out _).mono ?_
      rintro e w6 ⟨rfl, hw⟩
      obtain rfl := hw.symm
      clear hw
      go_wp2_with fail
      go_roundw
      case rel => exact ⟨x', _, rfl, hid.1, hid.2, HN⟩
      case measure =>
        have := HSTEP.out
        simp only [intOf]
        omega
theorem ccut_any (w : World) (m a k v r x : Int) (h : ByteArray) (cp B : Nat) (ao : Option Addr) (l : List ByteArray) (hm : I64 m) (hx : I64 x) (hS : Strs w B ao l) :
    Calls Tryz.prog 26 #[.int .i64 m, .agg #[.int .i64 a, .int .i64 k, .int .i64 v, .int .i64 r, .string h, .slice ao l.length cp], .int .i64 x] w fun e w' => Res w w' e (cutR m ⟨a, k, v, r, h, l⟩ x) (cid m ⟨a, k, v, r, h, l⟩ x) := by
  by_cases hc : cid m ⟨a, k, v, r, h, l⟩ x = 0
  · obtain ⟨hI, hO⟩ := cid_zero hc
    unfold cutR
    rw [if_pos hc, hc]
    clear hc
    have h1 := hO.kind
    have h2 := hO.level
    have h3 := hO.right
    have h4' := hO.high
    simp only at h1 h2 h3 h4'
    subst h1 h2 h3 h4'
    obtain ⟨s0, s1, rfl⟩ := two_of hO.two
    exact ccut_ok w m a x cp B ao s0 s1 hS hO hI
  · unfold cutR
    rw [if_neg hc]
    exact ccut_err w m a k v r x h cp B ao l hm hx hS hc
end Go.Proofs.YtphofhicehncgaaGreat
