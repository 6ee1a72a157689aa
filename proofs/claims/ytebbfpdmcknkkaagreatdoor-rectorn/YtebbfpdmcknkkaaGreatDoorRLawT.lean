/- Walk of RecThere. -/
import Derived.Test.YtebbfpdmcknkkaaGreatDoorRAwake
namespace Go.Proofs.YtebbfpdmcknkkaaGreatDoor
open Go.RowKit

section
variable {ops : Array Oper} {rest : List Oper} {o : Oper} {a : Act} {w : World} {Q : Exit → Act → World → Prop}
theorem wpList_loadg_rec (hw : Region.wanted o (yielded ops a.tmps) = true) (x : Operand) (hop : o.op = .load 28 x) (b : Nat) (hx : a.eval x = .pointer (some ⟨b, 0, none⟩)) (r : Rc) (L : Loc) (hc : w.rangeAt b 0 (r.cl L))
    (h : wpList Tryz.prog ops Q rest (a.put o.dst (.agg (r.cells L))) w) : wpList Tryz.prog ops Q (o :: rest) a w :=
  BigFrame.wpList_want hw fun _ hK => wp_load_mid 28 x hop b 0 hx (r.cl L) _ hc Tryz.underlying28 rfl Tryz.sizeRec (hK _ _ h)
end
set_option maxRecDepth 100000 in
set_option maxHeartbeats 3200000 in
theorem there_law (w : World) (d : ByteArray) (hS : d.size ≤ maxLen) : Calls Tryz.prog 6 #[.string d] w fun e w' => e = .returned (.bool true) ∧ Only (fun _ => False) w w' := by
  have HMX := hide hS
  unfold maxLen at hS
  go_enter Tryz.func6, Tryz.ntmps6
  go_wp2_with fail
  refine (rdecode_any w d HMX.out).mono ?_
  rintro e w1 hq
  obtain ⟨r, n, c, L, hd, hat, rfl⟩ := hq.ex
  have HAT := hide hat
  have HO1 := hide hq.only
  have HNEW := hide (there_new w1 Rc.none Loc.none)
  have HOA := hide (onlyA w1 (.cells (Rc.none.cells Loc.none) 28))
  have hx := dec_there hd
  clear hq hd hat
  go_upto_region 2 with (refine wpList_lay_rec rfl (.tmp 3) (.tmp 11) rfl w1.heap.size rfl r L rfl HNEW.out ?_; intro W2 HW2; go_frame)
  have HO2 := hide ((o2 HO1.out HOA.out).trans HW2.out.only (fun i hi e => by have := HO1.out.size; omega))
  have HK2 : Hid (Only (fun _ => False) w1 W2) := HOA.out.trans HW2.out.only (fun i hi e => by omega)
  rcases hx with ⟨rfl, hv, hls, hn, hle, htk⟩ | ⟨rfl, rfl, hc⟩
  · have HV := hide hv
    have HTK := hide htk
    obtain ⟨E, hE⟩ : ∃ E, str r.enc = E := ⟨_, rfl⟩
    have sE : E.size = r.enc.length := by rw [← hE, str_size]
    have hn2 : n = (E.size : Int) := by omega
    have hle2 : (E.size : Int) ≤ (d.size : Int) := by
      rw [bl_len] at hle
      omega
    have HEX : Hid (d.extract 0 E.size = E) := by
      unfold Hid
      rw [← str_bl (d.extract 0 E.size), ext_bl, List.drop_zero, sE, htk]
      exact hE
    have HE := hide hE
    subst hn2
    clear hv hls hn hle htk hE sE
    go_upto_region 4 with fail
    go_wp2_with (refine wpList_load_rec rfl (.tmp 3) rfl w1.heap.size rfl r L HW2.out.range ?_; go_frame)
    refine (rencode_any W2 r L (HAT.out.go HK2.out)).mono ?_
    rintro e w3 hq
    have he := hq.ok HV.out
    subst he
    rw [HE.out]
    have HO3 := hide (o2 HO2.out hq.only)
    have HK3 := hide (o2 HK2.out hq.only)
    have HRN := hide (range_kept HW2.out.range hq.only (fun h => h))
    have hex := HEX.out
    clear hq
    go_upto_region 5 with fail
    go_wp2_with (refine wpList_loadg_rec rfl (.tmp 3) rfl w1.heap.size rfl r L HRN.out ?_; go_frame)
    refine (rcheck_any w3 r L (HAT.out.go HK3.out)).mono ?_
    rintro e w4 hq
    obtain ⟨o, ho, rfl⟩ := hq.ex
    have h0 := ho.ok HV.out
    subst h0
    have HO4 := hide (o2 HO3.out hq.only)
    clear hq ho
    simp only
    go_wp2_with fail
    refine (rawake_any w4).mono ?_
    rintro e w5 ⟨rfl, ho5⟩
    have HO5 := hide (o2 HO4.out ho5)
    clear ho5
    go_wp2_with fail
    go_ret
    exact ⟨ret_bool (by simp), HO5.out⟩
  · have hc0 : (c != 0) = true := by rcases hc with rfl | rfl | rfl <;> rfl
    rcases hc with rfl | rfl | rfl
    all_goals
      clear hc0
      go_wp2_with fail
      refine (rawake_any W2).mono ?_
      rintro e w5 ⟨rfl, ho5⟩
      have HO5 := hide (o2 HO2.out ho5)
      clear ho5
      go_wp2_with fail
      go_ret
      exact ⟨rfl, HO5.out⟩
end Go.Proofs.YtebbfpdmcknkkaaGreatDoor
