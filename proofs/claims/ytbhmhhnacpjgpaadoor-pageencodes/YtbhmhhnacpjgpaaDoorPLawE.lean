/- Walk of PageEncodes. -/
import Derived.Test.YtbhmhhnacpjgpaaDoorPRefE
import Derived.Test.YtbhmhhnacpjgpaaDoorPLent
import Derived.Test.YtbhmhhnacpjgpaaDoorPAwake
import Derived.Test.YtbhmhhnacpjgpaaDoorPOpen
namespace Go.Proofs.YtbhmhhnacpjgpaaDoor
open Go.RowKit

set_option maxRecDepth 100000 in
set_option maxHeartbeats 1600000 in
theorem encodes_law (w : World) (a k v r : Int) (h : ByteArray) (B cp : Nat) (ao : Option Addr) (l : List ByteArray) (hS : Strs w B ao l) (hF : Fit ao l.length cp) (hl : l.length ≤ 8796093021952) (hh : h.size ≤ 140737488355328) (ha : a < 9223372036854775808) :
    Calls Tryd.prog 3 #[.agg #[.int .i64 a, .int .i64 k, .int .i64 v, .int .i64 r, .string h, .slice ao l.length cp]] w fun e w' => e = .returned (.bool true) ∧ Only (fun _ => False) w w' := by
  obtain ⟨W0, hW0⟩ : ∃ W0, w.alloc (.cells #[.int .i64 a, .int .i64 k, .int .i64 v, .int .i64 r, .string h, .slice ao l.length cp] 24) = W0 := ⟨_, rfl⟩
  have HP := hide (Pag.new w (.int .i64 a) (.int .i64 k) (.int .i64 v) (.int .i64 r) (.string h) (.slice ao l.length cp))
  have HO0 := hide (onlyA w (.cells #[.int .i64 a, .int .i64 k, .int .i64 v, .int .i64 r, .string h, .slice ao l.length cp] 24))
  rw [hW0] at HP HO0
  have HW0 := hide hW0
  have HS := hide (hS.more HO0.out)
  have HF := hide hF
  have HSW := hide hS
  clear hW0 hS hF
  obtain ⟨p0, p1, p2, p3, p4, p5, _⟩ := HP.out
  go_enter Tryd.func3, Tryd.ntmps3
  go_upto_region 1 with fail
  rw [HW0.out]
  go_wp2_with fail
  refine (plent_any W0 a k v r h B cp ao l HS.out HF.out hl).mono ?_
  rintro e w1 ⟨g, cap, rfl, hL⟩
  have HL := hide hL
  have HP1 := hide (HP.out.more hL.only)
  have HS1 := hide (HS.out.more hL.only)
  clear hL p0 p1 p2 p3 p4 p5
  go_upto_region 2 with fail
  obtain ⟨W1, hW1⟩ : ∃ W1, w1.alloc (.cells #[.int .i64 a, .int .i64 k, .int .i64 v, .int .i64 r, .string h, .slice (some ⟨g, 0, none⟩) l.length cap] 24) = W1 := ⟨_, rfl⟩
  have HQ1 := hide (Pag.new w1 (.int .i64 a) (.int .i64 k) (.int .i64 v) (.int .i64 r) (.string h) (.slice (some ⟨g, 0, none⟩) l.length cap))
  have HOB := hide (onlyA w1 (.cells #[.int .i64 a, .int .i64 k, .int .i64 v, .int .i64 r, .string h, .slice (some ⟨g, 0, none⟩) l.length cap] 24))
  rw [hW1] at HQ1 HOB ⊢
  clear hW1
  have HLW := hide (HL.out.more HOB.out)
  have hlo := HL.out.lo
  have HSW1 := hide (HS1.out.more HOB.out)
  have HPW := hide (HP1.out.more HOB.out)
  have HOW := hide (o2 (o2 HO0.out HL.out.only) HOB.out)
  obtain ⟨q0, q1, q2, q3, q4, q5, _⟩ := HQ1.out
  obtain ⟨E, hE⟩ : ∃ E, str (Pg.out ⟨a, k, v, r, h, l⟩).1 = E := ⟨_, rfl⟩
  obtain ⟨c, hc⟩ : ∃ c, (Pg.out ⟨a, k, v, r, h, l⟩).2 = c := ⟨_, rfl⟩
  have e1 := pencode_any W1 a k v r h g cap (some ⟨g, 0, none⟩) l (HLW.out.strs (by omega) HS.out.size) hh ha
  rw [hE, hc] at e1
  go_wp2_with fail
  refine Calls.mono e1 ?_
  clear e1
  rintro e w2 ⟨rfl, ho2⟩
  have HO2 := hide ho2
  obtain ⟨p0, p1, p2, p3, p4, p5, _⟩ := HPW.out.more ho2
  clear ho2 q0 q1 q2 q3 q4 q5
  go_wp2_with fail
  have e2 := yencode_any w2 a k v r h B cp ao l (HSW1.out.more HO2.out) hh ha
  rw [hE, hc] at e2
  refine Calls.mono e2 ?_
  clear e2 hE hc
  rintro e w3 ⟨rfl, ho3⟩
  have HO3 := hide (o2 HO2.out ho3)
  clear ho3 p0 p1 p2 p3 p4 p5
  go_wp2_with fail
  refine (awake_any w3).mono ?_
  rintro e w4 ⟨rfl, ho4⟩
  have HO4 := hide (o2 HO3.out ho4)
  clear ho4
  obtain ⟨p0, p1, p2, p3, p4, p5, _⟩ := HPW.out.more HO4.out
  obtain ⟨q0, q1, q2, q3, q4, q5, _⟩ := HQ1.out.more HO4.out
  go_wp2_with fail
  refine (pkept_any W0 w4 a k v r h B cp g cap ao l (HLW.out.more HO4.out) (HSW1.out.more HO4.out) (fun h0 e => ?_) hl).mono ?_
  · have := HS.out.lt h0
    omega
  rintro e w5 ⟨rfl, ho5⟩
  have HO5 : Hid (Only (fun _ => False) w w5) := (o2 HOW.out HO4.out).trans ho5 (fun i hi e => by have := HO0.out.size; omega)
  clear ho5 p0 p1 p2 p3 p4 p5 q0 q1 q2 q3 q4 q5
  go_wp2_with fail
  go_ret
  exact ⟨ret_bool (by simp), HO5.out⟩
end Go.Proofs.YtbhmhhnacpjgpaaDoor
