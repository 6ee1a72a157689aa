/- Walk of PageChanges. -/
import Derived.Test.YtbhmhhnacpjgpaaDoorPChg
import Derived.Test.YtbhmhhnacpjgpaaDoorPLent
import Derived.Test.YtbhmhhnacpjgpaaDoorPAwake
import Derived.Test.YtbhmhhnacpjgpaaDoorPOpen
namespace Go.Proofs.YtbhmhhnacpjgpaaDoor
open Go.RowKit

theorem chg_congr {c c' : Prop} {p p' : Pg} (hc : c ↔ c') (hp : p = p') : chg c p = chg c' p' := by rw [propext hc, hp]
/-- What With, Put and Out answer. -/
noncomputable def chW (a k v r : Int) (h : ByteArray) (l : List ByteArray) (i : Int) (it : ByteArray) : Pg × Int := open Classical in
  if 0 ≤ i ∧ i < (l.length : Int) then chg (255 < (l.set i.toNat it).length ∨ 512 < 20 + h.size + isz (l.set i.toNat it)) ⟨a, k, v, r, h, l.set i.toNat it⟩ else (.none, 1)
noncomputable def chP (a k v r : Int) (h : ByteArray) (l : List ByteArray) (i : Int) (it : ByteArray) : Pg × Int := open Classical in
  if 0 ≤ i ∧ i ≤ (l.length : Int) then chg (255 < (l.take i.toNat ++ it :: l.drop i.toNat).length ∨ 512 < 20 + h.size + isz (l.take i.toNat ++ it :: l.drop i.toNat)) ⟨a, k, v, r, h, l.take i.toNat ++ it :: l.drop i.toNat⟩ else (.none, 1)
noncomputable def chO (a k v r : Int) (h : ByteArray) (l : List ByteArray) (i : Int) : Pg × Int := open Classical in
  if 0 ≤ i ∧ i < (l.length : Int) then (⟨a, k, v, r, h, l.take i.toNat ++ l.drop (i.toNat + 1)⟩, 0) else (.none, 1)
theorem set_cut (l : List ByteArray) (i : Nat) (it : ByteArray) (hi : i < l.length) : l.take i ++ [it] ++ l.drop (i + 1) = l.set i it := by
  rw [List.set_eq_take_append_cons_drop, if_pos hi]
  simp
section
variable (w : World) (a k v r : Int) (h : ByteArray) (B cp : Nat) (ao : Option Addr) (l : List ByteArray) (hS : Strs w B ao l) (hF : Fit ao l.length cp) (hh : h.size ≤ 140737488355328) (hlm : l.length ≤ 8796093021952) (i : Int) (it : ByteArray) (hit : it.size ≤ 140737488355328)
include hS hF hh hlm
include hit in
theorem with_res : Calls Tryd.prog 15 #[.agg #[.int .i64 a, .int .i64 k, .int .i64 v, .int .i64 r, .string h, .slice ao l.length cp], .int .i64 i, .string it] w fun e w' => Res w w' e (chW a k v r h l i it).1 (chW a k v r h l i it).2 := by
  have _h1 := hF
  have _h2 := hlm
  unfold chW
  by_cases hi : 0 ≤ i ∧ i < (l.length : Int)
  · rw [if_pos hi]
    obtain ⟨n, rfl⟩ := Int.eq_ofNat_of_zero_le hi.1
    rw [Int.toNat_natCast]
    exact (with_some w a k v r h B cp ao l n it hS hh hit (by omega)).mono fun e w' hx => hx.res
  · rw [if_neg hi]
    exact with_bad w a k v r h cp l.length ao i it hi
include hit in
theorem put_res : Calls Tryd.prog 16 #[.agg #[.int .i64 a, .int .i64 k, .int .i64 v, .int .i64 r, .string h, .slice ao l.length cp], .int .i64 i, .string it] w fun e w' => Res w w' e (chP a k v r h l i it).1 (chP a k v r h l i it).2 := by
  unfold chP
  by_cases hi : 0 ≤ i ∧ i ≤ (l.length : Int)
  · rw [if_pos hi]
    obtain ⟨n, rfl⟩ := Int.eq_ofNat_of_zero_le hi.1
    rw [Int.toNat_natCast]
    exact (put_any w a k v r h B cp ao l n it hS hF hh hit (by omega) hlm).mono fun e w' hx => hx.res
  · rw [if_neg hi]
    exact put_bad w a k v r h cp l.length ao i it hi
theorem out_res : Calls Tryd.prog 17 #[.agg #[.int .i64 a, .int .i64 k, .int .i64 v, .int .i64 r, .string h, .slice ao l.length cp], .int .i64 i] w fun e w' => Res w w' e (chO a k v r h l i).1 (chO a k v r h l i).2 := by
  have _h1 := hh
  have _h2 := hlm
  unfold chO
  by_cases hi : 0 ≤ i ∧ i < (l.length : Int)
  · rw [if_pos hi]
    obtain ⟨n, rfl⟩ := Int.eq_ofNat_of_zero_le hi.1
    rw [Int.toNat_natCast]
    obtain ⟨o, e, _⟩ := hS.at_ (by omega)
    subst e
    exact out_some w a k v r h B B o cp l n hS hF (by omega)
  · rw [if_neg hi]
    exact pout_bad w a k v r h cp l.length ao i hi
include hit in
theorem ywith_res : Calls Tryd.prog 18 #[.agg #[.int .i64 a, .int .i64 k, .int .i64 v, .int .i64 r, .string h, .slice ao l.length cp], .int .i64 i, .string it] w fun e w' => Res w w' e (chW a k v r h l i it).1 (chW a k v r h l i it).2 := by
  unfold chW
  by_cases hi : 0 ≤ i ∧ i < (l.length : Int)
  · rw [if_pos hi]
    obtain ⟨n, rfl⟩ := Int.eq_ofNat_of_zero_le hi.1
    rw [Int.toNat_natCast]
    obtain ⟨o, e, _⟩ := hS.at_ (by omega)
    subst e
    have hx := ywith_some w a k v r h B B o cp l n it hit hS hF hh (by omega) hlm
    rw [set_cut l n it (by omega)] at hx
    rw [chg_congr (c' := 255 < (l.set n it).length ∨ 512 < 20 + h.size + isz (l.set n it)) ⟨fun q => q.2, fun q => ⟨rfl, q⟩⟩ rfl] at hx
    exact hx
  · rw [if_neg hi]
    exact ywith_bad w a k v r h cp l.length ao i it hi
include hit in
theorem yput_res : Calls Tryd.prog 19 #[.agg #[.int .i64 a, .int .i64 k, .int .i64 v, .int .i64 r, .string h, .slice ao l.length cp], .int .i64 i, .string it] w fun e w' => Res w w' e (chP a k v r h l i it).1 (chP a k v r h l i it).2 := by
  unfold chP
  by_cases hi : 0 ≤ i ∧ i ≤ (l.length : Int)
  · rw [if_pos hi]
    obtain ⟨n, rfl⟩ := Int.eq_ofNat_of_zero_le hi.1
    rw [Int.toNat_natCast]
    by_cases h0 : l.length = 0
    · have e : l = [] := List.eq_nil_of_length_eq_zero h0
      subst e
      have e2 : n = 0 := by simp at hi; omega
      subst e2
      have key : ∀ P : Ending → World → Prop, (Calls Tryd.prog 19 #[.agg #[.int .i64 a, .int .i64 k, .int .i64 v, .int .i64 r, .string h, .slice ao 0 cp], .int .i64 0, .string it] w fun e w' => Res w w' e (chg (true = true ∧ (255 < ([] ++ [it] ++ [] : List ByteArray).length ∨ 512 < 20 + h.size + isz ([] ++ [it] ++ []))) ⟨a, k, v, r, h, [] ++ [it] ++ []⟩).1 (chg (true = true ∧ (255 < ([] ++ [it] ++ [] : List ByteArray).length ∨ 512 < 20 + h.size + isz ([] ++ [it] ++ []))) ⟨a, k, v, r, h, [] ++ [it] ++ []⟩).2) := fun _ => by
        cases ao with
        | none =>
          have e3 := hF.nil rfl
          subst e3
          exact yput_none w a k v r h it hit hh
        | some A => exact yput_emp w a k v r h A cp hF.big it hit hh
      have hx := key (fun _ _ => True)
      rw [chg_congr (c' := 255 < ([it] : List ByteArray).length ∨ 512 < 20 + h.size + isz [it]) ⟨fun q => q.2, fun q => ⟨rfl, q⟩⟩ rfl] at hx
      exact hx
    · obtain ⟨o, e, _⟩ := hS.at_ (by omega)
      subst e
      have hx := yput_some w a k v r h B B o cp l n it hit hS hF hh (by omega) hlm
      rw [show l.take n ++ [it] ++ l.drop n = l.take n ++ it :: l.drop n by simp] at hx
      rw [chg_congr (c' := 255 < (l.take n ++ it :: l.drop n).length ∨ 512 < 20 + h.size + isz (l.take n ++ it :: l.drop n)) ⟨fun q => q.2, fun q => ⟨rfl, q⟩⟩ rfl] at hx
      exact hx
  · rw [if_neg hi]
    exact yput_bad w a k v r h cp l.length ao i it hi
theorem yout_res : Calls Tryd.prog 20 #[.agg #[.int .i64 a, .int .i64 k, .int .i64 v, .int .i64 r, .string h, .slice ao l.length cp], .int .i64 i] w fun e w' => Res w w' e (chO a k v r h l i).1 (chO a k v r h l i).2 := by
  unfold chO
  by_cases hi : 0 ≤ i ∧ i < (l.length : Int)
  · rw [if_pos hi]
    obtain ⟨n, rfl⟩ := Int.eq_ofNat_of_zero_le hi.1
    rw [Int.toNat_natCast]
    obtain ⟨o, e, _⟩ := hS.at_ (by omega)
    subst e
    have hx := yout_some w a k v r h B B o cp l n hS hF hh (by omega) hlm
    rw [show l.take n ++ [] ++ l.drop (n + 1) = l.take n ++ l.drop (n + 1) by simp] at hx
    unfold chg at hx
    rw [if_neg (fun q => by cases q.1)] at hx
    exact hx
  · rw [if_neg hi]
    exact yout_bad w a k v r h cp l.length ao i hi
end
/-- A page in a box, with its list. -/
structure Hp (w : World) (b : Nat) (p : Pg) (B : Nat) (ao : Option Addr) (cp : Nat) : Prop where
  pag : Pag w b (.int .i64 p.lsn) (.int .i64 p.kind) (.int .i64 p.level) (.int .i64 p.right) (.string p.high) (.slice ao p.items.length cp)
  strs : Strs w B ao p.items
theorem Hp.more {w w' : World} {b : Nat} {p : Pg} {B : Nat} {ao : Option Addr} {cp : Nat} (h : Hp w b p B ao cp) (ho : Only (fun _ => False) w w') : Hp w' b p B ao cp := ⟨h.pag.more ho, h.strs.more ho⟩
theorem Hp.kept {S : Nat → Prop} {w w' : World} {b : Nat} {p : Pg} {B : Nat} {ao : Option Addr} {cp : Nat} (h : Hp w b p B ao cp) (ho : Only S w w') (h1 : ¬ S b) (h2 : 0 < p.items.length → ¬ S B) : Hp w' b p B ao cp := ⟨h.pag.kept ho h1, h.strs.kept ho h2⟩
theorem Hp.new {x : World} {p : Pg} {B : Nat} {ao : Option Addr} {cp : Nat} (hS : Strs x B ao p.items) : Hp (x.alloc (.cells #[.int .i64 p.lsn, .int .i64 p.kind, .int .i64 p.level, .int .i64 p.right, .string p.high, .slice ao p.items.length cp] 24)) x.heap.size p B ao cp :=
  ⟨Pag.new x _ _ _ _ _ _, hS.more (onlyA _ _)⟩
set_option maxRecDepth 100000 in
set_option maxHeartbeats 3200000 in
theorem changes_law (w : World) (a k v r : Int) (h : ByteArray) (B cp : Nat) (ao : Option Addr) (l : List ByteArray) (hS : Strs w B ao l) (hF : Fit ao l.length cp) (hl : l.length ≤ 8796093021952) (hh : h.size ≤ 140737488355328) (i : Int) (it : ByteArray) (hit : it.size ≤ 140737488355328) :
    Calls Tryd.prog 5 #[.agg #[.int .i64 a, .int .i64 k, .int .i64 v, .int .i64 r, .string h, .slice ao l.length cp], .agg #[.int .i64 i, .string it]] w fun e w' => e = .returned (.bool true) ∧ Only (fun _ => False) w w' := by
  obtain ⟨W0, hW0⟩ : ∃ W0, (w.alloc (.cells #[.int .i64 a, .int .i64 k, .int .i64 v, .int .i64 r, .string h, .slice ao l.length cp] 24)).alloc (.cells #[.int .i64 i, .string it] 37) = W0 := ⟨_, rfl⟩
  have HP := hide ((Pag.new w (.int .i64 a) (.int .i64 k) (.int .i64 v) (.int .i64 r) (.string h) (.slice ao l.length cp)).more (onlyA _ (.cells #[.int .i64 i, .string it] 37)))
  have HO0 := hide (o2 (onlyA w (.cells #[.int .i64 a, .int .i64 k, .int .i64 v, .int .i64 r, .string h, .slice ao l.length cp] 24)) (onlyA _ (.cells #[.int .i64 i, .string it] 37)))
  have hx0 : ((w.alloc (.cells #[.int .i64 a, .int .i64 k, .int .i64 v, .int .i64 r, .string h, .slice ao l.length cp] 24)).alloc (.cells #[.int .i64 i, .string it] 37)).cell? ⟨w.heap.size + 1, 0, none⟩ = some (.int .i64 i) := by simp
  have hx1 : ((w.alloc (.cells #[.int .i64 a, .int .i64 k, .int .i64 v, .int .i64 r, .string h, .slice ao l.length cp] 24)).alloc (.cells #[.int .i64 i, .string it] 37)).cell? ⟨w.heap.size + 1, 1, none⟩ = some (.string it) := by simp
  have hz : ((w.alloc (.cells #[.int .i64 a, .int .i64 k, .int .i64 v, .int .i64 r, .string h, .slice ao l.length cp] 24)).alloc (.cells #[.int .i64 i, .string it] 37)).heap.size = w.heap.size + 1 + 1 := by simp
  rw [hW0] at HP HO0 hx0 hx1 hz
  have HX : Hid (∀ W, Only (fun k => w.heap.size + 1 + 1 ≤ k) W0 W → W.cell? ⟨w.heap.size + 1, 0, none⟩ = some (.int .i64 i) ∧ W.cell? ⟨w.heap.size + 1, 1, none⟩ = some (.string it)) := fun W hW =>
    ⟨(hW.cell (p := ⟨w.heap.size + 1, 0, none⟩) (by simp only; omega) (by simp only; omega)).trans hx0, (hW.cell (p := ⟨w.heap.size + 1, 1, none⟩) (by simp only; omega) (by simp only; omega)).trans hx1⟩
  have HZ := hide hz
  have HW0 := hide hW0
  have HS := hide (hS.more HO0.out)
  have HF := hide hF
  clear hW0 hS hF hx0 hx1 hz
  obtain ⟨p0, p1, p2, p3, p4, p5, _⟩ := HP.out
  go_enter Tryd.func5, Tryd.ntmps5
  go_upto_region 1 with fail
  rw [HW0.out]
  go_wp2_with fail
  refine (plent_any W0 a k v r h B cp ao l HS.out HF.out hl).mono ?_
  rintro e w1 ⟨g, cap, rfl, hL⟩
  have HL := hide hL
  clear hL p0 p1 p2 p3 p4 p5
  go_upto_region 2 with fail
  obtain ⟨W1, hW1⟩ : ∃ W1, w1.alloc (.cells #[.int .i64 a, .int .i64 k, .int .i64 v, .int .i64 r, .string h, .slice (some ⟨g, 0, none⟩) l.length cap] 24) = W1 := ⟨_, rfl⟩
  have HQ := hide (Pag.new w1 (.int .i64 a) (.int .i64 k) (.int .i64 v) (.int .i64 r) (.string h) (.slice (some ⟨g, 0, none⟩) l.length cap))
  have HOB := hide (onlyA w1 (.cells #[.int .i64 a, .int .i64 k, .int .i64 v, .int .i64 r, .string h, .slice (some ⟨g, 0, none⟩) l.length cap] 24))
  rw [hW1] at HQ HOB ⊢
  clear hW1
  have hlo := HL.out.lo
  have HLW := hide (HL.out.more HOB.out)
  have HOW := hide (o2 HL.out.only HOB.out)
  have HGF := hide HL.out.fit
  obtain ⟨PW, hPW⟩ : ∃ P, chW a k v r h l i it = P := ⟨_, rfl⟩
  obtain ⟨PP, hPP⟩ : ∃ P, chP a k v r h l i it = P := ⟨_, rfl⟩
  obtain ⟨PO, hPO⟩ : ∃ P, chO a k v r h l i = P := ⟨_, rfl⟩
  have HPW := hide hPW
  have HPP := hide hPP
  have HPO := hide hPO
  clear hPW hPP hPO
  have HSZ : Hid (w.heap.size + 1 + 1 ≤ g ∧ g < W1.heap.size) := by unfold Hid; have h1 := HZ.out; have h2 := HOB.out.size; omega
  have HO2 := hide (Only.refl (fun _ => False) W1)
  have HOx2 := hide (o2 HOW.out HO2.out)
  obtain ⟨q0, q1, q2, q3, q4, q5, _⟩ := HQ.out.more HO2.out
  obtain ⟨x0, x1⟩ := HX.out _ (only_any HOx2.out)
  have hc2 := with_res W1 a k v r h g cap (some ⟨g, 0, none⟩) l ((HLW.out.more HO2.out).strs (by omega) HS.out.size) HGF.out hh hl i it hit
  rw [HPW.out] at hc2
  go_wp2_with fail
  refine Calls.mono hc2 ?_
  clear hc2
  rintro e y2 ⟨B2, a2, c2, rfl, hS2, hF2, ho2, hn2⟩
  have HSr2 := hide hS2
  have HOy2 := hide ho2
  have HN2 : Hid (0 < PW.1.items.length → B2 ≠ g) := fun h0 => by have h1 := hn2 h0; have h2 := HO2.out.size; have h3 := HSZ.out; omega
  clear hS2 hF2 ho2 hn2 q0 q1 q2 q3 q4 q5 x0 x1
  go_upto_region 3 with fail
  obtain ⟨X2, hX2⟩ : ∃ X, y2.alloc (.cells #[.int .i64 PW.1.lsn, .int .i64 PW.1.kind, .int .i64 PW.1.level, .int .i64 PW.1.right, .string PW.1.high, .slice a2 PW.1.items.length c2] 24) = X := ⟨_, rfl⟩
  have HH2 := hide (Hp.new (cp := c2) HSr2.out)
  have HOa2 := hide (onlyA y2 (.cells #[.int .i64 PW.1.lsn, .int .i64 PW.1.kind, .int .i64 PW.1.level, .int .i64 PW.1.right, .string PW.1.high, .slice a2 PW.1.items.length c2] 24))
  have hbb2 : y2.heap.size ≠ g := by have h1 := HO2.out.size; have h2 := HOy2.out.size; have h3 := HSZ.out; omega
  have HBB2 := hide hbb2
  rw [hX2] at HH2 HOa2 ⊢
  clear hX2 hbb2
  have HO3 := hide (o2 HO2.out (o2 HOy2.out HOa2.out))
  have HOx3 := hide (o2 HOW.out HO3.out)
  obtain ⟨q0, q1, q2, q3, q4, q5, _⟩ := HQ.out.more HO3.out
  obtain ⟨x0, x1⟩ := HX.out _ (only_any HOx3.out)
  have hc3 := put_res X2 a k v r h g cap (some ⟨g, 0, none⟩) l ((HLW.out.more HO3.out).strs (by omega) HS.out.size) HGF.out hh hl i it hit
  rw [HPP.out] at hc3
  go_wp2_with fail
  refine Calls.mono hc3 ?_
  clear hc3
  rintro e y3 ⟨B3, a3, c3, rfl, hS3, hF3, ho3, hn3⟩
  have HSr3 := hide hS3
  have HOy3 := hide ho3
  have HN3 : Hid (0 < PP.1.items.length → B3 ≠ g) := fun h0 => by have h1 := hn3 h0; have h2 := HO3.out.size; have h3 := HSZ.out; omega
  clear hS3 hF3 ho3 hn3 q0 q1 q2 q3 q4 q5 x0 x1
  go_upto_region 4 with fail
  obtain ⟨X3, hX3⟩ : ∃ X, y3.alloc (.cells #[.int .i64 PP.1.lsn, .int .i64 PP.1.kind, .int .i64 PP.1.level, .int .i64 PP.1.right, .string PP.1.high, .slice a3 PP.1.items.length c3] 24) = X := ⟨_, rfl⟩
  have HH3 := hide (Hp.new (cp := c3) HSr3.out)
  have HOa3 := hide (onlyA y3 (.cells #[.int .i64 PP.1.lsn, .int .i64 PP.1.kind, .int .i64 PP.1.level, .int .i64 PP.1.right, .string PP.1.high, .slice a3 PP.1.items.length c3] 24))
  have hbb3 : y3.heap.size ≠ g := by have h1 := HO3.out.size; have h2 := HOy3.out.size; have h3 := HSZ.out; omega
  have HBB3 := hide hbb3
  rw [hX3] at HH3 HOa3 ⊢
  clear hX3 hbb3
  have HO4 := hide (o2 HO3.out (o2 HOy3.out HOa3.out))
  have HOx4 := hide (o2 HOW.out HO4.out)
  obtain ⟨q0, q1, q2, q3, q4, q5, _⟩ := HQ.out.more HO4.out
  obtain ⟨x0, x1⟩ := HX.out _ (only_any HOx4.out)
  have hc4 := out_res X3 a k v r h g cap (some ⟨g, 0, none⟩) l ((HLW.out.more HO4.out).strs (by omega) HS.out.size) HGF.out hh hl i
  rw [HPO.out] at hc4
  go_wp2_with fail
  refine Calls.mono hc4 ?_
  clear hc4
  rintro e y4 ⟨B4, a4, c4, rfl, hS4, hF4, ho4, hn4⟩
  have HSr4 := hide hS4
  have HOy4 := hide ho4
  have HN4 : Hid (0 < PO.1.items.length → B4 ≠ g) := fun h0 => by have h1 := hn4 h0; have h2 := HO4.out.size; have h3 := HSZ.out; omega
  clear hS4 hF4 ho4 hn4 q0 q1 q2 q3 q4 q5 x0 x1
  go_upto_region 5 with fail
  obtain ⟨X4, hX4⟩ : ∃ X, y4.alloc (.cells #[.int .i64 PO.1.lsn, .int .i64 PO.1.kind, .int .i64 PO.1.level, .int .i64 PO.1.right, .string PO.1.high, .slice a4 PO.1.items.length c4] 24) = X := ⟨_, rfl⟩
  have HH4 := hide (Hp.new (cp := c4) HSr4.out)
  have HOa4 := hide (onlyA y4 (.cells #[.int .i64 PO.1.lsn, .int .i64 PO.1.kind, .int .i64 PO.1.level, .int .i64 PO.1.right, .string PO.1.high, .slice a4 PO.1.items.length c4] 24))
  have hbb4 : y4.heap.size ≠ g := by have h1 := HO4.out.size; have h2 := HOy4.out.size; have h3 := HSZ.out; omega
  have HBB4 := hide hbb4
  rw [hX4] at HH4 HOa4 ⊢
  clear hX4 hbb4
  have HO5 := hide (o2 HO4.out (o2 HOy4.out HOa4.out))
  have HOx5 := hide (o2 HOW.out HO5.out)
  obtain ⟨q0, q1, q2, q3, q4, q5, _⟩ := HQ.out.more HO5.out
  obtain ⟨p0, p1, p2, p3, p4, p5, _⟩ := HP.out.more HOx5.out
  go_wp2_with fail
  refine (pkept_any W0 X4 a k v r h B cp g cap ao l (HLW.out.more HO5.out) (HS.out.more HOx5.out) (fun h0 e => by have := HS.out.lt h0; omega) hl).mono ?_
  rintro e z ⟨rfl, hoz⟩
  have HH2z := hide ((HH2.out.more (o2 (o2 HOy3.out HOa3.out) (o2 HOy4.out HOa4.out))).kept hoz (HBB2.out) HN2.out)
  have HH3z := hide ((HH3.out.more (o2 HOy4.out HOa4.out)).kept hoz (HBB3.out) HN3.out)
  have HH4z := hide (HH4.out.kept hoz (HBB4.out) HN4.out)
  have HOK : Hid (Only (fun k => w.heap.size + 1 + 1 ≤ k) W0 z) := (only_any HOx5.out).trans hoz (fun i hi e => by have h3 := HSZ.out; omega)
  have HPK := hide ((HP.out.more HOx5.out).kept hoz (by have h3 := HSZ.out; omega))
  have HSK := hide ((HS.out.more HOx5.out).kept hoz (fun h0 e => by have := HS.out.lt h0; omega))
  have HOE : Hid (Only (fun _ => False) w z) := HO0.out.trans HOK.out (fun i hi e => by omega)
  clear hoz p0 p1 p2 p3 p4 p5 q0 q1 q2 q3 q4 q5
  have HO6 := hide (Only.refl (fun _ => False) z)
  obtain ⟨p0, p1, p2, p3, p4, p5, _⟩ := HPK.out.more HO6.out
  obtain ⟨x0, x1⟩ := HX.out _ (HOK.out.trans HO6.out (fun _ _ h => h.elim))
  have hc6 := ywith_res z a k v r h B cp ao l (HSK.out.more HO6.out) HF.out hh hl i it hit
  rw [HPW.out] at hc6
  go_wp2_with fail
  refine Calls.mono hc6 ?_
  clear hc6
  rintro e y6 ⟨B6, a6, c6, rfl, hS6, hF6, ho6, hn6⟩
  have HSr6 := hide hS6
  have HOy6 := hide ho6
  clear hS6 hF6 ho6 hn6 p0 p1 p2 p3 p4 p5 x0 x1
  go_upto_region 8 with fail
  obtain ⟨X6, hX6⟩ : ∃ X, y6.alloc (.cells #[.int .i64 PW.1.lsn, .int .i64 PW.1.kind, .int .i64 PW.1.level, .int .i64 PW.1.right, .string PW.1.high, .slice a6 PW.1.items.length c6] 24) = X := ⟨_, rfl⟩
  have HH6 := hide (Hp.new (cp := c6) HSr6.out)
  have HOa6 := hide (onlyA y6 (.cells #[.int .i64 PW.1.lsn, .int .i64 PW.1.kind, .int .i64 PW.1.level, .int .i64 PW.1.right, .string PW.1.high, .slice a6 PW.1.items.length c6] 24))
  rw [hX6] at HH6 HOa6 ⊢
  clear hX6
  have HO7 := hide (o2 HO6.out (o2 HOy6.out HOa6.out))
  obtain ⟨p0, p1, p2, p3, p4, p5, _⟩ := HPK.out.more HO7.out
  obtain ⟨x0, x1⟩ := HX.out _ (HOK.out.trans HO7.out (fun _ _ h => h.elim))
  have hc7 := yput_res X6 a k v r h B cp ao l (HSK.out.more HO7.out) HF.out hh hl i it hit
  rw [HPP.out] at hc7
  go_wp2_with fail
  refine Calls.mono hc7 ?_
  clear hc7
  rintro e y7 ⟨B7, a7, c7, rfl, hS7, hF7, ho7, hn7⟩
  have HSr7 := hide hS7
  have HOy7 := hide ho7
  clear hS7 hF7 ho7 hn7 p0 p1 p2 p3 p4 p5 x0 x1
  go_upto_region 9 with fail
  obtain ⟨X7, hX7⟩ : ∃ X, y7.alloc (.cells #[.int .i64 PP.1.lsn, .int .i64 PP.1.kind, .int .i64 PP.1.level, .int .i64 PP.1.right, .string PP.1.high, .slice a7 PP.1.items.length c7] 24) = X := ⟨_, rfl⟩
  have HH7 := hide (Hp.new (cp := c7) HSr7.out)
  have HOa7 := hide (onlyA y7 (.cells #[.int .i64 PP.1.lsn, .int .i64 PP.1.kind, .int .i64 PP.1.level, .int .i64 PP.1.right, .string PP.1.high, .slice a7 PP.1.items.length c7] 24))
  rw [hX7] at HH7 HOa7 ⊢
  clear hX7
  have HO8 := hide (o2 HO7.out (o2 HOy7.out HOa7.out))
  obtain ⟨p0, p1, p2, p3, p4, p5, _⟩ := HPK.out.more HO8.out
  obtain ⟨x0, x1⟩ := HX.out _ (HOK.out.trans HO8.out (fun _ _ h => h.elim))
  have hc8 := yout_res X7 a k v r h B cp ao l (HSK.out.more HO8.out) HF.out hh hl i
  rw [HPO.out] at hc8
  go_wp2_with fail
  refine Calls.mono hc8 ?_
  clear hc8
  rintro e y8 ⟨B8, a8, c8, rfl, hS8, hF8, ho8, hn8⟩
  have HSr8 := hide hS8
  have HOy8 := hide ho8
  clear hS8 hF8 ho8 hn8 p0 p1 p2 p3 p4 p5 x0 x1
  go_upto_region 10 with fail
  obtain ⟨X8, hX8⟩ : ∃ X, y8.alloc (.cells #[.int .i64 PO.1.lsn, .int .i64 PO.1.kind, .int .i64 PO.1.level, .int .i64 PO.1.right, .string PO.1.high, .slice a8 PO.1.items.length c8] 24) = X := ⟨_, rfl⟩
  have HH8 := hide (Hp.new (cp := c8) HSr8.out)
  have HOa8 := hide (onlyA y8 (.cells #[.int .i64 PO.1.lsn, .int .i64 PO.1.kind, .int .i64 PO.1.level, .int .i64 PO.1.right, .string PO.1.high, .slice a8 PO.1.items.length c8] 24))
  rw [hX8] at HH8 HOa8 ⊢
  clear hX8
  have HO9 := hide (o2 HO8.out (o2 HOy8.out HOa8.out))
  have HH69 := hide (HH6.out.more (o2 (o2 HOy7.out HOa7.out) (o2 HOy8.out HOa8.out)))
  have HH79 := hide (HH7.out.more (o2 HOy8.out HOa8.out))
  have HH89 := hide HH8.out
  go_wp2_with fail
  refine (awake_any X8).mono ?_
  rintro e v1 ⟨rfl, hv1⟩
  have HV1 := hide hv1
  clear hv1
  obtain ⟨p0, p1, p2, p3, p4, p5, _⟩ := (HH2z.out.more (o2 HO9.out HV1.out)).pag
  obtain ⟨q0, q1, q2, q3, q4, q5, _⟩ := (HH69.out.more HV1.out).pag
  go_wp2_with fail
  have hs := ysame_any v1 PW.1.lsn PW.1.kind PW.1.level PW.1.right PW.1.lsn PW.1.kind PW.1.level PW.1.right PW.1.high PW.1.high B2 B6 c2 c6 a2 a6 PW.1.items PW.1.items (HH2z.out.more (o2 HO9.out HV1.out)).strs (HH69.out.more HV1.out).strs
  rw [show decide (PW.1.lsn = PW.1.lsn ∧ PW.1.kind = PW.1.kind ∧ PW.1.level = PW.1.level ∧ PW.1.right = PW.1.right ∧ PW.1.high = PW.1.high ∧ PW.1.items = PW.1.items) = true by simp] at hs
  refine Calls.mono hs ?_
  clear hs
  rintro e v2 ⟨rfl, hv2⟩
  have HV2 := hide (o2 HV1.out hv2)
  clear hv2 p0 p1 p2 p3 p4 p5 q0 q1 q2 q3 q4 q5
  obtain ⟨p0, p1, p2, p3, p4, p5, _⟩ := (HH3z.out.more (o2 HO9.out HV2.out)).pag
  obtain ⟨q0, q1, q2, q3, q4, q5, _⟩ := (HH79.out.more HV2.out).pag
  go_wp2_with fail
  have hs := ysame_any v2 PP.1.lsn PP.1.kind PP.1.level PP.1.right PP.1.lsn PP.1.kind PP.1.level PP.1.right PP.1.high PP.1.high B3 B7 c3 c7 a3 a7 PP.1.items PP.1.items (HH3z.out.more (o2 HO9.out HV2.out)).strs (HH79.out.more HV2.out).strs
  rw [show decide (PP.1.lsn = PP.1.lsn ∧ PP.1.kind = PP.1.kind ∧ PP.1.level = PP.1.level ∧ PP.1.right = PP.1.right ∧ PP.1.high = PP.1.high ∧ PP.1.items = PP.1.items) = true by simp] at hs
  refine Calls.mono hs ?_
  clear hs
  rintro e v3 ⟨rfl, hv3⟩
  have HV3 := hide (o2 HV2.out hv3)
  clear hv3 p0 p1 p2 p3 p4 p5 q0 q1 q2 q3 q4 q5
  obtain ⟨p0, p1, p2, p3, p4, p5, _⟩ := (HH4z.out.more (o2 HO9.out HV3.out)).pag
  obtain ⟨q0, q1, q2, q3, q4, q5, _⟩ := (HH89.out.more HV3.out).pag
  go_wp2_with fail
  have hs := ysame_any v3 PO.1.lsn PO.1.kind PO.1.level PO.1.right PO.1.lsn PO.1.kind PO.1.level PO.1.right PO.1.high PO.1.high B4 B8 c4 c8 a4 a8 PO.1.items PO.1.items (HH4z.out.more (o2 HO9.out HV3.out)).strs (HH89.out.more HV3.out).strs
  rw [show decide (PO.1.lsn = PO.1.lsn ∧ PO.1.kind = PO.1.kind ∧ PO.1.level = PO.1.level ∧ PO.1.right = PO.1.right ∧ PO.1.high = PO.1.high ∧ PO.1.items = PO.1.items) = true by simp] at hs
  refine Calls.mono hs ?_
  clear hs
  rintro e v4 ⟨rfl, hv4⟩
  have HV4 := hide (o2 HV3.out hv4)
  clear hv4 p0 p1 p2 p3 p4 p5 q0 q1 q2 q3 q4 q5
  go_wp2_with fail
  go_ret
  exact ⟨ret_bool (by simp), o2 HOE.out (o2 HO9.out HV4.out)⟩
end Go.Proofs.YtbhmhhnacpjgpaaDoor
