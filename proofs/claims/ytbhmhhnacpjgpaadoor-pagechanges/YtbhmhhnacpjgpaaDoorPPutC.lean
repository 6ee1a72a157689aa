/- What the document's changed does. -/
import Derived.Test.YtbhmhhnacpjgpaaDoorPPut
namespace Go.Proofs.YtbhmhhnacpjgpaaDoor
open Go.RowKit

set_option maxRecDepth 100000 in
set_option maxHeartbeats 1600000 in
theorem changed_any (w : World) (a k v r : Int) (h : ByteArray) (sl : Value) (A0 A1 A2 : Option Addr) (B0 B1 B2 C0 C1 C2 n0 n1 n2 : Nat) (l0 l1 l2 : List ByteArray) (more : Bool) (e0 : n0 = l0.length) (e1 : n1 = l1.length) (e2 : n2 = l2.length)
    (h0 : Strs w B0 A0 l0) (h1 : Strs w B1 A1 l1) (h2 : Strs w B2 A2 l2) (f0 : Fit A0 n0 C0) (f1 : Fit A1 n1 C1) (f2 : Fit A2 n2 C2) (hh : h.size ≤ 140737488355328) (hroom : n0 + n1 + n2 ≤ 8796093022207) :
    Calls Tryd.prog 40 #[.agg #[.int .i64 a, .int .i64 k, .int .i64 v, .int .i64 r, .string h, sl], .slice A0 n0 C0, .slice A1 n1 C1, .slice A2 n2 C2, .bool more] w fun e w' =>
      Or3 w w' e (more = true ∧ (255 < (l0 ++ l1 ++ l2).length ∨ 512 < 20 + h.size + isz (l0 ++ l1 ++ l2))) ⟨a, k, v, r, h, l0 ++ l1 ++ l2⟩ := by
  have HB0 := hide (boxes_only w a k v r h sl)
  have HB1 := hide (boxes_one w a k v r h sl)
  have HB2 := hide (boxes_two w a k v r h sl)
  have HBZ := hide (boxes_size w a k v r h sl)
  obtain ⟨W0, hW0⟩ : ∃ W0, boxes w a k v r h sl = W0 := ⟨_, rfl⟩
  have HW0 := hide hW0
  rw [hW0] at HB0 HB1 HB2 HBZ
  clear hW0
  subst e0
  subst e1
  subst e2
  obtain ⟨v1, w1, r1, k1, o1⟩ := append_strs W0 22 W0.heap.size (.slice none 0 0) [] (Ls.nil _ _) B0 C0 A0 l0 (h0.more HB0.out) f0 (by simp; omega) (Nat.le_refl _)
  obtain ⟨v2, w2, r2, k2, q2⟩ := append_strs w1 22 W0.heap.size v1 _ k1 B1 C1 A1 l1 (h1.kept (HB0.out.trans o1 (fun i hi e => by have := HB0.out.size; omega)) (fun _ h => h)) f1 (by simp; omega) o1.size
  obtain ⟨v3, w3, r3, k3, q3⟩ := append_strs w2 22 W0.heap.size v2 _ k2 B2 C2 A2 l2 (h2.kept (HB0.out.trans (o1.trans q2 (fun _ _ h => h)) (fun i hi e => by have := HB0.out.size; omega)) (fun _ h => h)) f2 (by simp; omega) (Nat.le_trans o1.size q2.size)
  simp only [List.nil_append] at k3
  have ho3 : Only (fun k => W0.heap.size ≤ k) W0 w3 := (o1.trans q2 (fun _ _ h => h)).trans q3 (fun _ _ h => h)
  have hsz : ∀ s ∈ l0 ++ l1 ++ l2, s.size ≤ 140737488355328 := by
    intro s hs
    simp only [List.mem_append] at hs
    rcases hs with (hs | hs) | hs
    · exact h0.size s hs
    · exact h1.size s hs
    · exact h2.size s hs
  have hln : (l0 ++ l1 ++ l2).length = l0.length + l1.length + l2.length := by simp; omega
  obtain ⟨B5, ao5, cp5, rfl, hS5, hF5, hB5, _⟩ := k3.strs (by omega) hsz
  have hzz := HBZ.out
  have HA : Hid (Aft w w3 a k v r h sl B5 ao5 cp5 (l0 ++ l1 ++ l2)) := ⟨HB1.out.kept ho3 (by omega), HB2.out.kept ho3 (by omega), hS5, hF5, HB0.out.trans ho3 (fun i hi e => by omega), fun h => by have := hB5 h; omega⟩
  have R1 := hide r1
  have R2 := hide r2
  have R3 := hide r3
  have HLN := hide hln
  obtain ⟨nl, hnl⟩ : ∃ nl, l0 ++ l1 ++ l2 = nl := ⟨_, rfl⟩
  rw [hnl] at HA HLN R3 ⊢
  clear r1 r2 r3 k1 k2 k3 o1 q2 q3 ho3 hS5 hF5 hB5 hln hsz h0 h1 h2 f0 f1 f2 hnl hzz
  obtain ⟨p0, p1, p2, p3, p4, p5, g0, g1, g2, g3, g4, g5, gl⟩ := HA.out.one
  have hnb : nl.length ≤ 8796093022207 := by have := HLN.out; omega
  clear hroom
  obtain ⟨q0, q1, q2, q3, q4, q5, t0, t1, t2, t3, t4, t5, tl⟩ := HA.out.two
  have HA4 := hide (HA.out.store (.slice ao5 nl.length cp5))
  cases more with
  | false =>
    go_enter Tryd.func40, Tryd.ntmps40
    go_wp2_with (first
      | (at_builtin; refine Lib.wpList_append_run _ rfl (.tmp 13) (.tmp 14) _ _ rfl _ _ rfl rfl _ _ (by have e := R1.out; rw [← HW0.out] at e; exact e) ?_)
      | (at_builtin; refine Lib.wpList_append_run _ rfl (.tmp 16) (.tmp 17) _ _ rfl _ _ rfl rfl _ _ R2.out ?_)
      | (at_builtin; refine Lib.wpList_append_run _ rfl (.tmp 19) (.tmp 20) _ _ rfl _ _ rfl rfl _ _ R3.out ?_))
    refine bodyPost_ret (results_page rfl rfl (Pag.six HA4.out.two _ _ _ _ _ _)) rfl ?_
    exact Or3.no (by simp) (HA4.out.res _ _ _ _ _ _ 0 _ rfl).1
  | true =>
    by_cases hn : 255 < nl.length
    · have hn' : (255 : Int) < (nl.length : Int) := by omega
      have HC := hide hn
      clear hn
      go_enter Tryd.func40, Tryd.ntmps40
      go_wp2_with (first
        | (at_builtin; refine Lib.wpList_append_run _ rfl (.tmp 13) (.tmp 14) _ _ rfl _ _ rfl rfl _ _ (by have e := R1.out; rw [← HW0.out] at e; exact e) ?_)
        | (at_builtin; refine Lib.wpList_append_run _ rfl (.tmp 16) (.tmp 17) _ _ rfl _ _ rfl rfl _ _ R2.out ?_)
        | (at_builtin; refine Lib.wpList_append_run _ rfl (.tmp 19) (.tmp 20) _ _ rfl _ _ rfl rfl _ _ R3.out ?_))
      refine bodyPost_ret (results_page rfl rfl (Pag.six HA4.out.two _ _ _ _ _ _)) rfl ?_
      exact Or3.yes ⟨by simp, .inl HC.out⟩ (Res.none 3 (HA4.out.res _ _ _ _ _ _ 0 _ rfl).2)
    · have hn' : ¬ (255 : Int) < (nl.length : Int) := by omega
      have HC := hide hn
      clear hn
      have HZ := hide (w64_few HA.out.strs.size hh (by have := HC.out; omega))
      have HX := hide (ysize_any _ a k v r h B5 cp5 ao5 nl HA4.out.strs hh)
      rw [HZ.out] at HX
      obtain ⟨z, hz⟩ : ∃ z : Nat, 20 + h.size + isz nl = z := ⟨_, rfl⟩
      have hz2 : (20 + h.size + isz nl : Int) = z := by omega
      rw [hz2] at HX
      rw [hz]
      have hzb : z ≤ 9000000000000000000 := by have := isz_le HA.out.strs.size; have := HC.out; omega
      clear hz hz2 HZ
      go_enter Tryd.func40, Tryd.ntmps40
      go_wp2_with (first
        | (at_builtin; refine Lib.wpList_append_run _ rfl (.tmp 13) (.tmp 14) _ _ rfl _ _ rfl rfl _ _ (by have e := R1.out; rw [← HW0.out] at e; exact e) ?_)
        | (at_builtin; refine Lib.wpList_append_run _ rfl (.tmp 16) (.tmp 17) _ _ rfl _ _ rfl rfl _ _ R2.out ?_)
        | (at_builtin; refine Lib.wpList_append_run _ rfl (.tmp 19) (.tmp 20) _ _ rfl _ _ rfl rfl _ _ R3.out ?_))
      refine HX.out.mono ?_
      rintro e w6 ⟨rfl, ho6⟩
      have HA6 := hide (HA4.out.more ho6)
      obtain ⟨y0, y1, y2, y3, y4, y5, s0, s1, s2, s3, s4, s5, sl'⟩ := HA6.out.one
      obtain ⟨x0, x1, x2, x3, x4, x5, u0, u1, u2, u3, u4, u5, ul⟩ := HA6.out.two
      clear ho6 p0 p1 p2 p3 p4 p5 g0 g1 g2 g3 g4 g5 gl q0 q1 q2 q3 q4 q5 t0 t1 t2 t3 t4 t5 tl
      by_cases hc : 512 < z
      · have hc' : (512 : Int) < (z : Int) := by omega
        have HD := hide hc
        clear hc
        go_wp2_with fail
        refine bodyPost_ret (results_page rfl rfl (Pag.six HA6.out.two _ _ _ _ _ _)) rfl ?_
        exact Or3.yes ⟨by simp, .inr HD.out⟩ (Res.none 3 (HA6.out.res _ _ _ _ _ _ 0 _ rfl).2)
      · have hc' : ¬ (512 : Int) < (z : Int) := by omega
        have HD := hide hc
        clear hc
        go_wp2_with fail
        refine bodyPost_ret (results_page rfl rfl (Pag.six HA6.out.two _ _ _ _ _ _)) rfl ?_
        exact Or3.no (fun hx => hx.2.elim HC.out HD.out) (HA6.out.res _ _ _ _ _ _ 0 _ rfl).1
end Go.Proofs.YtbhmhhnacpjgpaaDoor
