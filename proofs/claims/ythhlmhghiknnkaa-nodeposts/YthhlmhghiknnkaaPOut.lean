/- What Out does. -/
import Derived.Test.YthhlmhghiknnkaaPPut
namespace Go.Proofs.Ythhlmhghiknnkaa
open Go.RowKit

theorem out_cat (w : World) (a k v r : Int) (h : ByteArray) (B b o cp : Nat) (l : List ByteArray) (i : Nat) (hS : Strs w B (some ⟨b, o, none⟩) l) (hF : Fit (some ⟨b, o, none⟩) l.length cp) (hi : i < l.length) (A2 : Option Addr) (hA : i + 1 < l.length → A2 = some ⟨b, o + (i + 1), none⟩) (hA0 : A2 ≠ none) (W1 : World) (h1 : Only (fun _ => False) (boxes w a k v r h (.slice (some ⟨b, o, none⟩) l.length cp)) W1) (W : World)
    (hW : Only (fun _ => False) (W1.alloc (.cells #[.slice (some ⟨b, o, none⟩) i cp, .slice A2 (l.length - (i + 1)) (cp - (i + 1))] 36)) W) :
    Calls Try.prog 75 #[.slice (some ⟨W1.heap.size, 0, none⟩) 2 2] W fun e w' => ∃ B5 ao5 cp5, e = .returned (.slice ao5 (l.take i ++ l.drop (i + 1)).length cp5) ∧ w'.cell? ⟨w.heap.size, 5, none⟩ = some (.slice (some ⟨b, o, none⟩) l.length cp) ∧ w'.frozen? ⟨w.heap.size, 5, none⟩ = false ∧ Hid (Aft w w' a k v r h (.slice (some ⟨b, o, none⟩) l.length cp) B5 ao5 cp5 (l.take i ++ l.drop (i + 1))) := by
  have hlen := hS.len
  have hB1 := (boxes_one w a k v r h (.slice (some ⟨b, o, none⟩) l.length cp)).more h1
  have hB2 := (boxes_two w a k v r h (.slice (some ⟨b, o, none⟩) l.length cp)).more h1
  have hcp := hF.le
  have hbig := hF.big
  have hz := boxes_size w a k v r h (.slice (some ⟨b, o, none⟩) l.length cp)
  have hz1 := h1.size
  have ho1 := o2 (boxes_only w a k v r h (.slice (some ⟨b, o, none⟩) l.length cp)) h1
  have hA1 := onlyA W1 (.cells #[.slice (some ⟨b, o, none⟩) i cp, .slice A2 (l.length - (i + 1)) (cp - (i + 1))] 36)
  have hS2 := ((hS.more ho1).more hA1).more hW
  have hlt : W1.heap.size < (W1.alloc (.cells #[.slice (some ⟨b, o, none⟩) i cp, .slice A2 (l.length - (i + 1)) (cp - (i + 1))] 36)).heap.size := by simp
  have hc : ∀ j (x : Value), #[Value.slice (some ⟨b, o, none⟩) i cp, .slice A2 (l.length - (i + 1)) (cp - (i + 1))][j]? = some x → W.cell? ⟨W1.heap.size, j, none⟩ = some x := by
    intro j x hx
    rw [hW.cell (p := ⟨W1.heap.size, j, none⟩) hlt (fun h => h)]
    simpa using hx
  have key := cat2 W W1.heap.size (some ⟨b, o, none⟩) A2 cp (cp - (i + 1)) B B i (l.length - (i + 1)) (l.take i) (l.drop (i + 1))
    (by simp; omega) (by simp) (hc 0 _ rfl) (hc 1 _ rfl) (hS2.take i) (hS2.drop (i + 1) _ hA)
    ⟨(fun h => by cases h), by omega, hbig⟩ ⟨(fun h => absurd h hA0), by omega, by omega⟩ (Nat.lt_of_lt_of_le hlt hW.size) (by omega)
  have hsz : ∀ s ∈ l.take i ++ l.drop (i + 1), s.size ≤ 140737488355328 := by
    intro s hs
    rcases List.mem_append.1 hs with hs | hs
    · exact hS.size s (List.mem_of_mem_take hs)
    · exact hS.size s (List.mem_of_mem_drop hs)
  have hln : (l.take i ++ l.drop (i + 1)).length ≤ l.length := by simp; omega
  refine Calls.mono key ?_
  rintro e w5 ⟨v5, rfl, hl5, ho5⟩
  obtain ⟨B5, ao5, cp5, rfl, hS5, hF5, hB5, _⟩ := hl5.strs (by omega) hsz
  have hoo := o2 hA1 (o2 hW ho5)
  have hP := hB1.more hoo
  have hWs := hW.size
  exact ⟨B5, ao5, cp5, rfl, hP.c5, hP.f5, ⟨hP, hB2.more hoo, hS5, hF5, o2 ho1 hoo, fun h => by have := hB5 h; omega⟩⟩

set_option maxRecDepth 100000 in
set_option maxHeartbeats 1600000 in
theorem out_some (w : World) (a k v r : Int) (h : ByteArray) (B b o cp : Nat) (l : List ByteArray) (i : Nat) (hS : Strs w B (some ⟨b, o, none⟩) l) (hF : Fit (some ⟨b, o, none⟩) l.length cp) (hi : i < l.length) :
    Calls Try.prog 54 #[.agg #[.int .i64 a, .int .i64 k, .int .i64 v, .int .i64 r, .string h, .slice (some ⟨b, o, none⟩) l.length cp], .int .i64 (i : Int)] w fun e w' =>
      Res w w' e ⟨a, k, v, r, h, l.take i ++ l.drop (i + 1)⟩ 0 := by
  have hcp := hF.le
  have hbig := hF.big
  have hlen := hS.len
  unfold maxLen at hbig
  obtain ⟨m, hm⟩ : ∃ m, i + 1 = m := ⟨_, rfl⟩
  obtain ⟨A2, hA2⟩ : ∃ A2, (if cp = m then some (⟨b, o, none⟩ : Addr) else some ⟨b, o + m, none⟩) = A2 := ⟨_, rfl⟩
  have HCAT := hide (out_cat w a k v r h B b o cp l i hS hF hi A2 (fun hk => by rw [← hA2, hm, if_neg (by omega)]) (by rw [← hA2]; split <;> simp))
  have HB0 := hide (boxes_one w a k v r h (.slice (some ⟨b, o, none⟩) l.length cp))
  clear hS hF
  obtain ⟨nl, hnl⟩ : ∃ nl, l.take i ++ l.drop (i + 1) = nl := ⟨_, rfl⟩
  rw [hnl] at HCAT ⊢
  rw [hm] at HCAT
  clear hnl
  have hi0 : (0 : Int) ≤ (i : Int) := by omega
  have hi1 : (i : Int) < (l.length : Int) := by omega
  have hi2 : (0 : Int) ≤ (m : Int) := by omega
  have hi3 : (m : Int) ≤ (l.length : Int) := by omega
  have hi4 : (m : Int) ≤ (cp : Int) := by omega
  have hi5 : (i : Int) + 1 = (m : Int) := by omega
  have hi8 : IntKind.i64.wrap (m : Int) = (m : Int) := wraps_i64 _ (by omega) (by omega)
  have hi6 : (i : Int) ≤ (cp : Int) := by omega
  have hi7 : (l.length : Int) ≤ (cp : Int) := by omega
  clear hm
  go_enter Try.func54, Try.ntmps54
  go_wp2_with fail
  refine (hasItem_any (boxes w a k v r h (.slice (some ⟨b, o, none⟩) l.length cp)) a k v r (i : Int) h cp l.length (some ⟨b, o, none⟩)).mono ?_
  rw [show decide ((0 : Int) ≤ (i : Int) ∧ (i : Int) < (l.length : Int)) = true from by simp; omega]
  rintro e w1 ⟨rfl, ho1⟩
  have HCAT1 := hide (HCAT.out w1 ho1)
  obtain ⟨p0, p1, p2, p3, p4, p5, g0, g1, g2, g3, g4, g5, gl⟩ := HB0.out.more ho1
  have HO1 := hide ho1
  clear ho1 p0 p1 p2 p3 p4 g0 g1 g2 g3 g4
  go_upto_region 3 with fail
  go_cut [21] (fun t wc => ∃ B5 ao5 cp5, t = .slice ao5 nl.length cp5 ∧ Hid (Aft w wc a k v r h (.slice ao5 nl.length cp5) B5 ao5 cp5 nl))
  case first =>
    go_region_with (
      go_at_call 75
      refine (HCAT1.out _ (Only.drew _ _)).mono ?_
      rintro e w5 ⟨B5, ao5, cp5, rfl, p5, g5, HA⟩)
    all_goals (go_wp2_with fail; go_meet; exact ⟨B5, ao5, cp5, rfl, hide (HA.out.store _)⟩)
  case rest =>
    obtain ⟨B5, ao5, cp5, rfl, HA⟩ := hcut
    obtain ⟨p0, p1, p2, p3, p4, p5, g0, g1, g2, g3, g4, g5, gl⟩ := HA.out.one
    obtain ⟨q0, q1, q2, q3, q4, q5, t0, t1, t2, t3, t4, t5, tl⟩ := HA.out.two
    have HQ6 := hide HA.out.two
    go_wp2_with fail
    refine bodyPost_ret (results_page rfl rfl (Pag.six HQ6.out _ _ _ _ _ _)) rfl ?_
    exact (HA.out.res _ _ _ _ _ _ 0 _ rfl).1
end Go.Proofs.Ythhlmhghiknnkaa
