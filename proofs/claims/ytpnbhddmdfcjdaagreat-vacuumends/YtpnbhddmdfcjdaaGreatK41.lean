/- Parts. -/
import Derived.Test.YtpnbhddmdfcjdaaGreatK32
set_option maxRecDepth 100000
namespace Go.Proofs.YtpnbhddmdfcjdaaGreat
open Go.RowKit
set_option maxRecDepth 100000 in
set_option maxHeartbeats 800000 in
theorem with_bad (w : World) (a k v r : Int) (h : ByteArray) (cp n : Nat) (ao : Option Addr) (i : Int) (it : ByteArray) (hi : ¬ (0 ≤ i ∧ i < (n : Int))) :
    Calls Tryz.prog 47 #[.agg #[.int .i64 a, .int .i64 k, .int .i64 v, .int .i64 r, .string h, .slice ao n cp], .int .i64 i, .string it] w fun e w' => Res w w' e .none 1 := by
  have HB0 := hide (boxes_only w a k v r h (.slice ao n cp))
  have HB1 := hide (boxes_one w a k v r h (.slice ao n cp))
  have HB2 := hide (boxes_two w a k v r h (.slice ao n cp))
  obtain ⟨W0, hW0⟩ : ∃ W0, boxes w a k v r h (.slice ao n cp) = W0 := ⟨_, rfl⟩
  rw [hW0] at HB0 HB1 HB2
  have HW0 := hide hW0
  clear hW0
  obtain ⟨p0, p1, p2, p3, p4, p5, g0, g1, g2, g3, g4, g5, gl⟩ := HB1.out
  have hd : decide (0 ≤ i ∧ i < (n : Int)) = false := decide_eq_false hi
  have HD := hide hd
  clear hd hi
  go_enter Tryz.func47, Tryz.ntmps47
  go_upto_region 1 with fail
  rw [show (w.alloc (.cells #[.int .i64 a, .int .i64 k, .int .i64 v, .int .i64 r, .string h, .slice ao n cp] 30)).alloc (.cells #[.int .i64 0, .int .i64 0, .int .i64 0, .int .i64 0, .string ⟨#[]⟩, .slice none 0 0] 30) = W0 from HW0.out]
  go_wp2_with fail
  refine (hasItem_any _ a k v r i h cp n ao).mono ?_
  rw [HD.out]
  rintro e w1 ⟨rfl, ho1⟩
  have HO1 := hide ho1
  clear p0 p1 p2 p3 p4 p5 g0 g1 g2 g3 g4 g5 gl ho1
  obtain ⟨q0, q1, q2, q3, q4, q5, t0, t1, t2, t3, t4, t5, tl⟩ := HB2.out.more HO1.out
  go_wp2_with fail
  refine bodyPost_ret (results_page rfl rfl (Pag.six (HB2.out.more HO1.out) _ _ _ _ _ _)) rfl ?_
  exact Res.none 1 ((o2 HB0.out HO1.out).trans (Only.six _ (w.heap.size + 1) _ _ _ _ _ _) (fun i hi e => by omega))
/-- A page, if it is not too long. -/
def fitP (p : Pg) : Pg × Int := if 255 < p.items.length ∨ 512 < 20 + p.high.size + isz p.items then (.none, 3) else (p, 0)
theorem Or3.fit {w w' : World} {e : Ending} {p : Pg} (h : Or3 w w' e (255 < p.items.length ∨ 512 < 20 + p.high.size + isz p.items) p) : Res w w' e (fitP p).1 (fitP p).2 := by
  unfold fitP
  split
  · rename_i c
    exact h.1 c
  · rename_i c
    exact h.2 c
/-- What an Insert makes of a page. -/
def insP (p : Pg) (R : Rc) : Pg × Int :=
  if (decT (bl R.data)).isSome then
    if R.slot = (p.items.length : Int) then fitP ⟨p.lsn, p.kind, p.level, p.right, p.high, p.items ++ [R.data]⟩
    else if okS p.items.length R.slot then
      if stT (bl (itS p.items R.slot)) = 1 then fitP ⟨p.lsn, p.kind, p.level, p.right, p.high, p.items.set R.slot.toNat R.data⟩ else (.none, 110)
    else (.none, 1)
  else (.none, 110)
set_option maxRecDepth 100000 in
set_option maxHeartbeats 3200000 in
theorem apinsert_any (w : World) (a k v r : Int) (h : ByteArray) (base : Nat) (sl : Value) (l : List ByteArray) (hL : Ls w base sl l) (hsz : ∀ s ∈ l, s.size ≤ 140737488355328) (hln : l.length ≤ 8796093021952) (hh : h.size ≤ 140737488355328) (R : Rc) (L : Loc) (hd : R.data.size ≤ 140737488355328) :
    Calls Tryz.prog 72 #[.agg #[.int .i64 a, .int .i64 k, .int .i64 v, .int .i64 r, .string h, sl], .agg (R.cells L)] w fun e w' => DeR w w' sl e (insP ⟨a, k, v, r, h, l⟩ R).1 (insP ⟨a, k, v, r, h, l⟩ R).2 := by
  have HB := hide (boxR_new w a k v r h sl R L)
  have HOW : Hid (∀ j, sl.ownBlock = some j → j < w.heap.size) := fun j hj => (World.ownsRow.lt hL j hj).2
  obtain ⟨B, ao, cp, hsl, hS, hF, _, _⟩ := hL.strs (by omega) hsz
  have HPT : Hid (∀ W, Only (fun _ => False) w W → Calls Tryz.prog 115 #[.agg #[.int .i64 a, .int .i64 k, .int .i64 v, .int .i64 r, .string h, .slice ao l.length cp], .int .i64 (l.length : Int), .string R.data] W fun e w' => DeR W w' sl e (fitP ⟨a, k, v, r, h, l ++ [R.data]⟩).1 (fitP ⟨a, k, v, r, h, l ++ [R.data]⟩).2) := fun W ho => by
    refine (put_any W a k v r h B cp ao l l.length R.data (hS.more ho) hF hh hd (Nat.le_refl _) hln).mono ?_
    intro e w' hq
    have e1 : l.take l.length ++ R.data :: l.drop l.length = l ++ [R.data] := by simp
    rw [e1] at hq
    exact DeR.res sl (Or3.fit (p := ⟨a, k, v, r, h, l ++ [R.data]⟩) hq)
  have HWI : Hid (∀ i : Nat, R.slot = (i : Int) → i < l.length → ∀ W, Only (fun _ => False) w W → Calls Tryz.prog 47 #[.agg #[.int .i64 a, .int .i64 k, .int .i64 v, .int .i64 r, .string h, .slice ao l.length cp], .int .i64 (i : Int), .string R.data] W fun e w' => DeR W w' sl e (fitP ⟨a, k, v, r, h, l.set R.slot.toNat R.data⟩).1 (fitP ⟨a, k, v, r, h, l.set R.slot.toNat R.data⟩).2) := fun i he hi W ho => by
    rw [he, Int.toNat_natCast]
    refine (with_some W a k v r h B cp ao l i R.data (hS.more ho) hh hd hi).mono ?_
    intro e w' hq
    exact DeR.res sl (Or3.fit (p := ⟨a, k, v, r, h, l.set i R.data⟩) hq)
  have HWB : Hid (okS l.length R.slot = false → ∀ W, Calls Tryz.prog 47 #[.agg #[.int .i64 a, .int .i64 k, .int .i64 v, .int .i64 r, .string h, .slice ao l.length cp], .int .i64 R.slot, .string R.data] W fun e w' => DeR W w' sl e .none 1) := fun he W => by
    refine (with_bad W a k v r h cp l.length ao R.slot R.data ?_).mono (fun e w' hq => DeR.res sl hq)
    intro q
    rw [okS_iff.2 q] at he
    cases he
  have HIT : Hid (∀ i : Nat, ∀ hi : i < l.length, ∀ W, Only (fun _ => False) w W → ∃ B o, ao = some ⟨B, o, none⟩ ∧ W.cell? ⟨B, o + i, none⟩ = some (.string l[i])) := fun i hi W ho => by
    obtain ⟨o, e, hc⟩ := (hS.more ho).at_ (by omega)
    exact ⟨B, o, e, hc i hi⟩
  clear hL hsz hln hd hh hS hF
  subst hsl
  have HR := hide (boxR_new w a k v r h (.slice ao l.length cp) R L)
  cases hdc : decT (bl R.data) with
  | none =>
    have e9 : insP ⟨a, k, v, r, h, l⟩ R = (.none, 110) := by unfold insP; rw [hdc]; rfl
    rw [e9]
    have HD : Hid (∀ W, Calls Tryz.prog 53 #[.string R.data] W fun e w' => e = .returned (.tuple #[.agg #[.int .i64 0, .int .i64 0, .bool false, .string ⟨#[]⟩, .string ⟨#[]⟩], .int .i64 110]) ∧ Only (fun _ => False) W w') := fun W => by
      have := udecode_any R.data W
      rw [hdc] at this
      exact this
    clear e9 hdc HPT HWI HWB HIT HR
    go_enter Tryz.func72, Tryz.ntmps72
    go_upto_region 1 with fail
    obtain ⟨W0, hW0⟩ : ∃ x, boxR w a k v r h (.slice ao l.length cp) R L = x := ⟨_, rfl⟩
    rw [hW0] at HB
    unfold boxR at hW0
    rw [hW0]
    clear hW0
    have r10 := HB.out.rc.c10
    go_wp2_with fail
    refine (HD.out _).mono ?_
    rintro e w1 ⟨rfl, ho⟩
    have HB2 := hide ((HB.out.more ho).more (onlyA w1 (.cells #[.int .i64 0, .int .i64 0, .bool false, .string ⟨#[]⟩, .string ⟨#[]⟩] 62)))
    clear ho r10 HB HD
    go_upto_region 2 with fail
    obtain ⟨w2, hw2⟩ : ∃ x, w1.alloc (.cells #[.int .i64 0, .int .i64 0, .bool false, .string ⟨#[]⟩, .string ⟨#[]⟩] 62) = x := ⟨_, rfl⟩
    rw [hw2] at HB2 ⊢
    clear hw2
    obtain ⟨q0, q1, q2, q3, q4, q5, g0, g1, g2, g3, g4, g5, ql⟩ := HB2.out.res
    go_wp2_with fail
    refine bodyPost_ret (results_page rfl rfl (Pag.six HB2.out.res _ _ _ _ _ _)) rfl ?_
    exact deR_none _ 110 (((HB2.out.only.mono (fun _ _ h => h.elim)).trans (Only.six _ (w.heap.size + 1 + 1) _ _ _ _ _ _) (fun i hi e => by omega)))
  | some t =>
    have HD : Hid (∀ W, Calls Tryz.prog 53 #[.string R.data] W fun e w' => e = .returned (.tuple #[.agg #[.int .i64 t.xmin, .int .i64 t.xmax, .bool t.frozen, .string t.key, .string t.value], .int .i64 0]) ∧ Only (fun _ => False) W w') := fun W => by
      have := udecode_any R.data W
      rw [hdc] at this
      exact this
    by_cases hsl : R.slot = (l.length : Int)
    · have e9 : insP ⟨a, k, v, r, h, l⟩ R = fitP ⟨a, k, v, r, h, l ++ [R.data]⟩ := by unfold insP; dsimp only; rw [hdc, if_pos (show (some t).isSome = true from rfl), if_pos hsl]
      rw [e9]
      have HPT0 := hide HPT.out
      have HSL := hide hsl
      obtain ⟨P, hP⟩ : ∃ P, (fitP ⟨a, k, v, r, h, l ++ [R.data]⟩).1 = P := ⟨_, rfl⟩
      obtain ⟨C, hC⟩ : ∃ C, (fitP ⟨a, k, v, r, h, l ++ [R.data]⟩).2 = C := ⟨_, rfl⟩
      rw [hP, hC] at HPT0 ⊢
      clear hsl e9 hdc HPT HWI HWB HIT HR hP hC
      go_enter Tryz.func72, Tryz.ntmps72
      go_upto_region 1 with fail
      obtain ⟨W0, hW0⟩ : ∃ x, boxR w a k v r h (.slice ao l.length cp) R L = x := ⟨_, rfl⟩
      rw [hW0] at HB
      unfold boxR at hW0
      rw [hW0]
      clear hW0
      have r10 := HB.out.rc.c10
      go_wp2_with fail
      refine (HD.out _).mono ?_
      rintro e w1 ⟨rfl, ho⟩
      have HB2 := hide ((HB.out.more ho).more (onlyA w1 (.cells #[.int .i64 t.xmin, .int .i64 t.xmax, .bool t.frozen, .string t.key, .string t.value] 62)))
      clear ho r10 HB HD
      go_upto_region 2 with fail
      obtain ⟨w2, hw2⟩ : ∃ x, w1.alloc (.cells #[.int .i64 t.xmin, .int .i64 t.xmax, .bool t.frozen, .string t.key, .string t.value] 62) = x := ⟨_, rfl⟩
      rw [hw2] at HB2 ⊢
      clear hw2
      obtain ⟨p0, p1, p2, p3, p4, p5, _⟩ := HB2.out.pag
      have r6 := HB2.out.rc.c6
      rw [HSL.out] at r6
      have r10 := HB2.out.rc.c10
      go_wp2_with fail
      refine (HPT0.out _ HB2.out.only).mono ?_
      clear p0 p1 p2 p3 p4 p5 r6 r10
      rintro e w9 hd
      have HD := hide hd
      obtain ⟨B3, ao3, cp3, rfl, _, _, ho3, _⟩ := hd
      have HQ := hide (HB2.out.res.kept ho3 (fun q => by have := HOW.out _ q; omega))
      obtain ⟨q0, q1, q2, q3, q4, q5, g0, g1, g2, g3, g4, g5, ql⟩ := HQ.out
      have hlt := HB2.out.res.lt
      clear ho3
      go_wp2_with fail
      refine bodyPost_ret (results_page rfl rfl (Pag.six HQ.out _ _ _ _ _ _)) rfl ?_
      exact deR_six HB2.out.only HD.out HOW.out _ (by omega) hlt _ _ _ _ _ _
    · have hsb : (R.slot == (l.length : Int)) = false := by simpa using hsl
      cases hok : okS l.length R.slot with
      | false =>
        have e9 : insP ⟨a, k, v, r, h, l⟩ R = (.none, 1) := by unfold insP; dsimp only; rw [hdc, if_pos (show (some t).isSome = true from rfl), if_neg hsl, hok]; rfl
        rw [e9]
        have HWB0 := hide (HWB.out hok)
        have HHS : Hid (∀ W, Calls Tryz.prog 116 #[.agg #[.int .i64 a, .int .i64 k, .int .i64 v, .int .i64 r, .string h, .slice ao l.length cp], .int .i64 R.slot] W fun e w' => e = .returned (.bool false) ∧ Only (fun _ => False) W w') := fun W => by
          have := hasSlot_any W a k v r R.slot h cp l.length ao
          rw [hok] at this
          exact this
        clear e9 hdc HPT HWI HWB HIT HR hok
        go_enter Tryz.func72, Tryz.ntmps72
        go_upto_region 1 with fail
        obtain ⟨W0, hW0⟩ : ∃ x, boxR w a k v r h (.slice ao l.length cp) R L = x := ⟨_, rfl⟩
        rw [hW0] at HB
        unfold boxR at hW0
        rw [hW0]
        clear hW0
        have r10 := HB.out.rc.c10
        go_wp2_with fail
        refine (HD.out _).mono ?_
        rintro e w1 ⟨rfl, ho⟩
        have HB2 := hide ((HB.out.more ho).more (onlyA w1 (.cells #[.int .i64 t.xmin, .int .i64 t.xmax, .bool t.frozen, .string t.key, .string t.value] 62)))
        clear ho r10 HB HD
        go_upto_region 2 with fail
        obtain ⟨w2, hw2⟩ : ∃ x, w1.alloc (.cells #[.int .i64 t.xmin, .int .i64 t.xmax, .bool t.frozen, .string t.key, .string t.value] 62) = x := ⟨_, rfl⟩
        rw [hw2] at HB2 ⊢
        clear hw2
        obtain ⟨p0, p1, p2, p3, p4, p5, _⟩ := HB2.out.pag
        have r6 := HB2.out.rc.c6
        go_wp2_with fail
        refine (HHS.out _).mono ?_
        rintro e w3 ⟨rfl, ho⟩
        have HB3 := hide (HB2.out.more ho)
        clear p0 p1 p2 p3 p4 p5 r6 ho HB2 HHS
        obtain ⟨p0, p1, p2, p3, p4, p5, _⟩ := HB3.out.pag
        have r6 := HB3.out.rc.c6
        have r10 := HB3.out.rc.c10
        go_wp2_with fail
        refine (HWB0.out _).mono ?_
        clear p0 p1 p2 p3 p4 p5 r6 r10
        rintro e w9 hd
        have HD := hide hd
        obtain ⟨B3, ao3, cp3, rfl, _, _, ho3, _⟩ := hd
        have HQ := hide (HB3.out.res.kept ho3 (fun q => by have := HOW.out _ q; omega))
        obtain ⟨q0, q1, q2, q3, q4, q5, g0, g1, g2, g3, g4, g5, ql⟩ := HQ.out
        have hlt := HB3.out.res.lt
        clear ho3
        go_wp2_with fail
        refine bodyPost_ret (results_page rfl rfl (Pag.six HQ.out _ _ _ _ _ _)) rfl ?_
        exact deR_six HB3.out.only HD.out HOW.out _ (by omega) hlt _ _ _ _ _ _
      | true =>
        have HHS : Hid (∀ W, Calls Tryz.prog 116 #[.agg #[.int .i64 a, .int .i64 k, .int .i64 v, .int .i64 r, .string h, .slice ao l.length cp], .int .i64 R.slot] W fun e w' => e = .returned (.bool true) ∧ Only (fun _ => False) W w') := fun W => by
          have := hasSlot_any W a k v r R.slot h cp l.length ao
          rw [hok] at this
          exact this
        have hok2 := okS_iff.1 hok
        obtain ⟨i, hi⟩ : ∃ i : Nat, R.slot = (i : Int) := ⟨R.slot.toNat, by omega⟩
        have hil : i < l.length := by omega
        have HWI0 := hide (HWI.out i hi hil)
        have HIT0 := hide (HIT.out i hil)
        have e8 : insP ⟨a, k, v, r, h, l⟩ R = if stT (bl l[i]) = 1 then fitP ⟨a, k, v, r, h, l.set R.slot.toNat R.data⟩ else (.none, 110) := by
          unfold insP
          dsimp only
          rw [hdc, if_pos (show (some t).isSome = true from rfl), if_neg hsl, if_pos hok, hi, itS_at hil]
        obtain ⟨it, hit⟩ : ∃ it, l[i] = it := ⟨_, rfl⟩
        rw [hit] at HIT0 e8
        have HST : Hid (∀ W, Calls Tryz.prog 54 #[.string it] W fun e w' => e = .returned (.int .u8 (stT (bl it))) ∧ Only (fun _ => False) W w') := fun W => ustate_any it W
        have hi0 : (0 : Int) ≤ (i : Int) := by omega
        have hi1 : (i : Int) < (l.length : Int) := by omega
        obtain ⟨z, hz⟩ : ∃ z, stT (bl it) = z := ⟨_, rfl⟩
        rw [hz] at HST e8
        obtain ⟨P, hP⟩ : ∃ P, (fitP ⟨a, k, v, r, h, l.set R.slot.toNat R.data⟩) = P := ⟨_, rfl⟩
        rw [hP] at HWI0 e8
        obtain ⟨PC, hPC⟩ : ∃ PC, (if z = 1 then P else (.none, 110)) = PC := ⟨_, rfl⟩
        rw [e8, hPC]
        have HPC := hide hPC
        clear hPC e8 hdc HPT HWI HWB HIT HR hok hok2 hz hit hP hsl
        rw [hi] at HHS hsb
        have HI := hide hi
        clear hi
        go_enter Tryz.func72, Tryz.ntmps72
        go_upto_region 1 with fail
        obtain ⟨W0, hW0⟩ : ∃ x, boxR w a k v r h (.slice ao l.length cp) R L = x := ⟨_, rfl⟩
        rw [hW0] at HB
        unfold boxR at hW0
        rw [hW0]
        clear hW0
        have r10 := HB.out.rc.c10
        go_wp2_with fail
        refine (HD.out _).mono ?_
        rintro e w1 ⟨rfl, ho⟩
        have HB2 := hide ((HB.out.more ho).more (onlyA w1 (.cells #[.int .i64 t.xmin, .int .i64 t.xmax, .bool t.frozen, .string t.key, .string t.value] 62)))
        clear ho r10 HB HD
        go_upto_region 2 with fail
        obtain ⟨w2, hw2⟩ : ∃ x, w1.alloc (.cells #[.int .i64 t.xmin, .int .i64 t.xmax, .bool t.frozen, .string t.key, .string t.value] 62) = x := ⟨_, rfl⟩
        rw [hw2] at HB2 ⊢
        clear hw2
        obtain ⟨p0, p1, p2, p3, p4, p5, _⟩ := HB2.out.pag
        have r6 := HB2.out.rc.c6
        rw [HI.out] at r6
        go_wp2_with fail
        refine (HHS.out _).mono ?_
        rintro e w3 ⟨rfl, ho⟩
        have HB3 := hide (HB2.out.more ho)
        clear p0 p1 p2 p3 p4 p5 r6 ho HB2 HHS
        obtain ⟨Bi, oi, rfl, ci⟩ := HIT0.out _ HB3.out.only
        have p5 := HB3.out.pag.c5
        have r6 := HB3.out.rc.c6
        rw [HI.out] at r6
        go_wp2_with fail
        refine (HST.out _).mono ?_
        rintro e w4 ⟨rfl, ho⟩
        have HB4 := hide (HB3.out.more ho)
        clear p5 r6 ho HB3 ci HIT0 HST
        by_cases hz1 : z = 1
        · have e1 : P = PC := by rw [← HPC.out, if_pos hz1]
          have HE1 := hide e1
          clear e1 HPC
          subst hz1
          obtain ⟨p0, p1, p2, p3, p4, p5, _⟩ := HB4.out.pag
          have r6 := HB4.out.rc.c6
          rw [HI.out] at r6
          have r10 := HB4.out.rc.c10
          go_wp2_with fail
          refine (HWI0.out _ HB4.out.only).mono ?_
          clear p0 p1 p2 p3 p4 p5 r6 r10
          rintro e w9 hd
          have HD := hide hd
          obtain ⟨B3, ao3, cp3, rfl, _, _, ho3, _⟩ := hd
          have HQ := hide (HB4.out.res.kept ho3 (fun q => by have := HOW.out _ q; omega))
          obtain ⟨q0, q1, q2, q3, q4, q5, g0, g1, g2, g3, g4, g5, ql⟩ := HQ.out
          have hlt := HB4.out.res.lt
          clear ho3
          go_wp2_with fail
          refine bodyPost_ret (results_page rfl rfl (Pag.six HQ.out _ _ _ _ _ _)) rfl ?_
          rw [← HE1.out]
          exact deR_six HB4.out.only HD.out HOW.out _ (by omega) hlt _ _ _ _ _ _
        · have HE1 : Hid ((.none, 110) = PC) := by unfold Hid; rw [← HPC.out, if_neg hz1]
          clear HPC
          have hzb : (z == 1) = false := by simpa using hz1
          obtain ⟨q0, q1, q2, q3, q4, q5, g0, g1, g2, g3, g4, g5, ql⟩ := HB4.out.res
          go_wp2_with fail
          refine bodyPost_ret (results_page rfl rfl (Pag.six HB4.out.res _ _ _ _ _ _)) rfl ?_
          rw [← HE1.out]
          exact deR_none _ 110 (((HB4.out.only.mono (fun _ _ h => h.elim)).trans (Only.six _ (w.heap.size + 1 + 1) _ _ _ _ _ _) (fun i hi e => by omega)))
end Go.Proofs.YtpnbhddmdfcjdaaGreat
