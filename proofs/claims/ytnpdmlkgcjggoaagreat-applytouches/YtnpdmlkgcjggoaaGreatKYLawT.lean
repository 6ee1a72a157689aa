/- ApplyTouches' walk. -/
import Derived.Test.YtnpdmlkgcjggoaaGreatK48
namespace Go.Proofs.YtnpdmlkgcjggoaaGreat
open Go.RowKit

theorem Ob.kept {S : Nat → Prop} {w w' : World} {b : Nat} {p : Pg} {ao : Option Addr} {cp : Nat} {N : Int} (h : Ob w b p ao cp N) (ho : Only S w w') (hS : ¬ S b) : Ob w' b p ao cp N := by
  have k : ∀ (j : Nat) (v : Value), w.cell? ⟨b, j, none⟩ = some v → w'.cell? ⟨b, j, none⟩ = some v := fun j v hj => (ho.cell (p := ⟨b, j, none⟩) h.lt hS).trans hj
  exact ⟨k _ _ h.c0, k _ _ h.c1, k _ _ h.c2, k _ _ h.c3, k _ _ h.c4, k _ _ h.c5, k _ _ h.c6, Nat.lt_of_lt_of_le h.lt ho.size⟩
/-- The variables of ApplyTouches, and the list that Touches answered. -/
structure To (w W : World) (p : Pg) (ao : Option Addr) (cp : Nat) (N : Int) (R : Rc) (L : Loc) (B : Nat) (at_ : Option Addr) (T : List Int) : Prop where
  ob : Ob W w.heap.size p ao cp N
  rb : Rb W (w.heap.size + 1) R L
  zs : Zs W B at_ T
  only : Only (fun _ => False) w W
theorem To.more {w W W' : World} {p : Pg} {ao : Option Addr} {cp : Nat} {N : Int} {R : Rc} {L : Loc} {B : Nat} {a : Option Addr} {T : List Int} (x : To w W p ao cp N R L B a T) (ho : Only (fun _ => False) W W') : To w W' p ao cp N R L B a T := ⟨x.ob.more ho, x.rb.more ho, x.zs.more ho, o2 x.only ho⟩
theorem take_dec (T : List Int) (N : Int) (j : Nat) (h : j < T.length) : decide (N ∈ T.take (j + 1)) = (decide (N ∈ T.take j) || (T[j] == N)) := by
  rw [List.take_succ_eq_append_getElem h, Bool.eq_iff_iff]
  simp only [List.mem_append, List.mem_singleton, decide_eq_true_eq, Bool.or_eq_true, beq_iff_eq]
  exact ⟨fun q => q.imp id Eq.symm, fun q => q.imp id Eq.symm⟩
set_option maxRecDepth 100000 in
set_option maxHeartbeats 400000 in
theorem touches_law (w : World) (m N : Int) (p : Pg) (B : Nat) (ao : Option Addr) (cp : Nat) (R : Rc) (L : Loc) (h : Arg w m p B ao cp R L) :
    Calls Tryz.prog 6 #[.int .i64 m, .agg #[.int .i64 p.lsn, .int .i64 p.kind, .int .i64 p.level, .int .i64 p.right, .string p.high, .slice ao p.items.length cp, .int .i64 N], .agg (R.cells L)] w fun e w' => e = .returned (.bool true) ∧ Only (fun _ => False) w w' := by
  have HX := hide (arg_new w p ao cp N R L)
  have HAW := hide (fun W => apawake_any W)
  have HTO := hide (fun W (ho : Only (fun _ => False) w W) => touches_any W R L (h.at_.go ho) (by have := h.n.ims; omega))
  have HD1 := hide (fun W ho => h.does (W := W) ho N)
  have HSP := hide (fun W (ho : Only (fun _ => False) w W) => h.pn.strs.more ho)
  have HOUT : Hid (N ∉ touS R → (doP m p N R).1 = p ∧ (doP m p N R).2 = 0) := fun hn => by rw [doP_out hn]; exact ⟨rfl, rfl⟩
  have HIN : Hid (N ∈ touS R → ¬ (doP m p N R).2 = 0 ∨ R.lsn ≤ (doP m p N R).1.lsn) := fun hn => doP_in hn
  have HRI := hide (touS_rise R).1
  obtain ⟨A, hA⟩ : ∃ A, (doP m p N R).1 = A := ⟨_, rfl⟩
  obtain ⟨C, hC⟩ : ∃ C, (doP m p N R).2 = C := ⟨_, rfl⟩
  obtain ⟨T, hT⟩ : ∃ T, touS R = T := ⟨_, rfl⟩
  rw [hA, hC] at HD1 HOUT HIN
  rw [hT] at HTO HOUT HIN HRI
  clear hA hC hT h
  go_enter Tryz.func6, Tryz.ntmps6
  go_upto_region 1 with fail
  obtain ⟨W0, hW0⟩ : ∃ x, (w.alloc (.cells #[.int .i64 p.lsn, .int .i64 p.kind, .int .i64 p.level, .int .i64 p.right, .string p.high, .slice ao p.items.length cp, .int .i64 N] 26)).alloc (.cells (R.cells L) 33) = x := ⟨_, rfl⟩
  rw [hW0] at HX ⊢
  clear hW0
  go_wp2_with (refine wpList_load_rc rfl (.tmp 5) rfl (w.heap.size + 1) rfl R L HX.out.2.1.range ?_; go_frame)
  refine (HTO.out _ HX.out.2.2).mono ?_
  rintro e w1 ⟨BT, aT, cT, rfl, hz1, ho1⟩
  have HS0 : Hid (To w w1 p ao cp N R L BT aT T) := ⟨HX.out.1.more ho1, HX.out.2.1.more ho1, hz1, o2 HX.out.2.2 ho1⟩
  have htl := hz1.len
  clear hz1 ho1 HX HTO
  go_wp2_with fail
  go_loopw [8, 9] (fun b i wr => ∃ (j : Nat), j ≤ T.length ∧ i = .int .i64 (j : Int) ∧ b = .bool (decide (N ∈ T.take j)) ∧ Hid (To w wr p ao cp N R L BT aT T)) (fun _ i _ => T.length - (intOf i).toNat)
  case atStart => exact ⟨0, Nat.zero_le _, rfl, by simp, HS0⟩
  case round =>
    clear HS0
    obtain ⟨j, hj, rfl, rfl, HS⟩ := hrel
    by_cases hlt : j < T.length
    · obtain ⟨zo, rfl, hc⟩ := HS.out.zs.at_ (by omega)
      have ck := hc j hlt
      have HTD := hide (take_dec T N j hlt)
      have hlk : (j : Int) < (T.length : Int) := by omega
      have hj0 : (0 : Int) ≤ (j : Int) := by omega
      have HPR : Hid (∀ i, i + 1 = j → ∀ h : i < T.length, T[i] < T[j]) := fun i hi hh => List.pairwise_iff_getElem.1 HRI.out i j hh hlt (by omega)
      have HCI : Hid (∀ i, ∀ h : i < T.length, ∀ W, Only (fun _ => False) wr W → W.cell? ⟨BT, zo + i, none⟩ = some (.int .i64 T[i])) := fun i hh W ho => (ho.cell (p := ⟨BT, zo + i, none⟩) (HS.out.zs.lt (by omega)) (fun h => h)).trans (hc i hh)
      obtain ⟨x, hx⟩ : ∃ x, T[j] = x := ⟨_, rfl⟩
      rw [hx] at ck HTD HPR
      have HCX : Hid (∀ W, Only (fun _ => False) wr W → W.cell? ⟨BT, zo + j, none⟩ = some (.int .i64 x)) := fun W ho => by rw [← hx]; exact HCI.out j hlt W ho
      obtain ⟨bb, hbb⟩ : ∃ b, decide (N ∈ T.take j) = b := ⟨_, rfl⟩
      rw [hbb] at HTD ⊢
      have c6 := HS.out.ob.c6
      clear hc hx hbb
      have HFIN : Hid (∃ nb, nb = (bb || (x == N)) ∧ decide (N ∈ T.take (j + 1)) = nb) := ⟨_, rfl, HTD.out⟩
      obtain ⟨nb, hnb, hnt⟩ := HFIN.out
      have HNT := hide hnt
      clear HFIN hnt HTD
      go_upto_region 6 with fail
      go_cut [8] (fun t wc => t = .bool nb ∧ Hid (Only (fun _ => False) wr wc))
      case first =>
        cases bb with
        | true =>
          have hnb2 : nb = true := by rw [hnb]; rfl
          clear hnb
          subst hnb2
          go_region
          all_goals (go_wp2_with fail; go_meet; exact ⟨rfl, hide (Only.drew _ _)⟩)
        | false =>
          have hnb2 : nb = (x == N) := by rw [hnb]; rfl
          clear hnb
          subst hnb2
          go_region
          all_goals (go_wp2_with fail; go_meet; exact ⟨rfl, hide (Only.drew _ _)⟩)
      case rest =>
        obtain ⟨rfl, HO⟩ := hcut
        have HS1 := hide (HS.out.more HO.out)
        have cx := HCX.out _ HO.out
        clear c6 ck hnb HS HCX
        by_cases hj1 : j = 0
        · subst hj1
          go_upto_region 7 with fail
          go_region
          all_goals (
            go_wp2_with fail
            clear cx
            go_roundw
            case rel => exact ⟨0 + 1, by omega, by go_num, by rw [← HNT.out], hide (HS1.out.more (Only.drew _ _))⟩
            case measure => simp [intOf]; omega)
        · obtain ⟨i, rfl⟩ : ∃ i, j = i + 1 := ⟨j - 1, by omega⟩
          have ci := HCI.out i (by omega) _ HO.out
          have hlt2 := HPR.out i rfl (by omega)
          obtain ⟨y, hy⟩ : ∃ y, T[i] = y := ⟨_, rfl⟩
          rw [hy] at ci hlt2
          have hnle : ¬ x ≤ y := by omega
          have hi0 : (0 : Int) ≤ (i : Int) := by omega
          have hi1 : (i : Int) < (T.length : Int) := by omega
          have hsub : ((i + 1 : Nat) : Int) - 1 = (i : Int) := by omega
          have hpos : (0 : Int) < ((i + 1 : Nat) : Int) := by omega
          have hwr : IntKind.i64.wrap (i : Int) = (i : Int) := wraps_i64 _ (by omega) (by omega)
          clear hy HPR HCI HRI
          obtain ⟨jj, hjj⟩ : ∃ jj, i + 1 = jj := ⟨_, rfl⟩
          rw [hjj] at hsub hpos hlk hj0 cx HNT hlt ⊢
          have hpn : 0 < jj := by omega
          have hdp : decide ((0 : Int) < (jj : Int)) = true := decide_eq_true hpos
          have hdn : decide (0 < jj) = true := decide_eq_true hpn
          go_upto_region 7 with fail
          go_region
          all_goals (
            go_wp2_with fail
            clear cx ci
            go_roundw
            case rel => exact ⟨jj + 1, by omega, by go_num, by rw [← HNT.out], hide (HS1.out.more (Only.drew _ _))⟩
            case measure => simp [intOf]; omega)
    · have hlk : ¬ (j : Int) < (T.length : Int) := by omega
      rw [List.take_of_length_le (by omega)]
      obtain ⟨c0, c1, c2, c3, c4, c5, c6, _⟩ := HS.out.ob
      obtain ⟨bb, hbb⟩ : ∃ b, decide (N ∈ T) = b := ⟨_, rfl⟩
      rw [hbb]
      have HBB := hide hbb
      clear hbb
      go_wp2_with (refine wpList_load_rc rfl (.tmp 5) rfl (w.heap.size + 1) rfl R L HS.out.rb.range ?_; go_frame)
      refine (HD1.out _ HS.out.only).mono ?_
      rintro e w2 ⟨B3, ao3, cp3, rfl, hS3, hF3, ho3, _⟩
      have HA2 := hide (onlyA w2 (.cells #[.int .i64 A.lsn, .int .i64 A.kind, .int .i64 A.level, .int .i64 A.right, .string A.high, .slice ao3 A.items.length cp3] 24))
      have HS2 := hide ((HS.out.more ho3).more HA2.out)
      have HQ2 := hide (Pag.new w2 (.int .i64 A.lsn) (.int .i64 A.kind) (.int .i64 A.level) (.int .i64 A.right) (.string A.high) (.slice ao3 A.items.length cp3))
      have HU2 := hide (hS3.more HA2.out)
      clear c0 c1 c2 c3 c4 c5 c6 hS3 hF3 ho3 HS HA2 HD1
      go_upto_region 10 with fail
      obtain ⟨b9, hb9⟩ : ∃ b, w2.heap.size = b := ⟨_, rfl⟩
      rw [hb9] at HQ2 ⊢
      clear hb9
      obtain ⟨w3, hw3⟩ : ∃ x, w2.alloc (.cells #[.int .i64 A.lsn, .int .i64 A.kind, .int .i64 A.level, .int .i64 A.right, .string A.high, .slice ao3 A.items.length cp3] 24) = x := ⟨_, rfl⟩
      rw [hw3] at HS2 HQ2 HU2 ⊢
      clear hw3
      cases bb with
      | false =>
        obtain ⟨eA, eC⟩ := HOUT.out (of_decide_eq_false HBB.out)
        subst eA eC
        clear HOUT HIN HBB
        obtain ⟨c0, c1, c2, c3, c4, c5, c6, _⟩ := HS2.out.ob
        obtain ⟨q0, q1, q2, q3, q4, q5, _⟩ := HQ2.out
        go_wp2_with fail
        refine (ysame_any w3 A.lsn A.kind A.level A.right A.lsn A.kind A.level A.right A.high A.high _ _ cp3 cp ao3 ao A.items A.items HU2.out (HSP.out _ HS2.out.only)).mono ?_
        rintro e w6 ⟨rfl, ho6⟩
        rw [decide_eq_true (show A.lsn = A.lsn ∧ A.kind = A.kind ∧ A.level = A.level ∧ A.right = A.right ∧ A.high = A.high ∧ A.items = A.items from ⟨rfl, rfl, rfl, rfl, rfl, rfl⟩)]
        have HO6 := hide (o2 HS2.out.only ho6)
        clear c0 c1 c2 c3 c4 c5 c6 q0 q1 q2 q3 q4 q5 ho6 HS2 HQ2 HU2
        go_wp2_with fail
        refine (HAW.out _).mono ?_
        rintro e w7 ⟨rfl, ho7⟩
        go_wp2_with fail
        go_ret
        exact ⟨rfl, o2 HO6.out ho7⟩
      | true =>
        have HI2 := hide (HIN.out (of_decide_eq_true HBB.out))
        clear HOUT HIN HBB
        have q0 := HQ2.out.c0
        have r0 := HS2.out.rb.bx.c0
        by_cases hC : C = 0
        · have hle : R.lsn ≤ A.lsn := HI2.out.elim (fun k => absurd hC k) id
          have hnlt : ¬ A.lsn < R.lsn := by omega
          subst hC
          go_wp2_with fail
          refine (HAW.out _).mono ?_
          rintro e w7 ⟨rfl, ho7⟩
          go_wp2_with fail
          go_ret
          exact ⟨rfl, o2 HS2.out.only ho7⟩
        · have hCb : (C == 0) = false := by simpa using hC
          go_wp2_with fail
          refine (HAW.out _).mono ?_
          rintro e w7 ⟨rfl, ho7⟩
          go_wp2_with fail
          go_ret
          exact ⟨rfl, o2 HS2.out.only ho7⟩
end Go.Proofs.YtnpdmlkgcjggoaaGreat
