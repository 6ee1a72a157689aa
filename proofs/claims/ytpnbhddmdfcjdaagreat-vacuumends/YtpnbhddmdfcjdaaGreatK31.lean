/- Parts. -/
import Derived.Test.YtpnbhddmdfcjdaaGreatK27
set_option maxRecDepth 100000
namespace Go.Proofs.YtpnbhddmdfcjdaaGreat
open Go.RowKit
set_option maxRecDepth 100000 in
set_option maxHeartbeats 3200000 in
theorem changed_X (w : World) (a k v r : Int) (h : ByteArray) (base : Nat) (sl : Value) (l : List ByteArray) (hL : Ls w base sl l) (hsz : ∀ s ∈ l, s.size ≤ 140737488355328) (ss : List Int) (zb zc : Nat) (za : Option Addr) (hz : Zs w zb za ss) (hzn : 0 < ss.length → ¬ sl.ownBlock = some zb) :
    Calls Tryz.prog 117 #[.agg #[.int .i64 a, .int .i64 k, .int .i64 v, .int .i64 r, .string h, sl], .func (.func 126) #[] #[], .slice za ss.length zc] w fun e w' => ChQ w w' base sl e ⟨a, k, v, r, h, [⟨#[]⟩]⟩ (chgL cgX ss l) := by
  have HF : Hid (∀ W t, t.ok = true → Only (fun j => sl.ownBlock = some j) w W → Calls Tryz.prog 126 #[t.agg] W fun e w' => e = .returned (.tuple #[.string (cgX t).1, .int .i64 (cgX t).2]) ∧ Only (fun _ => False) W w') := fun W t ht ho => apendless_any t W ht
  have HC0 := hide (Ck.start w a k v r h base sl l hL hsz)
  have HSZ : Hid (∀ t, (cgX t).1.size ≤ 140737488355328) := fun t => Nat.le_trans (cgX_size t) (by decide)
  have HZ : Hid (∀ W, Only (fun j => sl.ownBlock = some j) w W → Zs W zb za ss) := fun W ho => hz.kept ho hzn
  have hzl := hz.len
  obtain ⟨X, hX⟩ : ∃ X, chgL cgX ss l = X := ⟨_, rfl⟩
  rw [hX]
  have HX := hide hX
  obtain ⟨ao, cp, hform⟩ : ∃ ao cp, sl = .slice ao l.length cp := by
    rcases hL.2 with ⟨rfl, h0⟩ | ⟨g, cap, cur, rfl, _⟩
    · exact ⟨none, 0, by rw [h0]⟩
    · exact ⟨_, _, rfl⟩
  clear hX hL hsz hz hzn
  subst hform
  go_enter Tryz.func117, Tryz.ntmps117
  go_upto_region 1 with fail
  obtain ⟨W0, hW0⟩ : ∃ x, (w.alloc (.cells #[.int .i64 a, .int .i64 k, .int .i64 v, .int .i64 r, .string h, .slice ao l.length cp] 30)).alloc (.cells #[.int .i64 0, .int .i64 0, .int .i64 0, .int .i64 0, .string ⟨#[]⟩, .slice none 0 0] 30) = x := ⟨_, rfl⟩
  unfold boxes at HC0
  rw [hW0] at HC0 ⊢
  clear hW0
  go_wp2_with fail
  go_loopw [15] (fun i wr => ∃ (j : Nat) (m : List ByteArray), j ≤ ss.length ∧ i = .int .i64 (j : Int) ∧ m.length = l.length ∧ Hid (Ck w wr (w.heap.size + 1) a k v r h base (.slice ao l.length cp) m) ∧ Hid (chgL cgX (ss.drop j) m = X)) (fun i _ => ss.length - (intOf i).toNat)
  case atStart => exact ⟨0, l, Nat.zero_le _, rfl, rfl, HC0, HX⟩
  case round =>
    clear HC0 HX
    obtain ⟨j, m, hj, rfl, hm, HC, HX⟩ := hrel
    by_cases hlt : j < ss.length
    · obtain ⟨zo, rfl, hc⟩ := (HZ.out _ HC.out.only).at_ (by omega)
      have ck := hc j hlt
      have hlk : (j : Int) < (ss.length : Int) := by omega
      rw [List.drop_eq_getElem_cons hlt, chgL_cons] at HX
      obtain ⟨s, hs⟩ : ∃ s, ss[j] = s := ⟨_, rfl⟩
      rw [hs] at ck HX
      rw [hm] at HX
      clear hc hs
      obtain ⟨p0, p1, p2, p3, p4, p5, _⟩ := HC.out.pag
      go_wp2_with fail
      refine (hasSlot_any _ a k v r s h cp l.length ao).mono ?_
      rintro e w1 ⟨rfl, ho⟩
      have HC1 := hide (HC.out.more ho)
      clear ho p0 p1 p2 p3 p4 p5 ck HC
      cases hok : okS l.length s with
      | false =>
        rw [hok, if_neg (by decide)] at HX
        have HE : Hid (X.2 = 110) := by unfold Hid; rw [← HX.out]
        clear HX hok
        obtain ⟨q0, q1, q2, q3, q4, q5, g0, g1, g2, g3, g4, g5, ql⟩ := HC1.out.res
        go_wp2_with fail
        refine bodyPost_ret (results_page rfl rfl (Pag.six HC1.out.res _ _ _ _ _ _)) rfl ?_
        exact HC1.out.fail 110 HE.out (by decide) _ _ _ _ _ _
      | true =>
        rw [hok, if_pos rfl] at HX
        rw [okS_iff] at hok
        obtain ⟨i, rfl⟩ : ∃ i : Nat, s = (i : Int) := ⟨s.toNat, by omega⟩
        have hi : i < m.length := by omega
        obtain ⟨g, cap, hf⟩ := HC1.out.form (by omega)
        rw [hm] at hf
        cases hf
        obtain ⟨ci, fi⟩ := HC1.out.item hm.symm.symm i hi
        have hil : (i : Int) < (l.length : Int) := by omega
        have hi0 : (0 : Int) ≤ (i : Int) := by omega
        rw [itS_at hi, Int.toNat_natCast] at HX
        obtain ⟨it, hit⟩ : ∃ it, m[i] = it := ⟨_, rfl⟩
        rw [hit] at ci HX
        clear hit
        have p5 := HC1.out.pag.c5
        cases hd : decT (bl it) with
        | none =>
          have HD : Hid (∀ W, Calls Tryz.prog 53 #[.string it] W fun e w' => e = .returned (.tuple #[.agg #[.int .i64 0, .int .i64 0, .bool false, .string ⟨#[]⟩, .string ⟨#[]⟩], .int .i64 110]) ∧ Only (fun _ => False) W w') := fun W => by
            have := udecode_any it W
            rw [hd] at this
            exact this
          rw [hd] at HX
          have HE : Hid (X.2 = 110) := by unfold Hid; rw [← HX.out]
          clear HX hd
          go_wp2_with fail
          refine (HD.out _).mono ?_
          rintro e w2 ⟨rfl, ho⟩
          have HC2 := hide ((HC1.out.more ho).more (onlyA w2 (.cells #[.int .i64 0, .int .i64 0, .bool false, .string ⟨#[]⟩, .string ⟨#[]⟩] 62)))
          clear ho p5 ci fi HC1 HD
          obtain ⟨q0, q1, q2, q3, q4, q5, g0, g1, g2, g3, g4, g5, ql⟩ := HC2.out.res
          go_upto_region 7 with fail
          obtain ⟨W3, hW3⟩ : ∃ x, w2.alloc (.cells #[.int .i64 0, .int .i64 0, .bool false, .string ⟨#[]⟩, .string ⟨#[]⟩] 62) = x := ⟨_, rfl⟩
          rw [hW3] at HC2 q0 q1 q2 q3 q4 q5 g0 g1 g2 g3 g4 g5 ql ⊢
          clear hW3
          go_wp2_with fail
          refine bodyPost_ret (results_page rfl rfl (Pag.six HC2.out.res _ _ _ _ _ _)) rfl ?_
          exact HC2.out.fail 110 HE.out (by decide) _ _ _ _ _ _
        | some t =>
          have HD : Hid (∀ W, Calls Tryz.prog 53 #[.string it] W fun e w' => e = .returned (.tuple #[.agg #[.int .i64 t.xmin, .int .i64 t.xmax, .bool t.frozen, .string t.key, .string t.value], .int .i64 0]) ∧ Only (fun _ => False) W w') := fun W => by
            have := udecode_any it W
            rw [hd] at this
            exact this
          have HFT := hide (fun W ho => HF.out W t (enc_decT hd).1 ho)
          have hst := HSZ.out t
          rw [hd] at HX
          clear hd
          have HX := hide (show (if (cgX t).2 = 0 then chgL cgX (ss.drop (j + 1)) (m.set i (cgX t).1) else ([], (cgX t).2)) = X from HX.out)
          obtain ⟨y, hy⟩ : ∃ y, (cgX t).1 = y := ⟨_, rfl⟩
          obtain ⟨z, hz⟩ : ∃ z, (cgX t).2 = z := ⟨_, rfl⟩
          rw [hy, hz] at HX HFT
          rw [hy] at hst
          clear hy hz
          unfold Tu.agg at HFT
          go_wp2_with fail
          refine (HD.out _).mono ?_
          rintro e w2 ⟨rfl, ho⟩
          have HA := hide (onlyA w2 (.cells #[.int .i64 t.xmin, .int .i64 t.xmax, .bool t.frozen, .string t.key, .string t.value] 62))
          have HB := hide (Tb.new w2 t)
          have HC2 := hide ((HC1.out.more ho).more HA.out)
          clear ho p5 ci fi HC1 HD HA
          go_upto_region 7 with fail
          obtain ⟨b, hb⟩ : ∃ b, w2.heap.size = b := ⟨_, rfl⟩
          rw [hb] at HB ⊢
          clear hb
          obtain ⟨W3, hW3⟩ : ∃ x, w2.alloc (.cells #[.int .i64 t.xmin, .int .i64 t.xmax, .bool t.frozen, .string t.key, .string t.value] 62) = x := ⟨_, rfl⟩
          rw [hW3] at HC2 HB ⊢
          clear hW3
          obtain ⟨c0, c1, c2, c3, c4, _⟩ := HB.out
          go_wp2_with fail
          refine (HFT.out _ HC2.out.only).mono ?_
          rintro e w4 ⟨rfl, ho⟩
          have HC4 := hide (HC2.out.more ho)
          clear ho c0 c1 c2 c3 c4 HC2 HB HFT
          by_cases hz0 : z = 0
          · rw [if_pos hz0] at HX
            subst hz0
            obtain ⟨ci, fi⟩ := HC4.out.item hm i hi
            have p5 := HC4.out.pag.c5
            have HC5 := hide (HC4.out.set hm i y hst)
            obtain ⟨it2, hit2⟩ : ∃ it, m[i] = it := ⟨_, rfl⟩
            rw [hit2] at ci
            clear hit2
            go_wp2_with fail
            clear HC4 ci fi p5
            go_roundw
            case rel => exact ⟨j + 1, m.set i y, by omega, by go_num, by rw [List.length_set]; exact hm, HC5, HX⟩
            case measure => simp [intOf]; omega
          · have hzb : (z == 0) = false := by simpa using hz0
            rw [if_neg hz0] at HX
            have HE : Hid (X.2 = z) := by unfold Hid; rw [← HX.out]
            clear HX
            obtain ⟨q0, q1, q2, q3, q4, q5, g0, g1, g2, g3, g4, g5, ql⟩ := HC4.out.res
            go_wp2_with fail
            refine bodyPost_ret (results_page rfl rfl (Pag.six HC4.out.res _ _ _ _ _ _)) rfl ?_
            exact HC4.out.fail z HE.out hz0 _ _ _ _ _ _
    · have hlk : ¬ (j : Int) < (ss.length : Int) := by omega
      rw [List.drop_of_length_le (by omega), chgL] at HX
      obtain ⟨p0, p1, p2, p3, p4, p5, _⟩ := HC.out.pag
      obtain ⟨q0, q1, q2, q3, q4, q5, g0, g1, g2, g3, g4, g5, ql⟩ := HC.out.res
      go_wp2_with fail
      refine bodyPost_ret (results_page rfl rfl (Pag.six HC.out.res _ _ _ _ _ _)) rfl ?_
      exact HC.out.done HX.out _ _ _ _ _ _
end Go.Proofs.YtpnbhddmdfcjdaaGreat
