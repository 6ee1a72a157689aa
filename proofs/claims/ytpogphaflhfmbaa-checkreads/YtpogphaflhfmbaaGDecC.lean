/- What Decode does. -/
import Derived.Test.YtpogphaflhfmbaaGDec
namespace Go.Proofs.Ytpogphaflhfmbaa
open Go.RowKit

theorem ba_neG {s t : ByteArray} (h : ¬ s = t) : (s.toList == t.toList) = false := by
  cases e : (s.toList == t.toList) with
  | false => rfl
  | true =>
    refine absurd ?_ h
    have e' : s.toList = t.toList := by simpa using e
    rw [ByteArray.toList_eq, ByteArray.toList_eq] at e'
    rw [← str_bl s, ← str_bl t]
    exact congrArg str e'
theorem noC_agg : noC.agg = .agg #[.int .i64 0, .int .i64 0, .int .i64 0, .int .i64 0, .int .i64 0, .int .i64 0, .int .i64 0] := rfl
theorem out_noC : outC none = .tuple #[noC.agg, .int .i64 223] := rfl
theorem out_someC (c : Ct) : outC (some c) = .tuple #[c.agg, .int .i64 0] := rfl
theorem dec_none {b : List UInt8} {z : Int} (h : ¬ Dc b z) : decC b z = none := if_neg h
theorem dec_some {b : List UInt8} {z : Int} (h : Dc b z) : decC b z = some (rdC b) := if_pos h
set_option maxRecDepth 100000 in
set_option maxHeartbeats 1600000 in
theorem decode_size (s : ByteArray) (z : Int) (w : World) (h : ¬ s.size = 64) :
    Calls Try.prog 18 #[.string s, .int .i64 z] w fun e w' => e = .returned (.tuple #[noC.agg, .int .i64 223]) ∧ Only (fun _ => False) w w' := by
  have HB := hide (Cb.new w noC)
  have HO := hide (onlyA w (.cells #[.int .i64 0, .int .i64 0, .int .i64 0, .int .i64 0, .int .i64 0, .int .i64 0, .int .i64 0] 25))
  have hlt : w.heap.size ≤ w.heap.size := Nat.le_refl _
  unfold noC at HB
  simp only at HB
  obtain ⟨W0, hW0⟩ : ∃ x, w.alloc (.cells #[.int .i64 0, .int .i64 0, .int .i64 0, .int .i64 0, .int .i64 0, .int .i64 0, .int .i64 0] 25) = x := ⟨_, rfl⟩
  rw [hW0] at HB HO
  have hs : ((s.size : Int) != 64) = true := by
    have : ¬ (s.size : Int) = 64 := by omega
    simpa using this
  have hs2 : ¬ (s.size : Int) = 64 := by omega
  go_enter Try.func18, Try.ntmps18
  go_upto_region 1 with fail
  clear hW0
  obtain ⟨c0, c1, c2, c3, c4, c5, c6, cf0, cf1, cf2, cf3, cf4, cf5, cf6, _⟩ := HB.out
  go_wp2_with fail
  refine bodyPost_ret (results_ct rfl rfl (HB.out.all noC)) rfl ?_
  exact ⟨rfl, newer w.heap.size (Only.seven _ _ _ _ _ _ _ _ _) HO.out hlt⟩
set_option maxRecDepth 100000 in
set_option maxHeartbeats 1600000 in
theorem decode_notok (s : ByteArray) (z : Int) (w : World) (h : s.size = 64) (hok : ¬ (rdC (bl s)).ok) :
    Calls Try.prog 18 #[.string s, .int .i64 z] w fun e w' => e = .returned (.tuple #[noC.agg, .int .i64 223]) ∧ Only (fun _ => False) w w' := by
  obtain ⟨c, hc⟩ : ∃ c, rdC (bl s) = c := ⟨_, rfl⟩
  have HR := hide (fun W => read_any s W (by omega))
  have hn : 0 ≤ c.n := by have := (rdC_bd (bl s) (by rw [bl_len]; omega)).2.2.2.2.1.1; rw [hc] at this; exact this
  rw [hc] at HR hok
  clear hc
  have HI := hide (fun W => isControl_any c W)
  simp only [decide_eq_false hok] at HI
  clear hok
  clear hn
  have hs : ((s.size : Int) != 64) = false := by
    have : (s.size : Int) = 64 := by omega
    simpa using this
  clear h
  unfold Ct.agg at HR HI
  have HB := hide (Cb.new w noC)
  have HO := hide (onlyA w (.cells #[.int .i64 0, .int .i64 0, .int .i64 0, .int .i64 0, .int .i64 0, .int .i64 0, .int .i64 0] 25))
  have hlt : w.heap.size ≤ w.heap.size := Nat.le_refl _
  unfold noC at HB
  simp only at HB
  obtain ⟨W0, hW0⟩ : ∃ x, w.alloc (.cells #[.int .i64 0, .int .i64 0, .int .i64 0, .int .i64 0, .int .i64 0, .int .i64 0, .int .i64 0] 25) = x := ⟨_, rfl⟩
  rw [hW0] at HB HO
  go_enter Try.func18, Try.ntmps18
  go_upto_region 1 with fail
  clear hW0
  go_wp2_with fail
  refine (HR.out _).mono ?_
  rintro e w1 ⟨rfl, ho1⟩
  have HB1 := hide (HB.out.more ho1)
  have HC1 := hide (Cb.new w1 c)
  have HO1 := hide (o2 HO.out ho1)
  have HO2 := hide (onlyA w1 (.cells #[.int .i64 c.f, .int .i64 c.m, .int .i64 c.l, .int .i64 c.p, .int .i64 c.n, .int .i64 c.s, .int .i64 c.k] 25))
  clear ho1
  go_upto_region 4 with fail
  obtain ⟨W1, hW1⟩ : ∃ x, w1.alloc (.cells #[.int .i64 c.f, .int .i64 c.m, .int .i64 c.l, .int .i64 c.p, .int .i64 c.n, .int .i64 c.s, .int .i64 c.k] 25) = x := ⟨_, rfl⟩
  rw [hW1] at HC1 HO2 ⊢
  clear hW1
  obtain ⟨c0, c1, c2, c3, c4, c5, c6, _, _, _, _, _, _, _, _⟩ := HC1.out
  go_wp2_with fail
  refine (HI.out _).mono ?_
  rintro e w2 ⟨rfl, ho2⟩
  have HO3 := hide (o2 HO2.out ho2)
  have HC2 := hide (HC1.out.more ho2)
  clear ho2
  clear c0 c1 c2 c3 c4 c5 c6
  have HBR := hide (HB1.out.more HO3.out)
  obtain ⟨d0, d1, d2, d3, d4, d5, d6, df0, df1, df2, df3, df4, df5, df6, _⟩ := HBR.out
  go_wp2_with fail
  refine bodyPost_ret (results_ct rfl rfl (HBR.out.all noC)) rfl ?_
  exact ⟨rfl, newer w.heap.size (Only.seven _ _ _ _ _ _ _ _ _) (o2 HO1.out HO3.out) hlt⟩
set_option maxRecDepth 100000 in
set_option maxHeartbeats 1600000 in
theorem decode_other (s : ByteArray) (z : Int) (w : World) (h : s.size = 64) (hok : (rdC (bl s)).ok) (heq : ¬ (rdC (bl s)).lay = bl s) :
    Calls Try.prog 18 #[.string s, .int .i64 z] w fun e w' => e = .returned (.tuple #[noC.agg, .int .i64 223]) ∧ Only (fun _ => False) w w' := by
  obtain ⟨c, hc⟩ : ∃ c, rdC (bl s) = c := ⟨_, rfl⟩
  have HR := hide (fun W => read_any s W (by omega))
  have hn : 0 ≤ c.n := by have := (rdC_bd (bl s) (by rw [bl_len]; omega)).2.2.2.2.1.1; rw [hc] at this; exact this
  rw [hc] at HR hok heq
  clear hc
  have HI := hide (fun W => isControl_any c W)
  simp only [decide_eq_true hok] at HI
  have HL := hide (fun W => lay_any c W hok)
  obtain ⟨L, hL⟩ : ∃ L, str c.lay = L := ⟨_, rfl⟩
  rw [hL] at HL
  have hLs : ¬ L = s := fun e => heq (by rw [← hL] at e; rw [← e, bl_str])
  have hne : (!L.toList == s.toList) = true := by simp only [ba_neG hLs, Bool.not_false]
  clear hok hL hLs heq
  clear hn
  have hs : ((s.size : Int) != 64) = false := by
    have : (s.size : Int) = 64 := by omega
    simpa using this
  clear h
  unfold Ct.agg at HR HI HL
  have HB := hide (Cb.new w noC)
  have HO := hide (onlyA w (.cells #[.int .i64 0, .int .i64 0, .int .i64 0, .int .i64 0, .int .i64 0, .int .i64 0, .int .i64 0] 25))
  have hlt : w.heap.size ≤ w.heap.size := Nat.le_refl _
  unfold noC at HB
  simp only at HB
  obtain ⟨W0, hW0⟩ : ∃ x, w.alloc (.cells #[.int .i64 0, .int .i64 0, .int .i64 0, .int .i64 0, .int .i64 0, .int .i64 0, .int .i64 0] 25) = x := ⟨_, rfl⟩
  rw [hW0] at HB HO
  go_enter Try.func18, Try.ntmps18
  go_upto_region 1 with fail
  clear hW0
  go_wp2_with fail
  refine (HR.out _).mono ?_
  rintro e w1 ⟨rfl, ho1⟩
  have HB1 := hide (HB.out.more ho1)
  have HC1 := hide (Cb.new w1 c)
  have HO1 := hide (o2 HO.out ho1)
  have HO2 := hide (onlyA w1 (.cells #[.int .i64 c.f, .int .i64 c.m, .int .i64 c.l, .int .i64 c.p, .int .i64 c.n, .int .i64 c.s, .int .i64 c.k] 25))
  clear ho1
  go_upto_region 4 with fail
  obtain ⟨W1, hW1⟩ : ∃ x, w1.alloc (.cells #[.int .i64 c.f, .int .i64 c.m, .int .i64 c.l, .int .i64 c.p, .int .i64 c.n, .int .i64 c.s, .int .i64 c.k] 25) = x := ⟨_, rfl⟩
  rw [hW1] at HC1 HO2 ⊢
  clear hW1
  obtain ⟨c0, c1, c2, c3, c4, c5, c6, _, _, _, _, _, _, _, _⟩ := HC1.out
  go_wp2_with fail
  refine (HI.out _).mono ?_
  rintro e w2 ⟨rfl, ho2⟩
  have HO3 := hide (o2 HO2.out ho2)
  have HC2 := hide (HC1.out.more ho2)
  clear ho2
  clear c0 c1 c2 c3 c4 c5 c6
  obtain ⟨c0, c1, c2, c3, c4, c5, c6, _, _, _, _, _, _, _, _⟩ := HC2.out
  go_wp2_with fail
  refine (HL.out _).mono ?_
  rintro e w3 ⟨rfl, ho3⟩
  have HO4 := hide (o2 HO3.out ho3)
  have HC3 := hide (HC2.out.more ho3)
  clear ho3
  clear c0 c1 c2 c3 c4 c5 c6
  obtain ⟨c0, c1, c2, c3, c4, c5, c6, _, _, _, _, _, _, _, _⟩ := HC3.out
  have HBR := hide (HB1.out.more HO4.out)
  obtain ⟨d0, d1, d2, d3, d4, d5, d6, df0, df1, df2, df3, df4, df5, df6, _⟩ := HBR.out
  go_wp2_with fail
  refine bodyPost_ret (results_ct rfl rfl (HBR.out.all noC)) rfl ?_
  exact ⟨rfl, newer w.heap.size (Only.seven _ _ _ _ _ _ _ _ _) (o2 HO1.out HO4.out) hlt⟩
set_option maxRecDepth 100000 in
set_option maxHeartbeats 1600000 in
theorem decode_place (s : ByteArray) (z : Int) (w : World) (h : s.size = 64) (hok : (rdC (bl s)).ok) (heq : (rdC (bl s)).lay = bl s) (hpar : ¬ (rdC (bl s)).n % 2 = z) :
    Calls Try.prog 18 #[.string s, .int .i64 z] w fun e w' => e = .returned (.tuple #[noC.agg, .int .i64 223]) ∧ Only (fun _ => False) w w' := by
  obtain ⟨c, hc⟩ : ∃ c, rdC (bl s) = c := ⟨_, rfl⟩
  have HR := hide (fun W => read_any s W (by omega))
  have hn : 0 ≤ c.n := by have := (rdC_bd (bl s) (by rw [bl_len]; omega)).2.2.2.2.1.1; rw [hc] at this; exact this
  rw [hc] at HR hok heq hpar
  clear hc
  have HI := hide (fun W => isControl_any c W)
  simp only [decide_eq_true hok] at HI
  have HL := hide (fun W => lay_any c W hok)
  obtain ⟨L, hL⟩ : ∃ L, str c.lay = L := ⟨_, rfl⟩
  rw [hL] at HL
  have hLs : L = s := by rw [← hL, heq, str_bl]
  have hne : (!L.toList == s.toList) = false := by simp only [ba_eqG hLs, Bool.not_true]
  clear hok hL hLs heq
  have ht : c.n.tmod 2 = c.n % 2 := tmod2 hn
  have hp : (c.n % 2 != z) = true := by simpa using hpar
  clear hpar
  clear hn
  have hs : ((s.size : Int) != 64) = false := by
    have : (s.size : Int) = 64 := by omega
    simpa using this
  clear h
  unfold Ct.agg at HR HI HL
  have HB := hide (Cb.new w noC)
  have HO := hide (onlyA w (.cells #[.int .i64 0, .int .i64 0, .int .i64 0, .int .i64 0, .int .i64 0, .int .i64 0, .int .i64 0] 25))
  have hlt : w.heap.size ≤ w.heap.size := Nat.le_refl _
  unfold noC at HB
  simp only at HB
  obtain ⟨W0, hW0⟩ : ∃ x, w.alloc (.cells #[.int .i64 0, .int .i64 0, .int .i64 0, .int .i64 0, .int .i64 0, .int .i64 0, .int .i64 0] 25) = x := ⟨_, rfl⟩
  rw [hW0] at HB HO
  go_enter Try.func18, Try.ntmps18
  go_upto_region 1 with fail
  clear hW0
  go_wp2_with fail
  refine (HR.out _).mono ?_
  rintro e w1 ⟨rfl, ho1⟩
  have HB1 := hide (HB.out.more ho1)
  have HC1 := hide (Cb.new w1 c)
  have HO1 := hide (o2 HO.out ho1)
  have HO2 := hide (onlyA w1 (.cells #[.int .i64 c.f, .int .i64 c.m, .int .i64 c.l, .int .i64 c.p, .int .i64 c.n, .int .i64 c.s, .int .i64 c.k] 25))
  clear ho1
  go_upto_region 4 with fail
  obtain ⟨W1, hW1⟩ : ∃ x, w1.alloc (.cells #[.int .i64 c.f, .int .i64 c.m, .int .i64 c.l, .int .i64 c.p, .int .i64 c.n, .int .i64 c.s, .int .i64 c.k] 25) = x := ⟨_, rfl⟩
  rw [hW1] at HC1 HO2 ⊢
  clear hW1
  obtain ⟨c0, c1, c2, c3, c4, c5, c6, _, _, _, _, _, _, _, _⟩ := HC1.out
  go_wp2_with fail
  refine (HI.out _).mono ?_
  rintro e w2 ⟨rfl, ho2⟩
  have HO3 := hide (o2 HO2.out ho2)
  have HC2 := hide (HC1.out.more ho2)
  clear ho2
  clear c0 c1 c2 c3 c4 c5 c6
  obtain ⟨c0, c1, c2, c3, c4, c5, c6, _, _, _, _, _, _, _, _⟩ := HC2.out
  go_wp2_with fail
  refine (HL.out _).mono ?_
  rintro e w3 ⟨rfl, ho3⟩
  have HO4 := hide (o2 HO3.out ho3)
  have HC3 := hide (HC2.out.more ho3)
  clear ho3
  clear c0 c1 c2 c3 c4 c5 c6
  obtain ⟨c0, c1, c2, c3, c4, c5, c6, _, _, _, _, _, _, _, _⟩ := HC3.out
  have HBR := hide (HB1.out.more HO4.out)
  obtain ⟨d0, d1, d2, d3, d4, d5, d6, df0, df1, df2, df3, df4, df5, df6, _⟩ := HBR.out
  go_wp2_with fail
  refine bodyPost_ret (results_ct rfl rfl (HBR.out.all noC)) rfl ?_
  exact ⟨rfl, newer w.heap.size (Only.seven _ _ _ _ _ _ _ _ _) (o2 HO1.out HO4.out) hlt⟩
set_option maxRecDepth 100000 in
set_option maxHeartbeats 1600000 in
theorem decode_there (s : ByteArray) (z : Int) (w : World) (h : s.size = 64) (hok : (rdC (bl s)).ok) (heq : (rdC (bl s)).lay = bl s) (hpar : (rdC (bl s)).n % 2 = z) :
    Calls Try.prog 18 #[.string s, .int .i64 z] w fun e w' => e = .returned (.tuple #[(rdC (bl s)).agg, .int .i64 0]) ∧ Only (fun _ => False) w w' := by
  obtain ⟨c, hc⟩ : ∃ c, rdC (bl s) = c := ⟨_, rfl⟩
  have HR := hide (fun W => read_any s W (by omega))
  have hn : 0 ≤ c.n := by have := (rdC_bd (bl s) (by rw [bl_len]; omega)).2.2.2.2.1.1; rw [hc] at this; exact this
  rw [hc] at HR hok heq hpar ⊢
  clear hc
  have HI := hide (fun W => isControl_any c W)
  simp only [decide_eq_true hok] at HI
  have HL := hide (fun W => lay_any c W hok)
  obtain ⟨L, hL⟩ : ∃ L, str c.lay = L := ⟨_, rfl⟩
  rw [hL] at HL
  have hLs : L = s := by rw [← hL, heq, str_bl]
  have hne : (!L.toList == s.toList) = false := by simp only [ba_eqG hLs, Bool.not_true]
  clear hok hL hLs heq
  have ht : c.n.tmod 2 = c.n % 2 := tmod2 hn
  have hp : (c.n % 2 != z) = false := by simpa using hpar
  clear hpar
  clear hn
  have hs : ((s.size : Int) != 64) = false := by
    have : (s.size : Int) = 64 := by omega
    simpa using this
  clear h
  unfold Ct.agg at HR HI HL ⊢
  have HB := hide (Cb.new w noC)
  have HO := hide (onlyA w (.cells #[.int .i64 0, .int .i64 0, .int .i64 0, .int .i64 0, .int .i64 0, .int .i64 0, .int .i64 0] 25))
  have hlt : w.heap.size ≤ w.heap.size := Nat.le_refl _
  unfold noC at HB
  simp only at HB
  obtain ⟨W0, hW0⟩ : ∃ x, w.alloc (.cells #[.int .i64 0, .int .i64 0, .int .i64 0, .int .i64 0, .int .i64 0, .int .i64 0, .int .i64 0] 25) = x := ⟨_, rfl⟩
  rw [hW0] at HB HO
  go_enter Try.func18, Try.ntmps18
  go_upto_region 1 with fail
  clear hW0
  go_wp2_with fail
  refine (HR.out _).mono ?_
  rintro e w1 ⟨rfl, ho1⟩
  have HB1 := hide (HB.out.more ho1)
  have HC1 := hide (Cb.new w1 c)
  have HO1 := hide (o2 HO.out ho1)
  have HO2 := hide (onlyA w1 (.cells #[.int .i64 c.f, .int .i64 c.m, .int .i64 c.l, .int .i64 c.p, .int .i64 c.n, .int .i64 c.s, .int .i64 c.k] 25))
  clear ho1
  go_upto_region 4 with fail
  obtain ⟨W1, hW1⟩ : ∃ x, w1.alloc (.cells #[.int .i64 c.f, .int .i64 c.m, .int .i64 c.l, .int .i64 c.p, .int .i64 c.n, .int .i64 c.s, .int .i64 c.k] 25) = x := ⟨_, rfl⟩
  rw [hW1] at HC1 HO2 ⊢
  clear hW1
  obtain ⟨c0, c1, c2, c3, c4, c5, c6, _, _, _, _, _, _, _, _⟩ := HC1.out
  go_wp2_with fail
  refine (HI.out _).mono ?_
  rintro e w2 ⟨rfl, ho2⟩
  have HO3 := hide (o2 HO2.out ho2)
  have HC2 := hide (HC1.out.more ho2)
  clear ho2
  clear c0 c1 c2 c3 c4 c5 c6
  obtain ⟨c0, c1, c2, c3, c4, c5, c6, _, _, _, _, _, _, _, _⟩ := HC2.out
  go_wp2_with fail
  refine (HL.out _).mono ?_
  rintro e w3 ⟨rfl, ho3⟩
  have HO4 := hide (o2 HO3.out ho3)
  have HC3 := hide (HC2.out.more ho3)
  clear ho3
  clear c0 c1 c2 c3 c4 c5 c6
  obtain ⟨c0, c1, c2, c3, c4, c5, c6, _, _, _, _, _, _, _, _⟩ := HC3.out
  have HBR := hide (HB1.out.more HO4.out)
  obtain ⟨d0, d1, d2, d3, d4, d5, d6, df0, df1, df2, df3, df4, df5, df6, _⟩ := HBR.out
  go_wp2_with fail
  refine bodyPost_ret (results_ct rfl rfl (HBR.out.all c)) rfl ?_
  exact ⟨rfl, newer w.heap.size (Only.seven _ _ _ _ _ _ _ _ _) (o2 HO1.out HO4.out) hlt⟩
theorem decode_any (s : ByteArray) (z : Int) (w : World) : Calls Try.prog 18 #[.string s, .int .i64 z] w fun e w' => e = .returned (outC (decC (bl s) z)) ∧ Only (fun _ => False) w w' := by
  by_cases h : s.size = 64
  · by_cases hok : (rdC (bl s)).ok
    · by_cases heq : (rdC (bl s)).lay = bl s
      · by_cases hpar : (rdC (bl s)).n % 2 = z
        · rw [dec_some ⟨by rw [bl_len]; exact h, hok, heq, hpar⟩, out_someC]
          exact decode_there s z w h hok heq hpar
        · rw [dec_none (fun x => hpar x.2.2.2), out_noC]
          exact decode_place s z w h hok heq hpar
      · rw [dec_none (fun x => heq x.2.2.1), out_noC]
        exact decode_other s z w h hok heq
    · rw [dec_none (fun x => hok x.2.1), out_noC]
      exact decode_notok s z w h hok
  · rw [dec_none (fun x => h (by rw [← bl_len]; exact x.1)), out_noC]
    exact decode_size s z w h
end Go.Proofs.Ytpogphaflhfmbaa
