/- Parts. -/
import Derived.Test.YtajjakljheafjaaGreatK39
set_option maxRecDepth 100000
namespace Go.Proofs.YtajjakljheafjaaGreat
open Go.RowKit
theorem ssisBound_any (w : World) (k : ByteArray) : Calls Tryz.prog 49 #[.string k] w fun e w' => e = .returned (.bool (decide (k.size ≤ 24))) ∧ w' = w := by
  cases hb : decide (k.size ≤ 24)
  · have h1 : ¬ k.size ≤ 24 := of_decide_eq_false hb
    have h2 : decide ((k.size : Int) ≤ 24) = false := decide_eq_false (by omega)
    clear hb
    go_enter Tryz.func49, Tryz.ntmps49
    go_wp2_with fail
    go_ret
    exact ⟨rfl, rfl⟩
  · have h1 : k.size ≤ 24 := of_decide_eq_true hb
    have h2 : decide ((k.size : Int) ≤ 24) = true := decide_eq_true (by omega)
    clear hb
    go_enter Tryz.func49, Tryz.ntmps49
    go_wp2_with fail
    go_ret
    exact ⟨rfl, rfl⟩
def keyB (k : ByteArray) : Bool := decide (¬ k = ⟨#[]⟩) && decide (k.size ≤ 24)
theorem ssisKey_any (w : World) (k : ByteArray) : Calls Tryz.prog 48 #[.string k] w fun e w' => e = .returned (.bool (keyB k)) ∧ w' = w := by
  unfold keyB
  by_cases hk : k = ⟨#[]⟩
  · subst hk
    go_enter Tryz.func48, Tryz.ntmps48
    go_wp2_with fail
    go_ret
    exact ⟨rfl, rfl⟩
  · have hb := ba_neN hk
    have hb2 : k.toList.isEmpty = false := by
      rw [ByteArray.toList_eq]
      cases q : k.data.toList with
      | nil => exact absurd (by cases hq : k; rw [hq] at q; simp at q; rw [q]) hk
      | cons a l => rfl
    have HI := hide (ssisBound_any w k)
    rw [show decide (¬ k = ⟨#[]⟩) = true from decide_eq_true hk, Bool.true_and]
    obtain ⟨X, hX⟩ : ∃ X, decide (k.size ≤ 24) = X := ⟨_, rfl⟩
    rw [hX] at HI ⊢
    clear hk hX
    go_enter Tryz.func48, Tryz.ntmps48
    go_wp2_with fail
    refine HI.out.mono ?_
    rintro x w1 ⟨rfl, rfl⟩
    go_wp2_with fail
    go_ret
    exact ⟨rfl, rfl⟩
/-- What is asked for. -/
structure Aq where
  c : Int
  key : ByteArray
  tok : ByteArray
  val : ByteArray
  n : Int
abbrev Aq.ar (a : Aq) : Array Value := #[.int .u8 a.c, .string a.key, .string a.tok, .string a.val, .int .i64 a.n]
/-- Whether there is a plan of it. -/
def Aq.ok (a : Aq) (own : Int) : Bool :=
  if a.c = 2 then keyB a.key else if a.c = 3 then keyB a.key && (decide (a.val.size ≤ 64) && decide (1 ≤ own)) else if a.c = 4 then keyB a.key && decide (1 ≤ own)
  else if a.c = 5 then decide (a.key.size ≤ 24) && (decide (a.tok.size ≤ 24) && (decide (1 ≤ a.n) && decide (a.n ≤ 16))) else false
set_option maxRecDepth 100000 in
set_option maxHeartbeats 1600000 in
theorem isSound_any (w : World) (a : Aq) (own : Int) : Calls Tryz.prog 25 #[.agg a.ar, .int .i64 own] w fun e w' => e = .returned (.bool (a.ok own)) ∧ Only (fun _ => False) w w' := by
  have HO := hide (onlyA w (.cells a.ar 24))
  have HB := hide (Cb.new w a.ar.toList 24)
  have HK := hide (fun W => ssisKey_any W a.key)
  have HBK := hide (fun W => ssisBound_any W a.key)
  have HBT := hide (fun W => ssisBound_any W a.tok)
  obtain ⟨Y, hY⟩ : ∃ Y, a.ok own = Y := ⟨_, rfl⟩
  rw [hY]
  have HY := hide hY
  clear hY
  unfold Aq.ok at HY
  unfold Aq.ar at *
  obtain ⟨K, hK⟩ : ∃ X, keyB a.key = X := ⟨_, rfl⟩
  rw [hK] at HK HY
  obtain ⟨BK, hBK⟩ : ∃ X, decide (a.key.size ≤ 24) = X := ⟨_, rfl⟩
  rw [hBK] at HBK HY
  obtain ⟨BT, hBT⟩ : ∃ X, decide (a.tok.size ≤ 24) = X := ⟨_, rfl⟩
  rw [hBT] at HBT HY
  clear hK hBK hBT
  obtain ⟨W0, hW0⟩ : ∃ x, w.alloc (.cells #[.int .u8 a.c, .string a.key, .string a.tok, .string a.val, .int .i64 a.n] 24) = x := ⟨_, rfl⟩
  rw [hW0] at HO
  rw [show w.alloc (.cells [Value.int .u8 a.c, .string a.key, .string a.tok, .string a.val, .int .i64 a.n].toArray 24) = W0 from hW0] at HB
  have HW0 := hide hW0
  clear hW0
  have a0 := HB.out.c 0 _ rfl
  have a1 := HB.out.c 1 _ rfl
  have a2 := HB.out.c 2 _ rfl
  have a3 := HB.out.c 3 _ rfl
  have a4 := HB.out.c 4 _ rfl
  by_cases hc2 : a.c = 2
  · have hb2 : (a.c == 2) = true := by simp [hc2]
    rw [if_pos hc2] at HY
    clear hc2
    go_enter Tryz.func25, Tryz.ntmps25
    go_upto_region 1 with fail
    rw [HW0.out]
    clear HW0
    go_wp2_with fail
    refine (HK.out _).mono ?_
    rintro x w1 ⟨rfl, h1⟩
    obtain rfl := h1.symm
    go_wp2_with fail
    go_ret
    exact ⟨by rw [← HY.out]; rfl, HO.out⟩
  · by_cases hc3 : a.c = 3
    · have hb2 : (a.c == 2) = false := by simp [hc2]
      have hb3 : (a.c == 3) = true := by simp [hc3]
      rw [if_neg hc2, if_pos hc3] at HY
      clear hc2 hc3
      cases K
      · rw [Bool.false_and] at HY
        go_enter Tryz.func25, Tryz.ntmps25
        go_upto_region 1 with fail
        rw [HW0.out]
        clear HW0
        go_wp2_with fail
        refine (HK.out _).mono ?_
        rintro x w1 ⟨rfl, h1⟩
        obtain rfl := h1.symm
        go_wp2_with fail
        go_ret
        exact ⟨by rw [← HY.out]; rfl, HO.out⟩
      · by_cases hv : a.val.size ≤ 64
        · have hv2 : decide ((a.val.size : Int) ≤ 64) = true := decide_eq_true (by omega)
          rw [show decide (a.val.size ≤ 64) = true from decide_eq_true hv, Bool.true_and, Bool.true_and] at HY
          go_enter Tryz.func25, Tryz.ntmps25
          go_upto_region 1 with fail
          rw [HW0.out]
          clear HW0
          go_wp2_with fail
          refine (HK.out _).mono ?_
          rintro x w1 ⟨rfl, h1⟩
          obtain rfl := h1.symm
          go_wp2_with fail
          go_ret
          exact ⟨by rw [← HY.out]; rfl, HO.out⟩
        · have hv2 : decide ((a.val.size : Int) ≤ 64) = false := decide_eq_false (by omega)
          rw [show decide (a.val.size ≤ 64) = false from decide_eq_false hv, Bool.false_and, Bool.true_and] at HY
          go_enter Tryz.func25, Tryz.ntmps25
          go_upto_region 1 with fail
          rw [HW0.out]
          clear HW0
          go_wp2_with fail
          refine (HK.out _).mono ?_
          rintro x w1 ⟨rfl, h1⟩
          obtain rfl := h1.symm
          go_wp2_with fail
          go_ret
          exact ⟨by rw [← HY.out]; rfl, HO.out⟩
    · by_cases hc4 : a.c = 4
      · have hb2 : (a.c == 2) = false := by simp [hc2]
        have hb3 : (a.c == 3) = false := by simp [hc3]
        have hb4 : (a.c == 4) = true := by simp [hc4]
        rw [if_neg hc2, if_neg hc3, if_pos hc4] at HY
        clear hc2 hc3 hc4
        cases K
        · rw [Bool.false_and] at HY
          go_enter Tryz.func25, Tryz.ntmps25
          go_upto_region 1 with fail
          rw [HW0.out]
          clear HW0
          go_wp2_with fail
          refine (HK.out _).mono ?_
          rintro x w1 ⟨rfl, h1⟩
          obtain rfl := h1.symm
          go_wp2_with fail
          go_ret
          exact ⟨by rw [← HY.out]; rfl, HO.out⟩
        · rw [Bool.true_and] at HY
          go_enter Tryz.func25, Tryz.ntmps25
          go_upto_region 1 with fail
          rw [HW0.out]
          clear HW0
          go_wp2_with fail
          refine (HK.out _).mono ?_
          rintro x w1 ⟨rfl, h1⟩
          obtain rfl := h1.symm
          go_wp2_with fail
          go_ret
          exact ⟨by rw [← HY.out]; rfl, HO.out⟩
      · by_cases hc5 : a.c = 5
        · have hb2 : (a.c == 2) = false := by simp [hc2]
          have hb3 : (a.c == 3) = false := by simp [hc3]
          have hb4 : (a.c == 4) = false := by simp [hc4]
          have hb5 : (a.c == 5) = true := by simp [hc5]
          rw [if_neg hc2, if_neg hc3, if_neg hc4, if_pos hc5] at HY
          clear hc2 hc3 hc4 hc5
          cases BK
          · rw [Bool.false_and] at HY
            go_enter Tryz.func25, Tryz.ntmps25
            go_upto_region 1 with fail
            rw [HW0.out]
            clear HW0
            go_wp2_with fail
            refine (HBK.out _).mono ?_
            rintro x w1 ⟨rfl, h1⟩
            obtain rfl := h1.symm
            go_wp2_with fail
            go_ret
            exact ⟨by rw [← HY.out]; rfl, HO.out⟩
          · rw [Bool.true_and] at HY
            cases BT
            · rw [Bool.false_and] at HY
              go_enter Tryz.func25, Tryz.ntmps25
              go_upto_region 1 with fail
              rw [HW0.out]
              clear HW0
              go_wp2_with fail
              refine (HBK.out _).mono ?_
              rintro x w1 ⟨rfl, h1⟩
              obtain rfl := h1.symm
              go_wp2_with fail
              refine (HBT.out _).mono ?_
              rintro x w1 ⟨rfl, h1⟩
              obtain rfl := h1.symm
              go_wp2_with fail
              go_ret
              exact ⟨by rw [← HY.out]; rfl, HO.out⟩
            · rw [Bool.true_and] at HY
              cases hn1 : decide (1 ≤ a.n)
              · rw [hn1, Bool.false_and] at HY
                go_enter Tryz.func25, Tryz.ntmps25
                go_upto_region 1 with fail
                rw [HW0.out]
                clear HW0
                go_wp2_with fail
                refine (HBK.out _).mono ?_
                rintro x w1 ⟨rfl, h1⟩
                obtain rfl := h1.symm
                go_wp2_with fail
                refine (HBT.out _).mono ?_
                rintro x w1 ⟨rfl, h1⟩
                obtain rfl := h1.symm
                go_wp2_with fail
                go_ret
                exact ⟨by rw [← HY.out]; rfl, HO.out⟩
              · rw [hn1, Bool.true_and] at HY
                go_enter Tryz.func25, Tryz.ntmps25
                go_upto_region 1 with fail
                rw [HW0.out]
                clear HW0
                go_wp2_with fail
                refine (HBK.out _).mono ?_
                rintro x w1 ⟨rfl, h1⟩
                obtain rfl := h1.symm
                go_wp2_with fail
                refine (HBT.out _).mono ?_
                rintro x w1 ⟨rfl, h1⟩
                obtain rfl := h1.symm
                go_wp2_with fail
                go_ret
                exact ⟨by rw [← HY.out]; rfl, HO.out⟩
        · have hb2 : (a.c == 2) = false := by simp [hc2]
          have hb3 : (a.c == 3) = false := by simp [hc3]
          have hb4 : (a.c == 4) = false := by simp [hc4]
          have hb5 : (a.c == 5) = false := by simp [hc5]
          rw [if_neg hc2, if_neg hc3, if_neg hc4, if_neg hc5] at HY
          clear hc2 hc3 hc4 hc5
          go_enter Tryz.func25, Tryz.ntmps25
          go_upto_region 1 with fail
          rw [HW0.out]
          clear HW0
          go_wp2_with fail
          go_ret
          exact ⟨by rw [← HY.out]; rfl, HO.out⟩
/-- A plan at its beginning. -/
def Pn.start (a : Aq) (own : Int) : Pn := ⟨a.c, a.key, a.tok, a.val, a.n, own, 0, ⟨#[]⟩, 0, 0, none, noE, 0, 0, none, none, [], 0, false, 0, noE, ⟨#[]⟩, 0, false, ⟨#[]⟩, none, [], 0⟩
theorem run_build_start (w : World) (a : Aq) (own : Int) (p : Nat) :
    (Instr.build 96 #[(0, .agg #[.int .u8 a.c, .string a.key, .string a.tok, .string a.val, .int .i64 a.n]), (1, .int .i64 own)]).run Tryz.prog w = .ok (.agg ((Pn.start a own).cl p).toArray) w :=
  run_build w 96 _ _ (by kernel_rfl)
theorem wpList_build_start {ops : Array Oper} {rest : List Oper} {o : Oper} {a : Act} {w : World} {Q : Exit → Act → World → Prop} (hg : o.guard = none) (a0 a1 : Operand) (hop : o.op = .build 96 #[(0, a0), (1, a1)]) (q : Aq) (own : Int) (p : Nat) (h0 : a.eval a0 = .agg #[.int .u8 q.c, .string q.key, .string q.tok, .string q.val, .int .i64 q.n]) (h1 : a.eval a1 = .int .i64 own)
    (h : wpList Tryz.prog ops Q rest (a.put o.dst (.agg ((Pn.start q own).cl p).toArray)) w) : wpList Tryz.prog ops Q (o :: rest) a w := by
  refine wpList_plain hg fun K hK => ?_
  unfold Oper.wp execOp
  have e : (#[(0, a0), (1, a1)] : Array (Nat × Operand)).map (fun x => (x.1, a.eval x.2)) = #[(0, .agg #[.int .u8 q.c, .string q.key, .string q.tok, .string q.val, .int .i64 q.n]), (1, .int .i64 own)] := by
    simp only [List.map_toArray, List.map_cons, List.map_nil, h0, h1]
  simp only [hop, e, Sem.run_bind, Sem.run_pure, Result.andThen_ok, run_build_start w q own p]
  exact hK _ _ h
theorem Pm.start (w : World) (a : Aq) (own : Int) (t : TypeId) : Pm (w.alloc (.cells ((Pn.start a own).cl w.heap.size).toArray t)) (fun k => k = w.heap.size) w.heap.size (Pn.start a own) :=
  ⟨Cb.new w _ _, rfl, (fun b hb => by rw [hb]; simp), GRow.nil _ _, (fun k hk => by cases hk), 0, Els.nil _ _ _, fun q => absurd q (by simp [Pn.start])⟩
def Pn.begun (a : Aq) (own : Int) : Pn := if (Pn.start a own).chg = true then { Pn.start a own with wk := 1, wkey := a.key } else (Pn.start a own).lks
/-- What New answers. -/
def NwR (w w' : World) (e : Ending) (P : Pn) : Prop := ∃ p, w.heap.size ≤ p ∧ e = .returned (.tuple #[.pointer (some ⟨p, 0, none⟩), .int .i64 0]) ∧ Pm w' (fun k => k = p) p P ∧ Only (fun _ => False) w w'
theorem New_no (w : World) (a : Aq) (own : Int) (hk : a.ok own = false) : Calls Tryz.prog 9 #[.agg a.ar, .int .i64 own] w fun e w' => e = .returned (.tuple #[.pointer none, .int .i64 1]) ∧ Only (fun _ => False) w w' := by
  have HO := hide (onlyA w (.cells a.ar 24))
  have HB := hide (Cb.new w a.ar.toList 24)
  have HS := hide (fun W => isSound_any W a own)
  rw [hk] at HS
  clear hk
  unfold Aq.ar at *
  go_enter Tryz.func9, Tryz.ntmps9
  go_upto_region 1 with fail
  obtain ⟨W0, hW0⟩ : ∃ x, w.alloc (.cells #[.int .u8 a.c, .string a.key, .string a.tok, .string a.val, .int .i64 a.n] 24) = x := ⟨_, rfl⟩
  rw [hW0] at HO ⊢
  rw [show w.alloc (.cells [Value.int .u8 a.c, .string a.key, .string a.tok, .string a.val, .int .i64 a.n].toArray 24) = W0 from hW0] at HB
  clear hW0
  have a0 := HB.out.c 0 _ rfl
  have a1 := HB.out.c 1 _ rfl
  have a2 := HB.out.c 2 _ rfl
  have a3 := HB.out.c 3 _ rfl
  have a4 := HB.out.c 4 _ rfl
  go_wp2_with fail
  refine (HS.out _).mono ?_
  rintro x w1 ⟨rfl, ho⟩
  have HO1 := hide (o2 HO.out ho)
  clear ho
  go_wp2_with fail
  go_ret2
  exact ⟨rfl, HO1.out⟩
set_option maxRecDepth 100000 in
set_option maxHeartbeats 1600000 in
theorem New_ok (w : World) (a : Aq) (own : Int) (hk : a.ok own = true) : Calls Tryz.prog 9 #[.agg a.ar, .int .i64 own] w fun e w' => NwR w w' e (Pn.begun a own) := by
  have HO := hide (onlyA w (.cells a.ar 24))
  have HB := hide (Cb.new w a.ar.toList 24)
  have HS := hide (fun W => isSound_any W a own)
  rw [hk] at HS
  clear hk
  unfold Aq.ar at *
  go_enter Tryz.func9, Tryz.ntmps9
  go_upto_region 1 with fail
  obtain ⟨W0, hW0⟩ : ∃ x, w.alloc (.cells #[.int .u8 a.c, .string a.key, .string a.tok, .string a.val, .int .i64 a.n] 24) = x := ⟨_, rfl⟩
  rw [hW0] at HO ⊢
  rw [show w.alloc (.cells [Value.int .u8 a.c, .string a.key, .string a.tok, .string a.val, .int .i64 a.n].toArray 24) = W0 from hW0] at HB
  clear hW0
  have a0 := HB.out.c 0 _ rfl
  have a1 := HB.out.c 1 _ rfl
  have a2 := HB.out.c 2 _ rfl
  have a3 := HB.out.c 3 _ rfl
  have a4 := HB.out.c 4 _ rfl
  go_wp2_with fail
  refine (HS.out _).mono ?_
  rintro x w1 ⟨rfl, ho⟩
  have HO1 := hide (o2 HO.out ho)
  have HB1 := hide (HB.out.more ho)
  clear ho a0 a1 a2 a3 a4 HB HO HS
  have a0 := HB1.out.c 0 _ rfl
  have a1 := HB1.out.c 1 _ rfl
  have a2 := HB1.out.c 2 _ rfl
  have a3 := HB1.out.c 3 _ rfl
  have a4 := HB1.out.c 4 _ rfl
  go_upto_region 4 with (refine wpList_build_start rfl (.tmp 11) (.tmp 12) rfl a own w1.heap.size rfl rfl ?_; go_frame)
  obtain ⟨W2, hW2⟩ : ∃ x, w1.alloc (.cells ((Pn.start a own).cl w1.heap.size).toArray 96) = x := ⟨_, rfl⟩
  have HP : Hid (Pm W2 (fun k => k = w1.heap.size) w1.heap.size (Pn.start a own)) := by rw [← hW2]; exact Pm.start w1 a own 96
  have HO2 : Hid (Only (fun _ => False) w1 W2) := by rw [← hW2]; exact onlyA _ _
  rw [hW2]
  clear hW2 a0 a1 a2 a3 a4
  obtain ⟨p, hp⟩ : ∃ p, w1.heap.size = p := ⟨_, rfl⟩
  rw [hp] at HP ⊢
  have HWP : Hid (w.heap.size ≤ p) := by have := HO1.out.size; unfold Hid; omega
  have HPW : Hid (w1.heap.size = p) := hp
  clear hp
  have HC := hide (changes_any W2 _ p _ HP.out)
  have HL := hide (looks_any W2 _ p _ HP.out)
  cases hc : (Pn.start a own).chg
  · have HCE := hide hc
    rw [hc] at HC
    clear hc
    go_wp2_with fail
    refine HC.out.mono ?_
    rintro x w3 ⟨rfl, h3⟩
    obtain rfl := h3.symm
    go_wp2_with fail
    refine HL.out.mono ?_
    rintro x w4 ⟨rfl, hp, ho⟩
    have HP4 := hide hp
    have HO4 := hide ho
    clear hp ho
    go_wp2_with fail
    go_ret2
    refine ⟨p, HWP.out, rfl, ?_, (o2 HO1.out HO2.out).trans HO4.out (fun i hi e => by have := HWP.out; omega)⟩
    unfold Pn.begun
    rw [HCE.out, if_neg (by decide)]
    exact HP4.out
  · have HCE := hide hc
    rw [hc] at HC
    clear hc HL
    have HB2 := hide (HB1.out.more HO2.out)
    go_wp2_with fail
    refine HC.out.mono ?_
    rintro x w3 ⟨rfl, h3⟩
    obtain rfl := h3.symm
    have a1 := HB2.out.c 1 _ rfl
    have c6 := HP.out.cb.c 6 _ rfl
    have c7 := HP.out.cb.c 7 _ rfl
    have c8 := HP.out.cb.c 8 _ rfl
    have c9 := HP.out.cb.c 9 _ rfl
    have f6 := HP.out.cb.f 6
    have f7 := HP.out.cb.f 7
    have f8 := HP.out.cb.f 8
    have f9 := HP.out.cb.f 9
    go_wp2_with fail
    go_ret2
    have HX := ((((Only.put W2 p 6 (.int .i64 1)).puts 7 (.string a.key)).puts 8 (.int .i64 0)).puts 9 (.int .i64 0))
    refine ⟨p, HWP.out, rfl, ?_, (o2 HO1.out HO2.out).trans HX (fun i hi e => by have := HWP.out; omega)⟩
    unfold Pn.begun
    rw [HCE.out, if_pos rfl]
    exact HP.out.mod HX ((((HP.out.cb.set 6 _).set 7 _).set 8 _).set 9 _) ⟨rfl, rfl, rfl⟩ ⟨rfl, rfl⟩
/-- Need, where nothing is to come in. -/
theorem Need_no (w : World) (Z : Nat → Prop) (p : Nat) (P : Pn) (h : Pm w Z p P) (hi : P.item = ⟨#[]⟩) (B : Pv) :
    Calls Tryz.prog 11 #[.pointer (some ⟨p, 0, none⟩), .agg B.ar] w fun e w' => e = .returned (.int .i64 0) ∧ Only (fun _ => False) w w' := by
  have HO := hide (onlyA w (.cells B.ar 37))
  have c23 := (h.more HO.out).cb.c 23 _ rfl
  rw [hi] at c23
  clear h hi
  unfold Pv.ar at *
  go_enter Tryz.func11, Tryz.ntmps11
  go_wp2_with fail
  go_ret
  exact ⟨rfl, HO.out⟩
theorem Need_nil (w : World) (B : Pv) :
    Calls Tryz.prog 11 #[.pointer none, .agg B.ar] w fun e w' => e = .returned (.int .i64 0) ∧ Only (fun _ => False) w w' := by
  have HO := hide (onlyA w (.cells B.ar 37))
  unfold Pv.ar at *
  go_enter Tryz.func11, Tryz.ntmps11
  go_wp2_with fail
  go_ret
  exact ⟨rfl, HO.out⟩
/-- Reply, while it goes on, or of no plan. -/
theorem Reply_no (w : World) (p : Value) (hW : ∀ W, Only (fun _ => False) w W → Calls Tryz.prog 30 #[p, .int .i64 4] W fun e w' => e = .returned (.bool false) ∧ w' = W) :
    Calls Tryz.prog 13 #[p] w fun e w' => e = .returned (.agg #[.int .i64 0, .bool false, .string ⟨#[]⟩, .slice none 0 0]) ∧ Only (fun _ => False) w w' := by
  have HO := hide (onlyA w (.cells #[.int .i64 0, .bool false, .string ⟨#[]⟩, .slice none 0 0] 55))
  have HB := hide (Cb.new w [.int .i64 0, .bool false, .string ⟨#[]⟩, .slice none 0 0] 55)
  have HW := hide (hW _ HO.out)
  clear hW
  go_enter Tryz.func13, Tryz.ntmps13
  go_upto_region 1 with fail
  obtain ⟨W0, hW0⟩ : ∃ x, w.alloc (.cells #[.int .i64 0, .bool false, .string ⟨#[]⟩, .slice none 0 0] 55) = x := ⟨_, rfl⟩
  rw [hW0] at HO HW ⊢
  rw [show w.alloc (.cells [Value.int .i64 0, .bool false, .string ⟨#[]⟩, .slice none 0 0].toArray 55) = W0 from hW0] at HB
  clear hW0
  go_wp2_with fail
  refine HW.out.mono ?_
  rintro e w1 ⟨rfl, h1⟩
  obtain rfl := h1.symm
  go_wp2_with (refine wpList_put_cb rfl 55 (.tmp 2) (.tmp 7) rfl w.heap.size rfl [.int .i64 0, .bool false, .string ⟨#[]⟩, .slice none 0 0] [.int .i64 0, .bool false, .string ⟨#[]⟩, .slice none 0 0] rfl Tryz.sizeReply rfl rfl HB.out ?_; intro W9 HW9; go_frame)
  refine bodyPost_ret (results_cell1 rfl rfl (load_reply HW9.out.1)) rfl ?_
  exact ⟨rfl, HO.out.trans HW9.out.2 (fun i hi e => by omega)⟩
end Go.Proofs.YtajjakljheafjaaGreat
