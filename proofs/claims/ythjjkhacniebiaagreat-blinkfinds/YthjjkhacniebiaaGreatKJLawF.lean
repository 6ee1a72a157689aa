/- BlinkFinds: its walk. -/
import Derived.Test.YthjjkhacniebiaaGreatKX1
import Derived.Test.YthjjkhacniebiaaGreatK50
namespace Go.Proofs.YthjjkhacniebiaaGreat
open Go.RowKit

theorem lt_app0 : ∀ l : List UInt8, l < l ++ [0]
  | [] => by decide
  | x :: l => List.cons_lt_cons_iff.2 (.inr ⟨rfl, lt_app0 l⟩)
theorem hitB_own (e : En) : hitB e.key (e.key ++ ⟨#[0]⟩) e = true := by
  have h1 : decide (bl e.key < bl e.key) = false := decide_eq_false (List.lt_irrefl _)
  have e2 : bl (e.key ++ ⟨#[0]⟩) = bl e.key ++ [0] := by
    show (e.key ++ ⟨#[0]⟩ : ByteArray).data.toList = _
    simp [bl]
  have h2 : decide (bl e.key < bl (e.key ++ ⟨#[0]⟩)) = true := decide_eq_true (by rw [e2]; exact lt_app0 _)
  unfold hitB below
  rw [h1, h2]
  cases decide (e.key ++ ⟨#[0]⟩ = (⟨#[]⟩ : ByteArray)) <;> rfl
set_option maxRecDepth 100000 in
set_option maxHeartbeats 12800000 in
theorem finds_law (w : World) (BL : Nat) (aL : Option Addr) (cL : Nat) (L : List En) (hL : Els w BL aL L) (hn : L.length ≤ maxLen) (BT : Nat) (aT : Option Addr) (cT : Nat) (T : List Bool) (hT : Bls w BT aT T) (hnT : T.length ≤ maxLen) : Calls Tryz.prog 4 #[.slice aL L.length cL, .slice aT T.length cT] w fun x w' => x = .returned (.bool true) ∧ Only (fun _ => False) w w' := by
  have HL := hide hL
  have HT := hide hT
  unfold maxLen at hn hnT
  have HLF := hide (fun W => leaf_any W)
  have HAW := hide (fun W => aawake_any W)
  clear hL hT
  go_enter Tryz.func4, Tryz.ntmps4
  go_upto_region 1 with fail
  go_wp2_with fail
  refine (HLF.out _).mono ?_
  rintro x w1 ⟨rfl, ho1⟩
  have HO1 := hide ho1
  clear ho1 HLF
  go_upto_region 2 with fail
  have HFM := hide (Fm.start (K := fun k => (Value.slice none 0 0).ownBlock = some k) w1 (fun _ h => by cases h))
  have HOF := hide (o2 (o2 HO1.out (onlyA w1 (.cells #[.int .i64 0, .int .i64 0, .int .i64 0, .int .i64 0, .string ⟨#[]⟩, .slice none 0 0, .int .i64 0, .int .i64 3, .int .i64 0, .int .i64 0, .string ⟨#[]⟩, .slice none 0 0] 24))) (onlyA _ (.cells #[.slice (some ⟨w1.heap.size, 0, none⟩) 2 2] 53)))
  obtain ⟨W2, hW2⟩ : ∃ x, (w1.alloc (.cells #[.int .i64 0, .int .i64 0, .int .i64 0, .int .i64 0, .string ⟨#[]⟩, .slice none 0 0, .int .i64 0, .int .i64 3, .int .i64 0, .int .i64 0, .string ⟨#[]⟩, .slice none 0 0] 24)).alloc (.cells #[.slice (some ⟨w1.heap.size, 0, none⟩) 2 2] 53) = x := ⟨_, rfl⟩
  rw [hW2] at HFM HOF ⊢
  clear hW2
  have HSA : Hid (Sa w W2 (w1.heap.size + 1) w1.heap.size 2 [Pz.none, zL] 2 (fun _ => lf0) (fun _ => noE) (fun _ => False) (.slice none 0 0) []) := ⟨⟨HFM.out, Fz.start, Fst.start, by have := HO1.out.size; omega, HO1.out.size⟩, Ets.nil _ _, (fun h => by cases h), (fun h => by cases h)⟩
  have HBD : Hid (Bd 2 (fun _ => lf0) 0) := ⟨by omega, by decide⟩
  obtain ⟨f, hf⟩ : ∃ f, w1.heap.size + 1 = f := ⟨_, rfl⟩
  rw [hf] at HSA ⊢
  obtain ⟨g0, hg0⟩ : ∃ g, w1.heap.size = g := ⟨_, rfl⟩
  rw [hg0] at HSA
  clear hf hg0 HFM
  go_upto_region 4 with fail
  go_loopw [6, 7] (fun v x wr => ∃ (i : Nat) (Q : List En), x = .int .i64 (i : Int) ∧ i ≤ 300 ∧ i ≤ L.length ∧ Q.length ≤ i ∧ Hid (∃ g cap zs N F lo A, Sa w wr f g cap zs N F lo A v Q ∧ Bd N F i ∧ ∀ e ∈ Q, A e) ∧ Hid (Only (fun _ => False) w wr)) (fun _ x _ => L.length - (intOf x).toNat)
  case atStart => exact ⟨0, [], rfl, by omega, by omega, by simp, hide ⟨_, _, _, _, _, _, _, HSA.out, HBD.out, fun _ h => by cases h⟩, HOF⟩
  case round =>
    obtain ⟨i, Q, rfl, hi, hiL, hQ, HS, HW⟩ := hrel
    obtain ⟨g, cap, zs, N, F, lo, A, hSa, hBd, hAll⟩ := HS.out
    have HSr := hide hSa
    have HBr := hide hBd
    have HAr := hide hAll
    obtain ⟨va, vc, rfl⟩ := hSa.ets.form
    clear hSa hBd hAll HS HSA HBD
    have hf1 : ∀ k, k = f ∨ k = g → w.heap.size ≤ k := by
      rintro k (rfl | rfl)
      · exact HSr.out.sn.f0
      · exact HSr.out.sn.g0
    have HFG := hide hf1
    clear hf1
    by_cases hlt : i < L.length ∧ i < 300
    · obtain ⟨hl1, hl2⟩ := hlt
      have hk1 : (i : Int) < (L.length : Int) := by omega
      have hk2 : (i : Int) < 300 := by omega
      have hk3 : ¬ (L.length : Int) ≤ (i : Int) := by omega
      obtain ⟨o, rfl, heb⟩ := HL.out.of i hl1
      obtain ⟨q, hq⟩ : ∃ q, L[i] = q := ⟨_, rfl⟩
      rw [hq] at heb
      clear hq
      have HEB := hide (heb.kept HW.out (fun h => h))
      obtain ⟨_, _, _, hbw⟩ := heb
      have HBW := hide hbw
      clear hbw
      obtain ⟨e0, e1, e2, _⟩ := HEB.out
      cases hok : q.ok with
      | false =>
        have HEC := hide (fun W => enc_no hok W)
        have HB1 := hide (HBr.out.mono (j := i + 1) (by omega))
        clear hok
        go_wp2_with fail
        refine (HEC.out _).mono ?_
        rintro x w3 ⟨rfl, ho⟩
        have HS3 : Hid (∃ g cap zs N F lo A, Sa w w3 f g cap zs N F lo A (.slice va Q.length vc) Q ∧ Bd N F (i + 1) ∧ ∀ e ∈ Q, A e) := ⟨_, _, _, _, _, _, _, HSr.out.more ho, HB1.out, HAr.out⟩
        have HW3 := hide (o2 HW.out ho)
        clear ho
        go_wp2_with fail
        go_roundw
        case rel => exact ⟨i + 1, Q, by go_num, by omega, by omega, by omega, HS3, HW3⟩
        case measure => simp [intOf]; omega
      | true =>
        have HEC := hide (fun W => enc_yes hok W)
        have HOK := hide hok
        clear hok
        go_wp2_with fail
        refine (HEC.out _).mono ?_
        rintro x w3 ⟨rfl, ho⟩
        have HS3 := hide (HSr.out.more ho)
        have HW3 := hide (o2 HW.out ho)
        have HEB3 := hide (HEB.out.kept ho (fun h => h))
        have HEN := hide (fun (W : World) (hoW : Only (fun _ => False) w3 W) t => sa_enters (HS3.out.more hoW) HBr.out (by omega) HOK.out t)
        clear ho e0 e1 e2 HEB HEC
        obtain ⟨e0, e1, e2, _⟩ := HEB3.out
        go_upto_region 8 with fail
        go_cut [61] (fun x wx => x = .bool false ∧ Hid (∃ g4 cap4 zs4 N4 F4 lo4, Sa w wx f g4 cap4 zs4 N4 F4 lo4 (fun y => A y ∨ y = q) (.slice va Q.length vc) Q ∧ Bd N4 F4 (i + 1)) ∧ Hid (Only (fun k => k = f ∨ k = g) w3 wx))
        case first =>
          by_cases hT0 : T.length = 0
          · obtain rfl : T = [] := List.eq_nil_of_length_eq_zero hT0
            simp only [List.length_nil]
            -- {r8a
            refine wp_region_noPanic ?_
            refine wp_region_held_drew (S := fun W => Only (fun k => k = f ∨ k = g) w3 W) (by kernel_rfl) (Only.drew _ _) (fun hHeld => ?_)
            refine wpAnyH_take (i := 0) (oi := { dst := some 42, op := Op.move (Operand.tmp 5), type := 49, pos := "law.go:181", after := #[], guard := none }) (v := .pointer (some ⟨f, 0, none⟩)) rfl (by kernel_rfl) (by kernel_rfl) (by kernel_rfl) (fun _ _ _ h => h) (Or.inl ⟨by rfl, fun w' hSw => by clear hSw; go_simp⟩) (by assumption) ?_
            simp only [Act.put, List.setIfInBounds_toArray, List.set_cons_zero, List.set_cons_succ]
            refine wpAnyH_take (i := 1) (oi := { dst := some 43, op := Op.move (Operand.tmp 0), type := 47, pos := "law.go:181", after := #[], guard := none }) (v := .slice (some ⟨BL, o, none⟩) L.length cL) rfl (by kernel_rfl) (by kernel_rfl) (by kernel_rfl) (fun _ _ _ h => h) (Or.inl ⟨by rfl, fun w' hSw => by clear hSw; go_simp⟩) (by assumption) ?_
            simp only [Act.put, List.setIfInBounds_toArray, List.set_cons_zero, List.set_cons_succ]
            refine wpAnyH_take (i := 2) (oi := { dst := some 44, op := Op.move (Operand.tmp 7), type := 3, pos := "law.go:181", after := #[], guard := none }) (v := .int .i64 (i : Int)) rfl (by kernel_rfl) (by kernel_rfl) (by kernel_rfl) (fun _ _ _ h => h) (Or.inl ⟨by rfl, fun w' hSw => by clear hSw; go_simp⟩) (by assumption) ?_
            simp only [Act.put, List.setIfInBounds_toArray, List.set_cons_zero, List.set_cons_succ]
            refine wpAnyH_take (i := 5) (oi := { dst := some 47, op := Op.move (Operand.tmp 8), type := 9, pos := "law.go:181", after := #[], guard := none }) (v := .string q.enc) rfl (by kernel_rfl) (by kernel_rfl) (by kernel_rfl) (fun _ _ _ h => h) (Or.inl ⟨by rfl, fun w' hSw => by clear hSw; go_simp⟩) (by assumption) ?_
            simp only [Act.put, List.setIfInBounds_toArray, List.set_cons_zero, List.set_cons_succ]
            refine wpAnyH_take (i := 6) (oi := { dst := some 48, op := Op.move (Operand.tmp 1), type := 48, pos := "law.go:181", after := #[], guard := none }) (v := .slice aT 0 cT) rfl (by kernel_rfl) (by kernel_rfl) (by kernel_rfl) (fun _ _ _ h => h) (Or.inl ⟨by rfl, fun w' hSw => by clear hSw; go_simp⟩) (by assumption) ?_
            simp only [Act.put, List.setIfInBounds_toArray, List.set_cons_zero, List.set_cons_succ]
            refine wpAnyH_take (i := 3) (oi := { dst := some 45, op := Op.indexAddr 47 (Operand.tmp 43) (Operand.tmp 44), type := 0, pos := "law.go:181", after := #[{ on := 1, ground := Ground.data }, { on := 2, ground := Ground.data }], guard := none }) (v := .pointer (some ⟨BL, o + i * 3, none⟩)) rfl (by kernel_rfl) (by kernel_rfl) (by kernel_rfl) (fun _ _ _ h => h) (Or.inl ⟨by rfl, fun w' hSw => by clear hSw; go_simp⟩) (by assumption) ?_
            simp only [Act.put, List.setIfInBounds_toArray, List.set_cons_zero, List.set_cons_succ]
            refine wpAnyH_take (i := 7) (oi := { dst := some 49, op := Op.call { callee := Callee.builtin Builtin.len, args := #[Operand.tmp 48], argTypes := #[48] }, type := 3, pos := "law.go:181", after := #[{ on := 6, ground := Ground.data }], guard := none }) (v := .int .i64 (0 : Int)) rfl (by kernel_rfl) (by kernel_rfl) (by kernel_rfl) (fun _ _ _ h => h) (Or.inl ⟨by rfl, fun w' hSw => by clear hSw; go_simp⟩) (by assumption) ?_
            simp only [Act.put, List.setIfInBounds_toArray, List.set_cons_zero, List.set_cons_succ]
            refine wpAnyH_take (i := 4) (oi := { dst := some 46, op := Op.load 41 (Operand.tmp 45), type := 41, pos := "law.go:181", after := #[{ on := 3, ground := Ground.data }], guard := none }) (v := .agg #[.string q.key, .int .i64 q.page, .int .i64 q.slot]) rfl (by kernel_rfl) (by kernel_rfl) (by kernel_rfl) (fun _ _ _ h => h) (yieldsIf_load_eb (by rfl) _ rfl rfl (fun W hW => HEB3.out.kept hW (fun k => by have h1 := HFG.out _ k; have h2 := HBW.out; omega))) (by assumption) ?_
            simp only [Act.put, List.setIfInBounds_toArray, List.set_cons_zero, List.set_cons_succ]
            refine wpAnyH_take (i := 8) (oi := { dst := some 50, op := Op.binOp BinOp.eql 3 (Operand.tmp 49) (Operand.const (Value.int IntKind.i64 0)) 3, type := 4, pos := "law.go:181", after := #[{ on := 7, ground := Ground.data }], guard := none }) (v := .bool true) rfl (by kernel_rfl) (by kernel_rfl) (by kernel_rfl) (fun _ _ _ h => h) (Or.inl ⟨by rfl, fun w' hSw => by clear hSw; go_simp⟩) (by assumption) ?_
            simp only [Act.put, List.setIfInBounds_toArray, List.set_cons_zero, List.set_cons_succ]
            refine wpAnyH_take (i := 9) (oi := { dst := some 51, op := Op.move (Operand.tmp 50), type := 4, pos := "law.go:181", after := #[{ on := 8, ground := Ground.data }], guard := none }) (v := .bool true) rfl (by kernel_rfl) (by kernel_rfl) (by kernel_rfl) (fun _ _ _ h => h) (Or.inl ⟨by rfl, fun w' hSw => by clear hSw; go_simp⟩) (by assumption) ?_
            simp only [Act.put, List.setIfInBounds_toArray, List.set_cons_zero, List.set_cons_succ]
            refine wpAnyH_take (i := 10) (oi := { dst := some 52, op := Op.move (Operand.tmp 1), type := 48, pos := "law.go:181", after := #[{ on := 9, ground := Ground.guard }], guard := some (9, false) }) (v := undef) rfl (by kernel_rfl) (by kernel_rfl) (by kernel_rfl) (fun _ _ _ h => h) (Or.inr ⟨by rfl, rfl⟩) (by assumption) ?_
            simp only [Act.put, List.setIfInBounds_toArray, List.set_cons_zero, List.set_cons_succ]
            refine wpAnyH_take (i := 11) (oi := { dst := some 53, op := Op.move (Operand.tmp 7), type := 3, pos := "law.go:181", after := #[{ on := 9, ground := Ground.guard }], guard := some (9, false) }) (v := undef) rfl (by kernel_rfl) (by kernel_rfl) (by kernel_rfl) (fun _ _ _ h => h) (Or.inr ⟨by rfl, rfl⟩) (by assumption) ?_
            simp only [Act.put, List.setIfInBounds_toArray, List.set_cons_zero, List.set_cons_succ]
            refine wpAnyH_take (i := 12) (oi := { dst := some 54, op := Op.move (Operand.tmp 1), type := 48, pos := "law.go:181", after := #[{ on := 9, ground := Ground.guard }], guard := some (9, false) }) (v := undef) rfl (by kernel_rfl) (by kernel_rfl) (by kernel_rfl) (fun _ _ _ h => h) (Or.inr ⟨by rfl, rfl⟩) (by assumption) ?_
            simp only [Act.put, List.setIfInBounds_toArray, List.set_cons_zero, List.set_cons_succ]
            refine wpAnyH_take (i := 13) (oi := { dst := some 55, op := Op.call { callee := Callee.builtin Builtin.len, args := #[Operand.tmp 54], argTypes := #[48] }, type := 3, pos := "law.go:181", after := #[{ on := 12, ground := Ground.data }, { on := 9, ground := Ground.guard }], guard := some (9, false) }) (v := undef) rfl (by kernel_rfl) (by kernel_rfl) (by kernel_rfl) (fun _ _ _ h => h) (Or.inr ⟨by rfl, rfl⟩) (by assumption) ?_
            simp only [Act.put, List.setIfInBounds_toArray, List.set_cons_zero, List.set_cons_succ]
            refine wpAnyH_take (i := 14) (oi := { dst := some 56, op := Op.binOp BinOp.rem 3 (Operand.tmp 53) (Operand.tmp 55) 3, type := 3, pos := "law.go:181", after := #[{ on := 11, ground := Ground.data }, { on := 13, ground := Ground.data }, { on := 9, ground := Ground.guard }], guard := some (9, false) }) (v := undef) rfl (by kernel_rfl) (by kernel_rfl) (by kernel_rfl) (fun _ _ _ h => h) (Or.inr ⟨by rfl, rfl⟩) (by assumption) ?_
            simp only [Act.put, List.setIfInBounds_toArray, List.set_cons_zero, List.set_cons_succ]
            refine wpAnyH_take (i := 15) (oi := { dst := some 57, op := Op.indexAddr 48 (Operand.tmp 52) (Operand.tmp 56), type := 0, pos := "law.go:181", after := #[{ on := 10, ground := Ground.data }, { on := 14, ground := Ground.data }, { on := 9, ground := Ground.guard }], guard := some (9, false) }) (v := undef) rfl (by kernel_rfl) (by kernel_rfl) (by kernel_rfl) (fun _ _ _ h => h) (Or.inr ⟨by rfl, rfl⟩) (by assumption) ?_
            simp only [Act.put, List.setIfInBounds_toArray, List.set_cons_zero, List.set_cons_succ]
            refine wpAnyH_take (i := 16) (oi := { dst := some 58, op := Op.load 4 (Operand.tmp 57), type := 4, pos := "law.go:181", after := #[{ on := 15, ground := Ground.data }, { on := 9, ground := Ground.guard }], guard := some (9, false) }) (v := undef) rfl (by kernel_rfl) (by kernel_rfl) (by kernel_rfl) (fun _ _ _ h => h) (Or.inr ⟨by rfl, rfl⟩) (by assumption) ?_
            simp only [Act.put, List.setIfInBounds_toArray, List.set_cons_zero, List.set_cons_succ]
            refine wpAnyH_take (i := 17) (oi := { dst := some 59, op := Op.pick (Operand.tmp 51) (Operand.const (Value.bool true)) (Operand.tmp 58), type := 4, pos := "law.go:181", after := #[{ on := 9, ground := Ground.data }, { on := 16, ground := Ground.data }], guard := none }) (v := .bool true) rfl (by kernel_rfl) (by kernel_rfl) (by kernel_rfl) (fun _ _ _ h => h) (Or.inl ⟨by rfl, fun w' hSw => by clear hSw; go_simp⟩) (by assumption) ?_
            simp only [Act.put, List.setIfInBounds_toArray, List.set_cons_zero, List.set_cons_succ]
            refine wpAnyH_ready (rs := [18]) (by kernel_rfl) (by simp) ?_
            refine AllReadyH.cons (o := { dst := some 60, op := Op.call { callee := Callee.value (Operand.func 17), args := #[Operand.tmp 42, Operand.const (Value.int IntKind.i64 0), Operand.tmp 46, Operand.tmp 47, Operand.tmp 59], argTypes := #[49, 3, 41, 9, 4] }, type := 4, pos := "law.go:181", after := #[{ on := 0, ground := Ground.data }, { on := 4, ground := Ground.data }, { on := 5, ground := Ground.data }, { on := 17, ground := Ground.data }, { on := 9, ground := Ground.chain }], guard := none }) rfl (fun K hK => ?_) (AllReadyH.nil)
            go_simp
            refine (HEN.out _ (Only.drew _ _) true).mono ?_
            rintro x w4 ⟨rfl, g4, cap4, zs4, N4, F4, lo4, hs4, hb4, ho4⟩
            have HS4 := hide hs4
            have HB4 := hide hb4
            have HO34 := hide (hHeld.trans ho4 (fun _ _ h => h))
            clear hs4 hb4 ho4
            refine hK.out _ _ (HO34.out) (fun hHeld => ?_)
            clear hK K
            try simp only [Act.put, List.setIfInBounds_toArray, List.set_cons_zero, List.set_cons_succ]
            refine wpAnyH_take (i := 19) (oi := { dst := some 61, op := Op.unOp UnOp.not 4 (Operand.tmp 60), type := 4, pos := "law.go:181", after := #[{ on := 18, ground := Ground.data }], guard := none }) (v := .bool false) rfl (by kernel_rfl) (by kernel_rfl) (by kernel_rfl) (fun _ _ _ h => h) (Or.inl ⟨by rfl, fun w' hSw => by clear hSw; go_simp⟩) (by assumption) ?_
            simp only [Act.put, List.setIfInBounds_toArray, List.set_cons_zero, List.set_cons_succ]
            refine wpAnyH_done (by kernel_rfl) ?_ _
            refine NoPanic.normal ?_
            go_wp2_with fail
            go_meet
            exact ⟨rfl, hide ⟨_, _, _, _, _, _, HS4.out, HB4.out⟩, HO34⟩
            -- r8a}
          · obtain ⟨oT, rfl, hcT⟩ := (HT.out.kept HW3.out (fun _ h => h)).at_ (by omega)
            have tc := hcT (i % T.length) (Nat.mod_lt _ (by omega))
            have hml : i % T.length < T.length := Nat.mod_lt _ (by omega)
            have hrem : (i : Int).tmod (T.length : Int) = ((i % T.length : Nat) : Int) := by rw [Int.ofNat_tmod]
            obtain ⟨tb, htb⟩ : ∃ tb, T[i % T.length] = tb := ⟨_, rfl⟩
            rw [htb] at tc
            obtain ⟨m, hm⟩ : ∃ m, i % T.length = m := ⟨_, rfl⟩
            rw [hm] at tc hml hrem
            have ht0 : ¬ (T.length : Int) = 0 := by omega
            have ht1 : (m : Int) < (T.length : Int) := by omega
            have ht2 : ¬ (T.length : Int) ≤ (m : Int) := by omega
            have HBT : Hid (BT < w.heap.size) := HT.out.lt (by omega)
            have HBT3 : Hid (BT < w3.heap.size) := Nat.lt_of_lt_of_le HBT.out HW3.out.size
            clear hcT htb hm
            -- {r8b
            refine wp_region_noPanic ?_
            refine wp_region_held_drew (S := fun W => Only (fun k => k = f ∨ k = g) w3 W) (by kernel_rfl) (Only.drew _ _) (fun hHeld => ?_)
            refine wpAnyH_take (i := 0) (oi := { dst := some 42, op := Op.move (Operand.tmp 5), type := 49, pos := "law.go:181", after := #[], guard := none }) (v := .pointer (some ⟨f, 0, none⟩)) rfl (by kernel_rfl) (by kernel_rfl) (by kernel_rfl) (fun _ _ _ h => h) (Or.inl ⟨by rfl, fun w' hSw => by clear hSw; go_simp⟩) (by assumption) ?_
            simp only [Act.put, List.setIfInBounds_toArray, List.set_cons_zero, List.set_cons_succ]
            refine wpAnyH_take (i := 1) (oi := { dst := some 43, op := Op.move (Operand.tmp 0), type := 47, pos := "law.go:181", after := #[], guard := none }) (v := .slice (some ⟨BL, o, none⟩) L.length cL) rfl (by kernel_rfl) (by kernel_rfl) (by kernel_rfl) (fun _ _ _ h => h) (Or.inl ⟨by rfl, fun w' hSw => by clear hSw; go_simp⟩) (by assumption) ?_
            simp only [Act.put, List.setIfInBounds_toArray, List.set_cons_zero, List.set_cons_succ]
            refine wpAnyH_take (i := 2) (oi := { dst := some 44, op := Op.move (Operand.tmp 7), type := 3, pos := "law.go:181", after := #[], guard := none }) (v := .int .i64 (i : Int)) rfl (by kernel_rfl) (by kernel_rfl) (by kernel_rfl) (fun _ _ _ h => h) (Or.inl ⟨by rfl, fun w' hSw => by clear hSw; go_simp⟩) (by assumption) ?_
            simp only [Act.put, List.setIfInBounds_toArray, List.set_cons_zero, List.set_cons_succ]
            refine wpAnyH_take (i := 5) (oi := { dst := some 47, op := Op.move (Operand.tmp 8), type := 9, pos := "law.go:181", after := #[], guard := none }) (v := .string q.enc) rfl (by kernel_rfl) (by kernel_rfl) (by kernel_rfl) (fun _ _ _ h => h) (Or.inl ⟨by rfl, fun w' hSw => by clear hSw; go_simp⟩) (by assumption) ?_
            simp only [Act.put, List.setIfInBounds_toArray, List.set_cons_zero, List.set_cons_succ]
            refine wpAnyH_take (i := 6) (oi := { dst := some 48, op := Op.move (Operand.tmp 1), type := 48, pos := "law.go:181", after := #[], guard := none }) (v := .slice (some ⟨BT, oT, none⟩) T.length cT) rfl (by kernel_rfl) (by kernel_rfl) (by kernel_rfl) (fun _ _ _ h => h) (Or.inl ⟨by rfl, fun w' hSw => by clear hSw; go_simp⟩) (by assumption) ?_
            simp only [Act.put, List.setIfInBounds_toArray, List.set_cons_zero, List.set_cons_succ]
            refine wpAnyH_take (i := 3) (oi := { dst := some 45, op := Op.indexAddr 47 (Operand.tmp 43) (Operand.tmp 44), type := 0, pos := "law.go:181", after := #[{ on := 1, ground := Ground.data }, { on := 2, ground := Ground.data }], guard := none }) (v := .pointer (some ⟨BL, o + i * 3, none⟩)) rfl (by kernel_rfl) (by kernel_rfl) (by kernel_rfl) (fun _ _ _ h => h) (Or.inl ⟨by rfl, fun w' hSw => by clear hSw; go_simp⟩) (by assumption) ?_
            simp only [Act.put, List.setIfInBounds_toArray, List.set_cons_zero, List.set_cons_succ]
            refine wpAnyH_take (i := 7) (oi := { dst := some 49, op := Op.call { callee := Callee.builtin Builtin.len, args := #[Operand.tmp 48], argTypes := #[48] }, type := 3, pos := "law.go:181", after := #[{ on := 6, ground := Ground.data }], guard := none }) (v := .int .i64 (T.length : Int)) rfl (by kernel_rfl) (by kernel_rfl) (by kernel_rfl) (fun _ _ _ h => h) (Or.inl ⟨by rfl, fun w' hSw => by clear hSw; go_simp⟩) (by assumption) ?_
            simp only [Act.put, List.setIfInBounds_toArray, List.set_cons_zero, List.set_cons_succ]
            refine wpAnyH_take (i := 4) (oi := { dst := some 46, op := Op.load 41 (Operand.tmp 45), type := 41, pos := "law.go:181", after := #[{ on := 3, ground := Ground.data }], guard := none }) (v := .agg #[.string q.key, .int .i64 q.page, .int .i64 q.slot]) rfl (by kernel_rfl) (by kernel_rfl) (by kernel_rfl) (fun _ _ _ h => h) (yieldsIf_load_eb (by rfl) _ rfl rfl (fun W hW => HEB3.out.kept hW (fun k => by have h1 := HFG.out _ k; have h2 := HBW.out; omega))) (by assumption) ?_
            simp only [Act.put, List.setIfInBounds_toArray, List.set_cons_zero, List.set_cons_succ]
            refine wpAnyH_take (i := 8) (oi := { dst := some 50, op := Op.binOp BinOp.eql 3 (Operand.tmp 49) (Operand.const (Value.int IntKind.i64 0)) 3, type := 4, pos := "law.go:181", after := #[{ on := 7, ground := Ground.data }], guard := none }) (v := .bool false) rfl (by kernel_rfl) (by kernel_rfl) (by kernel_rfl) (fun _ _ _ h => h) (Or.inl ⟨by rfl, fun w' hSw => by clear hSw; go_simp⟩) (by assumption) ?_
            simp only [Act.put, List.setIfInBounds_toArray, List.set_cons_zero, List.set_cons_succ]
            refine wpAnyH_take (i := 9) (oi := { dst := some 51, op := Op.move (Operand.tmp 50), type := 4, pos := "law.go:181", after := #[{ on := 8, ground := Ground.data }], guard := none }) (v := .bool false) rfl (by kernel_rfl) (by kernel_rfl) (by kernel_rfl) (fun _ _ _ h => h) (Or.inl ⟨by rfl, fun w' hSw => by clear hSw; go_simp⟩) (by assumption) ?_
            simp only [Act.put, List.setIfInBounds_toArray, List.set_cons_zero, List.set_cons_succ]
            refine wpAnyH_take (i := 10) (oi := { dst := some 52, op := Op.move (Operand.tmp 1), type := 48, pos := "law.go:181", after := #[{ on := 9, ground := Ground.guard }], guard := some (9, false) }) (v := .slice (some ⟨BT, oT, none⟩) T.length cT) rfl (by kernel_rfl) (by kernel_rfl) (by kernel_rfl) (fun _ _ _ h => h) (Or.inl ⟨by rfl, fun w' hSw => by clear hSw; go_simp⟩) (by assumption) ?_
            simp only [Act.put, List.setIfInBounds_toArray, List.set_cons_zero, List.set_cons_succ]
            refine wpAnyH_take (i := 11) (oi := { dst := some 53, op := Op.move (Operand.tmp 7), type := 3, pos := "law.go:181", after := #[{ on := 9, ground := Ground.guard }], guard := some (9, false) }) (v := .int .i64 (i : Int)) rfl (by kernel_rfl) (by kernel_rfl) (by kernel_rfl) (fun _ _ _ h => h) (Or.inl ⟨by rfl, fun w' hSw => by clear hSw; go_simp⟩) (by assumption) ?_
            simp only [Act.put, List.setIfInBounds_toArray, List.set_cons_zero, List.set_cons_succ]
            refine wpAnyH_take (i := 12) (oi := { dst := some 54, op := Op.move (Operand.tmp 1), type := 48, pos := "law.go:181", after := #[{ on := 9, ground := Ground.guard }], guard := some (9, false) }) (v := .slice (some ⟨BT, oT, none⟩) T.length cT) rfl (by kernel_rfl) (by kernel_rfl) (by kernel_rfl) (fun _ _ _ h => h) (Or.inl ⟨by rfl, fun w' hSw => by clear hSw; go_simp⟩) (by assumption) ?_
            simp only [Act.put, List.setIfInBounds_toArray, List.set_cons_zero, List.set_cons_succ]
            refine wpAnyH_take (i := 13) (oi := { dst := some 55, op := Op.call { callee := Callee.builtin Builtin.len, args := #[Operand.tmp 54], argTypes := #[48] }, type := 3, pos := "law.go:181", after := #[{ on := 12, ground := Ground.data }, { on := 9, ground := Ground.guard }], guard := some (9, false) }) (v := .int .i64 (T.length : Int)) rfl (by kernel_rfl) (by kernel_rfl) (by kernel_rfl) (fun _ _ _ h => h) (Or.inl ⟨by rfl, fun w' hSw => by clear hSw; go_simp⟩) (by assumption) ?_
            simp only [Act.put, List.setIfInBounds_toArray, List.set_cons_zero, List.set_cons_succ]
            refine wpAnyH_take (i := 14) (oi := { dst := some 56, op := Op.binOp BinOp.rem 3 (Operand.tmp 53) (Operand.tmp 55) 3, type := 3, pos := "law.go:181", after := #[{ on := 11, ground := Ground.data }, { on := 13, ground := Ground.data }, { on := 9, ground := Ground.guard }], guard := some (9, false) }) (v := .int .i64 (m : Int)) rfl (by kernel_rfl) (by kernel_rfl) (by kernel_rfl) (fun _ _ _ h => h) (Or.inl ⟨by rfl, fun w' hSw => by clear hSw; go_simp⟩) (by assumption) ?_
            simp only [Act.put, List.setIfInBounds_toArray, List.set_cons_zero, List.set_cons_succ]
            refine wpAnyH_take (i := 15) (oi := { dst := some 57, op := Op.indexAddr 48 (Operand.tmp 52) (Operand.tmp 56), type := 0, pos := "law.go:181", after := #[{ on := 10, ground := Ground.data }, { on := 14, ground := Ground.data }, { on := 9, ground := Ground.guard }], guard := some (9, false) }) (v := .pointer (some ⟨BT, oT + m, none⟩)) rfl (by kernel_rfl) (by kernel_rfl) (by kernel_rfl) (fun _ _ _ h => h) (Or.inl ⟨by rfl, fun w' hSw => by clear hSw; go_simp⟩) (by assumption) ?_
            simp only [Act.put, List.setIfInBounds_toArray, List.set_cons_zero, List.set_cons_succ]
            refine wpAnyH_take (i := 16) (oi := { dst := some 58, op := Op.load 4 (Operand.tmp 57), type := 4, pos := "law.go:181", after := #[{ on := 15, ground := Ground.data }, { on := 9, ground := Ground.guard }], guard := some (9, false) }) (v := .bool tb) rfl (by kernel_rfl) (by kernel_rfl) (by kernel_rfl) (fun _ _ _ h => h) (yieldsIf_load_cell (by rfl) 4 _ rfl _ rfl (fun W hW => (hW.cell (p := ⟨BT, oT + m, none⟩) HBT3.out (fun k => by have h1 : w.heap.size ≤ BT := HFG.out _ k; have h2 := HBT.out; omega)).trans tc) (fun W hc => ld_bool hc)) (by assumption) ?_
            simp only [Act.put, List.setIfInBounds_toArray, List.set_cons_zero, List.set_cons_succ]
            refine wpAnyH_take (i := 17) (oi := { dst := some 59, op := Op.pick (Operand.tmp 51) (Operand.const (Value.bool true)) (Operand.tmp 58), type := 4, pos := "law.go:181", after := #[{ on := 9, ground := Ground.data }, { on := 16, ground := Ground.data }], guard := none }) (v := .bool tb) rfl (by kernel_rfl) (by kernel_rfl) (by kernel_rfl) (fun _ _ _ h => h) (Or.inl ⟨by rfl, fun w' hSw => by clear hSw; go_simp⟩) (by assumption) ?_
            simp only [Act.put, List.setIfInBounds_toArray, List.set_cons_zero, List.set_cons_succ]
            refine wpAnyH_ready (rs := [18]) (by kernel_rfl) (by simp) ?_
            refine AllReadyH.cons (o := { dst := some 60, op := Op.call { callee := Callee.value (Operand.func 17), args := #[Operand.tmp 42, Operand.const (Value.int IntKind.i64 0), Operand.tmp 46, Operand.tmp 47, Operand.tmp 59], argTypes := #[49, 3, 41, 9, 4] }, type := 4, pos := "law.go:181", after := #[{ on := 0, ground := Ground.data }, { on := 4, ground := Ground.data }, { on := 5, ground := Ground.data }, { on := 17, ground := Ground.data }, { on := 9, ground := Ground.chain }], guard := none }) rfl (fun K hK => ?_) (AllReadyH.nil)
            go_simp
            refine (HEN.out _ (Only.drew _ _) tb).mono ?_
            rintro x w4 ⟨rfl, g4, cap4, zs4, N4, F4, lo4, hs4, hb4, ho4⟩
            have HS4 := hide hs4
            have HB4 := hide hb4
            have HO34 := hide (hHeld.trans ho4 (fun _ _ h => h))
            clear hs4 hb4 ho4
            refine hK.out _ _ (HO34.out) (fun hHeld => ?_)
            clear hK K
            try simp only [Act.put, List.setIfInBounds_toArray, List.set_cons_zero, List.set_cons_succ]
            refine wpAnyH_take (i := 19) (oi := { dst := some 61, op := Op.unOp UnOp.not 4 (Operand.tmp 60), type := 4, pos := "law.go:181", after := #[{ on := 18, ground := Ground.data }], guard := none }) (v := .bool false) rfl (by kernel_rfl) (by kernel_rfl) (by kernel_rfl) (fun _ _ _ h => h) (Or.inl ⟨by rfl, fun w' hSw => by clear hSw; go_simp⟩) (by assumption) ?_
            simp only [Act.put, List.setIfInBounds_toArray, List.set_cons_zero, List.set_cons_succ]
            refine wpAnyH_done (by kernel_rfl) ?_ _
            refine NoPanic.normal ?_
            go_wp2_with fail
            go_meet
            exact ⟨rfl, hide ⟨_, _, _, _, _, _, HS4.out, HB4.out⟩, HO34⟩
            -- r8b}
        case rest =>
          obtain ⟨rfl, HE4, HO34⟩ := hcut
          obtain ⟨w4, hw4⟩ : ∃ x, wc = x := ⟨_, rfl⟩
          rw [hw4] at HE4 HO34 ⊢
          clear hw4
          obtain ⟨g4, cap4, zs4, N4, F4, lo4, hs4, hb4⟩ := HE4.out
          have HS4 := hide hs4
          have HB4 := hide hb4
          clear hs4 hb4
          have ho4 := HO34.out
          have HEB4 := hide (HEB3.out.kept ho4 (fun k => by have h1 := HFG.out _ k; have h2 := HBW.out; omega))
          have HW4 : Hid (Only (fun _ => False) w w4) := HW3.out.trans ho4 (fun k hk z => by have := HFG.out k z; omega)
          clear ho4 e0 e1 e2 HEN
          obtain ⟨e0, e1, e2, _⟩ := HEB4.out
          obtain ⟨A5, C5, w5, hr5, he5, ho5, hx5⟩ := ets_append (w4.alloc (.cells #[.string q.key, .int .i64 q.page, .int .i64 q.slot] 41)) w.heap.size _ _ (HS4.out.ets.more (onlyA _ _)) w4.heap.size 0 1 1 [q] rfl (fun k hk => by
            have : k = 0 := by simpa using hk
            subst this
            have h := Ev.new w4 q
            exact ⟨h.c0, h.c1, h.c2, h.lt⟩) (by omega) (Nat.le_trans HW4.out.size (onlyA _ _).size)
          have HS5 : Hid (∃ g cap zs N F lo A, Sa w w5 f g cap zs N F lo A (.slice A5 (Q.length + 1) C5) (Q ++ [q]) ∧ Bd N F (i + 1) ∧ ∀ e ∈ Q ++ [q], A e) := ⟨_, _, _, _, _, _, _, (HS4.out.more (onlyA _ _)).app ho5 he5 hx5, HB4.out, fun e he => by
            rcases List.mem_append.1 he with k | k
            · exact .inl (HAr.out e k)
            · exact .inr (by simpa using k)⟩
          have HW5 : Hid (Only (fun _ => False) w w5) := (o2 HW4.out (onlyA _ _)).trans ho5 (fun k hk z => by have := (World.ownsRow.lt HS4.out.ets k z).1; omega)
          have HR5 := hide hr5
          clear hr5 he5 ho5 hx5
          go_wp2_with (at_builtin; go_must (refine Lib.wpList_append_run _ rfl _ _ _ _ rfl _ _ rfl rfl _ _ HR5.out ?_))
          go_roundw
          case rel => exact ⟨i + 1, Q ++ [q], by go_num, by omega, by omega, by simp; omega, HS5, HW5⟩
          case measure => simp [intOf]; omega
    · by_cases hend : (i : Int) < (L.length : Int)
      · have hk2 : ¬ (i : Int) < 300 := by omega
        clear hlt
        obtain ⟨w5, hw5⟩ : ∃ x, wr = x := ⟨_, rfl⟩
        rw [hw5] at HSr HW ⊢
        clear hw5
        go_upto_region 12 with fail
        go_loopw [10] (fun x wy => ∃ (k : Nat), x = .int .i64 (k : Int) ∧ k ≤ Q.length ∧ Hid (Only (fun _ => False) w5 wy)) (fun x _ => Q.length - (intOf x).toNat)
        case atStart => exact ⟨0, rfl, by omega, hide (Only.refl _ _)⟩
        case round =>
          as_aux_lemma =>
            obtain ⟨k, rfl, hk, HOY⟩ := hrel
            have HSk := hide (HSr.out.more HOY.out)
            by_cases hkl : k < Q.length
            · have hk1 : (k : Int) < (Q.length : Int) := by omega
              have hk4 : ¬ (Q.length : Int) ≤ (k : Int) := by omega
              obtain ⟨BQ, hels, _⟩ := HSk.out.ets.elsOf
              obtain ⟨oq, rfl, heb⟩ := hels.of k hkl
              obtain ⟨q, hq⟩ : ∃ q, Q[k] = q := ⟨_, rfl⟩
              rw [hq] at heb
              have HQ := hide heb
              have HA : Hid (A q) := HAr.out q (by rw [← hq]; exact List.getElem_mem _)
              have HOK : Hid (q.ok = true) := HSk.out.sn.fs.aok q HA.out
              have HFI := hide (sn_finds HSk.out.sn HBr.out (by omega) HOK.out)
              clear hels heb hq
              obtain ⟨e0, e1, e2, _⟩ := HQ.out
              go_wp2_with fail
              refine HFI.out.mono ?_
              rintro x w6 ⟨j, rfl, hj, ho⟩
              have HS6 := hide (HSk.out.more ho)
              have HOY6 := hide (o2 HOY.out ho)
              have HQ6 := hide (HQ.out.more ho)
              obtain ⟨z, hjl, hz, hht, hrg, hrt⟩ := HS6.out.sn.hits HBr.out (by omega) HOK.out hj.1 hj.2.1 q.key (q.key ++ ⟨#[0]⟩)
              have hin : q ∈ ((F j).es.filter (hitB q.key (q.key ++ ⟨#[0]⟩))) := List.mem_filter.2 ⟨(HS6.out.sn.fs.cont j hj.1 hj.2.1 q).2 ⟨HA.out, hj.2.2.1, hj.2.2.2⟩, hitB_own q⟩
              have hmr : (decide ((F j).rt ≠ 0) && (F j).goOn (q.key ++ ⟨#[0]⟩)) = true → z.p.right ≠ 0 := by
                intro h
                rw [Bool.and_eq_true, decide_eq_true_iff] at h
                rw [hrt]
                have := h.1
                omega
              unfold HtR at hht
              obtain ⟨HI, hHI⟩ : ∃ l, (F j).es.filter (hitB q.key (q.key ++ ⟨#[0]⟩)) = l := ⟨_, rfl⟩
              obtain ⟨mo, hmo⟩ : ∃ b, (decide ((F j).rt ≠ 0) && (F j).goOn (q.key ++ ⟨#[0]⟩)) = b := ⟨_, rfl⟩
              rw [hHI, hmo] at hht
              rw [hHI] at hin
              rw [hmo] at hmr
              have HHT := hide hht
              have HRG := hide hrg
              have HMR := hide hmr
              have HIN := hide hin
              unfold Pz.ar at HHT
              have hj0 : ¬ (j : Int) < 1 := by have := hj.1.1; omega
              have hj1 : (1 : Int) ≤ (j : Int) := by omega
              have fc := HS6.out.sn.fm.cell
              have hlen := HS6.out.sn.fz.len
              have hnum := HBr.out.num
              have HZL : Hid (j < zs.length ∧ zs.length ≤ 9999) := ⟨hjl, by omega⟩
              obtain ⟨n, hn⟩ : ∃ n, zs.length = n := ⟨_, rfl⟩
              rw [hn] at fc
              have hjn : j < n := by omega
              have hj2 : ¬ (n : Int) ≤ (j : Int) := by omega
              have hj3 : (j : Int) < (n : Int) := by omega
              have hn9 : n ≤ 9999 := by omega
              have HFB : Hid (f < w6.heap.size) := HS6.out.sn.fm.flt
              clear ho hht hrg hrt hmr hin hHI hmo hz hjl hj hn hlen hnum HFI e0 e1 e2
              obtain ⟨e0, e1, e2, hbq⟩ := HQ6.out
              have hks : q.key.size ≤ 9223372036854775806 := by have := (En.ok_iff.1 HOK.out).2.1; omega
              go_upto_region 17 with fail
              go_cut [12, 13, 14] (fun x y u wx => ∃ A8 C8, x = .slice A8 HI.length C8 ∧ y = .bool mo ∧ u = .int .i64 0 ∧ Hid (∃ b8, Ets wx b8 (.slice A8 HI.length C8) HI) ∧ Hid (Only (fun _ => False) w6 wx))
              case first =>
                as_aux_lemma =>
                  -- {r17A
                  refine wp_region_noPanic ?_
                  refine wp_region_held_drew (S := fun W => Only (fun _ => False) w6 W) (by kernel_rfl) (Only.drew _ _) (fun hHeld => ?_)
                  refine wpAnyH_take (i := 0) (oi := { dst := some 84, op := Op.move (Operand.tmp 5), type := 49, pos := "law.go:191", after := #[], guard := none }) (v := .pointer (some ⟨f, 0, none⟩)) rfl (by kernel_rfl) (by kernel_rfl) (by kernel_rfl) (fun _ _ _ h => h) (Or.inl ⟨by rfl, fun w' hSw => by clear hSw; go_simp⟩) (by assumption) ?_
                  simp only [Act.put, List.setIfInBounds_toArray, List.set_cons_zero, List.set_cons_succ]
                  refine wpAnyH_take (i := 4) (oi := { dst := some 88, op := Op.move (Operand.tmp 11), type := 3, pos := "law.go:191", after := #[], guard := none }) (v := .int .i64 (j : Int)) rfl (by kernel_rfl) (by kernel_rfl) (by kernel_rfl) (fun _ _ _ h => h) (Or.inl ⟨by rfl, fun w' hSw => by clear hSw; go_simp⟩) (by assumption) ?_
                  simp only [Act.put, List.setIfInBounds_toArray, List.set_cons_zero, List.set_cons_succ]
                  refine wpAnyH_take (i := 7) (oi := { dst := some 91, op := Op.move (Operand.tmp 6), type := 47, pos := "law.go:191", after := #[], guard := none }) (v := .slice (some ⟨BQ, oq, none⟩) Q.length vc) rfl (by kernel_rfl) (by kernel_rfl) (by kernel_rfl) (fun _ _ _ h => h) (Or.inl ⟨by rfl, fun w' hSw => by clear hSw; go_simp⟩) (by assumption) ?_
                  simp only [Act.put, List.setIfInBounds_toArray, List.set_cons_zero, List.set_cons_succ]
                  refine wpAnyH_take (i := 8) (oi := { dst := some 92, op := Op.move (Operand.tmp 10), type := 3, pos := "law.go:191", after := #[], guard := none }) (v := .int .i64 (k : Int)) rfl (by kernel_rfl) (by kernel_rfl) (by kernel_rfl) (fun _ _ _ h => h) (Or.inl ⟨by rfl, fun w' hSw => by clear hSw; go_simp⟩) (by assumption) ?_
                  simp only [Act.put, List.setIfInBounds_toArray, List.set_cons_zero, List.set_cons_succ]
                  refine wpAnyH_take (i := 12) (oi := { dst := some 96, op := Op.move (Operand.tmp 6), type := 47, pos := "law.go:191", after := #[], guard := none }) (v := .slice (some ⟨BQ, oq, none⟩) Q.length vc) rfl (by kernel_rfl) (by kernel_rfl) (by kernel_rfl) (fun _ _ _ h => h) (Or.inl ⟨by rfl, fun w' hSw => by clear hSw; go_simp⟩) (by assumption) ?_
                  simp only [Act.put, List.setIfInBounds_toArray, List.set_cons_zero, List.set_cons_succ]
                  refine wpAnyH_take (i := 13) (oi := { dst := some 97, op := Op.move (Operand.tmp 10), type := 3, pos := "law.go:191", after := #[], guard := none }) (v := .int .i64 (k : Int)) rfl (by kernel_rfl) (by kernel_rfl) (by kernel_rfl) (fun _ _ _ h => h) (Or.inl ⟨by rfl, fun w' hSw => by clear hSw; go_simp⟩) (by assumption) ?_
                  simp only [Act.put, List.setIfInBounds_toArray, List.set_cons_zero, List.set_cons_succ]
                  refine wpAnyH_take (i := 1) (oi := { dst := some 85, op := Op.nilCheck (Operand.tmp 84), type := 0, pos := "law.go:191", after := #[{ on := 0, ground := Ground.data }], guard := none }) (v := .pointer (some ⟨f, 0, none⟩)) rfl (by kernel_rfl) (by kernel_rfl) (by kernel_rfl) (fun _ _ _ h => h) (Or.inl ⟨by rfl, fun w' hSw => by clear hSw; go_simp⟩) (by assumption) ?_
                  simp only [Act.put, List.setIfInBounds_toArray, List.set_cons_zero, List.set_cons_succ]
                  refine wpAnyH_take (i := 9) (oi := { dst := some 93, op := Op.indexAddr 47 (Operand.tmp 91) (Operand.tmp 92), type := 0, pos := "law.go:191", after := #[{ on := 7, ground := Ground.data }, { on := 8, ground := Ground.data }], guard := none }) (v := .pointer (some ⟨BQ, oq + k * 3, none⟩)) rfl (by kernel_rfl) (by kernel_rfl) (by kernel_rfl) (fun _ _ _ h => h) (Or.inl ⟨by rfl, fun w' hSw => by clear hSw; go_simp⟩) (by assumption) ?_
                  simp only [Act.put, List.setIfInBounds_toArray, List.set_cons_zero, List.set_cons_succ]
                  refine wpAnyH_take (i := 14) (oi := { dst := some 98, op := Op.indexAddr 47 (Operand.tmp 96) (Operand.tmp 97), type := 0, pos := "law.go:191", after := #[{ on := 12, ground := Ground.data }, { on := 13, ground := Ground.data }], guard := none }) (v := .pointer (some ⟨BQ, oq + k * 3, none⟩)) rfl (by kernel_rfl) (by kernel_rfl) (by kernel_rfl) (fun _ _ _ h => h) (Or.inl ⟨by rfl, fun w' hSw => by clear hSw; go_simp⟩) (by assumption) ?_
                  simp only [Act.put, List.setIfInBounds_toArray, List.set_cons_zero, List.set_cons_succ]
                  refine wpAnyH_take (i := 2) (oi := { dst := some 86, op := Op.fieldAddr 53 (Operand.tmp 85) 0, type := 0, pos := "law.go:191", after := #[{ on := 1, ground := Ground.data }], guard := none }) (v := .pointer (some ⟨f, 0, none⟩)) rfl (by kernel_rfl) (by kernel_rfl) (by kernel_rfl) (fun _ _ _ h => h) (Or.inl ⟨by rfl, fun w' hSw => by clear hSw; go_simp⟩) (by assumption) ?_
                  simp only [Act.put, List.setIfInBounds_toArray, List.set_cons_zero, List.set_cons_succ]
                  refine wpAnyH_take (i := 10) (oi := { dst := some 94, op := Op.fieldAddr 41 (Operand.tmp 93) 0, type := 0, pos := "law.go:191", after := #[{ on := 9, ground := Ground.data }], guard := none }) (v := .pointer (some ⟨BQ, oq + k * 3, none⟩)) rfl (by kernel_rfl) (by kernel_rfl) (by kernel_rfl) (fun _ _ _ h => h) (Or.inl ⟨by rfl, fun w' hSw => by clear hSw; go_simp⟩) (by assumption) ?_
                  simp only [Act.put, List.setIfInBounds_toArray, List.set_cons_zero, List.set_cons_succ]
                  refine wpAnyH_take (i := 15) (oi := { dst := some 99, op := Op.fieldAddr 41 (Operand.tmp 98) 0, type := 0, pos := "law.go:191", after := #[{ on := 14, ground := Ground.data }], guard := none }) (v := .pointer (some ⟨BQ, oq + k * 3, none⟩)) rfl (by kernel_rfl) (by kernel_rfl) (by kernel_rfl) (fun _ _ _ h => h) (Or.inl ⟨by rfl, fun w' hSw => by clear hSw; go_simp⟩) (by assumption) ?_
                  simp only [Act.put, List.setIfInBounds_toArray, List.set_cons_zero, List.set_cons_succ]
                  refine wpAnyH_take (i := 3) (oi := { dst := some 87, op := Op.load 51 (Operand.tmp 86), type := 51, pos := "law.go:191", after := #[{ on := 2, ground := Ground.data }], guard := none }) (v := .slice (some ⟨g, 0, none⟩) n cap) rfl (by kernel_rfl) (by kernel_rfl) (by kernel_rfl) (fun _ _ _ h => h) (yieldsIf_load_cell (by rfl) 51 _ rfl _ rfl (fun W hW => (hW.cell (p := ⟨f, 0, none⟩) HFB.out (fun h => h)).trans fc) (fun W hc => ld_pages hc)) (by assumption) ?_
                  simp only [Act.put, List.setIfInBounds_toArray, List.set_cons_zero, List.set_cons_succ]
                  refine wpAnyH_take (i := 11) (oi := { dst := some 95, op := Op.load 9 (Operand.tmp 94), type := 9, pos := "law.go:191", after := #[{ on := 10, ground := Ground.data }], guard := none }) (v := .string q.key) rfl (by kernel_rfl) (by kernel_rfl) (by kernel_rfl) (fun _ _ _ h => h) (yieldsIf_load_cell (by rfl) 9 _ rfl _ rfl (fun W hW => (hW.cell (p := ⟨BQ, oq + k * 3, none⟩) hbq (fun h => h)).trans e0) (fun W hc => ld_string hc)) (by assumption) ?_
                  simp only [Act.put, List.setIfInBounds_toArray, List.set_cons_zero, List.set_cons_succ]
                  refine wpAnyH_take (i := 16) (oi := { dst := some 100, op := Op.load 9 (Operand.tmp 99), type := 9, pos := "law.go:191", after := #[{ on := 15, ground := Ground.data }], guard := none }) (v := .string q.key) rfl (by kernel_rfl) (by kernel_rfl) (by kernel_rfl) (fun _ _ _ h => h) (yieldsIf_load_cell (by rfl) 9 _ rfl _ rfl (fun W hW => (hW.cell (p := ⟨BQ, oq + k * 3, none⟩) hbq (fun h => h)).trans e0) (fun W hc => ld_string hc)) (by assumption) ?_
                  simp only [Act.put, List.setIfInBounds_toArray, List.set_cons_zero, List.set_cons_succ]
                  refine wpAnyH_take (i := 5) (oi := { dst := some 89, op := Op.indexAddr 51 (Operand.tmp 87) (Operand.tmp 88), type := 0, pos := "law.go:191", after := #[{ on := 3, ground := Ground.data }, { on := 4, ground := Ground.data }], guard := none }) (v := .pointer (some ⟨g, j * 6, none⟩)) rfl (by kernel_rfl) (by kernel_rfl) (by kernel_rfl) (fun _ _ _ h => h) (Or.inl ⟨by rfl, fun w' hSw => by clear hSw; go_simp⟩) (by assumption) ?_
                  simp only [Act.put, List.setIfInBounds_toArray, List.set_cons_zero, List.set_cons_succ]
                  refine wpAnyH_take (i := 17) (oi := { dst := some 101, op := Op.binOp BinOp.add 9 (Operand.tmp 100) (Operand.const (Value.string { data := #[0] })) 9, type := 9, pos := "law.go:191", after := #[{ on := 16, ground := Ground.data }], guard := none }) (v := .string (q.key ++ ⟨#[0]⟩)) rfl (by kernel_rfl) (by kernel_rfl) (by kernel_rfl) (fun _ _ _ h => h) (Or.inl ⟨by rfl, fun w' hSw => by clear hSw; go_simp⟩) (by assumption) ?_
                  simp only [Act.put, List.setIfInBounds_toArray, List.set_cons_zero, List.set_cons_succ]
                  refine wpAnyH_take (i := 6) (oi := { dst := some 90, op := Op.load 24 (Operand.tmp 89), type := 24, pos := "law.go:191", after := #[{ on := 5, ground := Ground.data }], guard := none }) (v := .agg #[.int .i64 z.p.lsn, .int .i64 z.p.kind, .int .i64 z.p.level, .int .i64 z.p.right, .string z.p.high, .slice z.ao z.p.items.length z.cp]) rfl (by kernel_rfl) (by kernel_rfl) (by kernel_rfl) (fun _ _ _ h => h) (yieldsIf_load_pz (by rfl) _ rfl rfl (fun W hW => HRG.out.more hW)) (by assumption) ?_
                  simp only [Act.put, List.setIfInBounds_toArray, List.set_cons_zero, List.set_cons_succ]
                  refine wpAnyH_ready (rs := [18]) (by kernel_rfl) (by simp) ?_
                  refine AllReadyH.cons (o := { dst := some 102, op := Op.call { callee := Callee.value (Operand.func 19), args := #[Operand.tmp 90, Operand.tmp 95, Operand.tmp 101], argTypes := #[24, 9, 9] }, type := 58, pos := "law.go:191", after := #[{ on := 6, ground := Ground.data }, { on := 11, ground := Ground.data }, { on := 17, ground := Ground.data }], guard := none }) rfl (fun K hK => ?_) (AllReadyH.nil)
                  go_simp
                  refine (HHT.out _ hHeld).mono ?_
                  rintro x x1 ⟨A8, C8, rfl, het, hox⟩
                  have HX1 := hide (o2 hHeld hox)
                  have HET := hide het
                  clear het hox
                  refine hK.out _ _ (HX1.out) (fun hHeld => ?_)
                  clear hK K
                  try simp only [Act.put, List.setIfInBounds_toArray, List.set_cons_zero, List.set_cons_succ]
                  refine wpAnyH_take (i := 19) (oi := { dst := some 83, op := Op.move (Operand.tmp 102), type := 58, pos := "law.go:191", after := #[{ on := 18, ground := Ground.data }], guard := none }) (v := .tuple #[.slice A8 HI.length C8, .bool mo, .int .i64 0]) rfl (by kernel_rfl) (by kernel_rfl) (by kernel_rfl) (fun _ _ _ h => h) (Or.inl ⟨by rfl, fun w' hSw => by clear hSw; go_simp⟩) (by assumption) ?_
                  simp only [Act.put, List.setIfInBounds_toArray, List.set_cons_zero, List.set_cons_succ]
                  refine wpAnyH_take (i := 20) (oi := { dst := some 103, op := Op.extract (Operand.tmp 83) 0, type := 47, pos := "law.go:191", after := #[{ on := 19, ground := Ground.data }], guard := none }) (v := .slice A8 HI.length C8) rfl (by kernel_rfl) (by kernel_rfl) (by kernel_rfl) (fun _ _ _ h => h) (Or.inl ⟨by rfl, fun w' hSw => by clear hSw; go_simp⟩) (by assumption) ?_
                  simp only [Act.put, List.setIfInBounds_toArray, List.set_cons_zero, List.set_cons_succ]
                  refine wpAnyH_take (i := 21) (oi := { dst := some 104, op := Op.extract (Operand.tmp 83) 1, type := 4, pos := "law.go:191", after := #[{ on := 19, ground := Ground.data }, { on := 23, ground := Ground.gcOnly Departure.lateStores }], guard := none }) (v := .bool mo) rfl (by kernel_rfl) (by kernel_rfl) (by kernel_rfl) (fun _ _ _ h => h) (Or.inl ⟨by rfl, fun w' hSw => by clear hSw; go_simp⟩) (by assumption) ?_
                  simp only [Act.put, List.setIfInBounds_toArray, List.set_cons_zero, List.set_cons_succ]
                  refine wpAnyH_take (i := 22) (oi := { dst := some 105, op := Op.extract (Operand.tmp 83) 2, type := 28, pos := "law.go:191", after := #[{ on := 19, ground := Ground.data }, { on := 24, ground := Ground.gcOnly Departure.lateStores }], guard := none }) (v := .int .i64 0) rfl (by kernel_rfl) (by kernel_rfl) (by kernel_rfl) (fun _ _ _ h => h) (Or.inl ⟨by rfl, fun w' hSw => by clear hSw; go_simp⟩) (by assumption) ?_
                  simp only [Act.put, List.setIfInBounds_toArray, List.set_cons_zero, List.set_cons_succ]
                  refine wpAnyH_take (i := 23) (oi := { dst := some 12, op := Op.assign (Operand.tmp 103), type := 47, pos := "law.go:191", after := #[{ on := 20, ground := Ground.data }, { on := 18, ground := Ground.chain }, { on := 0, ground := Ground.phase }, { on := 1, ground := Ground.phase }, { on := 2, ground := Ground.phase }, { on := 3, ground := Ground.phase }, { on := 4, ground := Ground.phase }, { on := 5, ground := Ground.phase }, { on := 6, ground := Ground.phase }, { on := 7, ground := Ground.phase }, { on := 8, ground := Ground.phase }, { on := 9, ground := Ground.phase }, { on := 10, ground := Ground.phase }, { on := 11, ground := Ground.phase }, { on := 12, ground := Ground.phase }, { on := 13, ground := Ground.phase }, { on := 14, ground := Ground.phase }, { on := 15, ground := Ground.phase }, { on := 16, ground := Ground.phase }, { on := 17, ground := Ground.phase }, { on := 18, ground := Ground.phase }, { on := 19, ground := Ground.phase }, { on := 20, ground := Ground.phase }, { on := 21, ground := Ground.textOnly Departure.lateStores }, { on := 22, ground := Ground.textOnly Departure.lateStores }], guard := none }) (v := .slice A8 HI.length C8) rfl (by kernel_rfl) (by kernel_rfl) (by kernel_rfl) (fun _ _ _ h => h) (Or.inl ⟨by rfl, fun w' hSw => by clear hSw; go_simp⟩) (by assumption) ?_
                  simp only [Act.put, List.setIfInBounds_toArray, List.set_cons_zero, List.set_cons_succ]
                  refine wpAnyH_take (i := 24) (oi := { dst := some 13, op := Op.assign (Operand.tmp 104), type := 4, pos := "law.go:191", after := #[{ on := 21, ground := Ground.data }, { on := 23, ground := Ground.chain }, { on := 0, ground := Ground.phase }, { on := 1, ground := Ground.phase }, { on := 2, ground := Ground.phase }, { on := 3, ground := Ground.phase }, { on := 4, ground := Ground.phase }, { on := 5, ground := Ground.phase }, { on := 6, ground := Ground.phase }, { on := 7, ground := Ground.phase }, { on := 8, ground := Ground.phase }, { on := 9, ground := Ground.phase }, { on := 10, ground := Ground.phase }, { on := 11, ground := Ground.phase }, { on := 12, ground := Ground.phase }, { on := 13, ground := Ground.phase }, { on := 14, ground := Ground.phase }, { on := 15, ground := Ground.phase }, { on := 16, ground := Ground.phase }, { on := 17, ground := Ground.phase }, { on := 18, ground := Ground.phase }, { on := 19, ground := Ground.phase }, { on := 20, ground := Ground.phase }, { on := 21, ground := Ground.phase }, { on := 22, ground := Ground.textOnly Departure.lateStores }, { on := 23, ground := Ground.phase }], guard := none }) (v := .bool mo) rfl (by kernel_rfl) (by kernel_rfl) (by kernel_rfl) (fun _ _ _ h => h) (Or.inl ⟨by rfl, fun w' hSw => by clear hSw; go_simp⟩) (by assumption) ?_
                  simp only [Act.put, List.setIfInBounds_toArray, List.set_cons_zero, List.set_cons_succ]
                  refine wpAnyH_take (i := 25) (oi := { dst := some 14, op := Op.assign (Operand.tmp 105), type := 28, pos := "law.go:191", after := #[{ on := 22, ground := Ground.data }, { on := 24, ground := Ground.chain }, { on := 0, ground := Ground.phase }, { on := 1, ground := Ground.phase }, { on := 2, ground := Ground.phase }, { on := 3, ground := Ground.phase }, { on := 4, ground := Ground.phase }, { on := 5, ground := Ground.phase }, { on := 6, ground := Ground.phase }, { on := 7, ground := Ground.phase }, { on := 8, ground := Ground.phase }, { on := 9, ground := Ground.phase }, { on := 10, ground := Ground.phase }, { on := 11, ground := Ground.phase }, { on := 12, ground := Ground.phase }, { on := 13, ground := Ground.phase }, { on := 14, ground := Ground.phase }, { on := 15, ground := Ground.phase }, { on := 16, ground := Ground.phase }, { on := 17, ground := Ground.phase }, { on := 18, ground := Ground.phase }, { on := 19, ground := Ground.phase }, { on := 20, ground := Ground.phase }, { on := 21, ground := Ground.phase }, { on := 22, ground := Ground.phase }, { on := 23, ground := Ground.phase }, { on := 24, ground := Ground.phase }], guard := none }) (v := .int .i64 0) rfl (by kernel_rfl) (by kernel_rfl) (by kernel_rfl) (fun _ _ _ h => h) (Or.inl ⟨by rfl, fun w' hSw => by clear hSw; go_simp⟩) (by assumption) ?_
                  simp only [Act.put, List.setIfInBounds_toArray, List.set_cons_zero, List.set_cons_succ]
                  refine wpAnyH_done (by kernel_rfl) ?_ _
                  refine NoPanic.normal ?_
                  go_wp2_with fail
                  go_meet
                  exact ⟨_, _, rfl, rfl, rfl, hide ⟨_, HET.out⟩, HX1⟩
                  -- r17A}
              case rest =>
                as_aux_lemma =>
                  obtain ⟨A8, C8, rfl, rfl, rfl, HE8, HO8⟩ := hcut
                  obtain ⟨w7, hw7⟩ : ∃ x, wc = x := ⟨_, rfl⟩
                  rw [hw7] at HE8 HO8 ⊢
                  clear hw7
                  obtain ⟨b8, het⟩ := HE8.out
                  have HET := hide het
                  have hHIl := het.len
                  have HQ7 := hide (HQ6.out.more HO8.out)
                  have HRG7 := hide (HRG.out.more HO8.out)
                  have HOY7 := hide (o2 HOY6.out HO8.out)
                  have HS7 := hide (HS6.out.more HO8.out)
                  clear het HE8 e0 e1 e2 hbq fc
                  go_upto_region 20 with fail
                  go_loopw [15, 16] (fun x y wy => ∃ (m : Nat), y = .int .i64 (m : Int) ∧ m ≤ HI.length ∧ x = .bool (decide (q ∈ HI.take m)) ∧ Hid (Only (fun _ => False) w7 wy)) (fun _ y _ => HI.length - (intOf y).toNat)
                  case atStart => exact ⟨0, rfl, by omega, by simp, hide (Only.refl _ _)⟩
                  case round =>
                    as_aux_lemma =>
                      obtain ⟨m, rfl, hm, rfl, HM⟩ := hrel
                      by_cases hml : m < HI.length
                      · have hm1 : (m : Int) < (HI.length : Int) := by omega
                        have hm2 : ¬ (HI.length : Int) ≤ (m : Int) := by omega
                        obtain ⟨BH, helh, _⟩ := (HET.out.more HM.out).elsOf
                        obtain ⟨oh, rfl, hebh⟩ := helh.of m hml
                        obtain ⟨r, hr⟩ : ∃ r, HI[m] = r := ⟨_, rfl⟩
                        rw [hr] at hebh
                        have HH := hide hebh
                        have HQ8 := hide (HQ7.out.more HM.out)
                        have htk : decide (q ∈ HI.take (m + 1)) = (decide (q ∈ HI.take m) || decide (r = q)) := by
                          rw [List.take_succ_eq_append_getElem hml, hr, Bool.eq_iff_iff, Bool.or_eq_true, decide_eq_true_iff, decide_eq_true_iff, decide_eq_true_iff, List.mem_append, List.mem_singleton]
                          exact or_congr_right eq_comm
                        obtain ⟨hs, hhs⟩ : ∃ b, decide (q ∈ HI.take m) = b := ⟨_, rfl⟩
                        rw [hhs] at htk ⊢
                        obtain ⟨rq, hrq⟩ : ∃ b, decide (r = q) = b := ⟨_, rfl⟩
                        have hqe := eqE_run r q
                        rw [hrq] at htk hqe
                        have HTK := hide htk
                        clear htk hhs hrq hr hebh helh
                        go_upto_region 22 with fail
                        cases hs
                        · -- mark
                          -- {r22aA
                          refine wp_region_noPanic ?_
                          refine wp_region_held_drew (S := fun W => Only (fun _ => False) wr W) (by kernel_rfl) (Only.drew _ _) (fun hHeld => ?_)
                          refine wpAnyH_take (i := 0) (oi := { dst := some 112, op := Op.move (Operand.tmp 15), type := 4, pos := "law.go:194", after := #[], guard := none }) (v := .bool false) rfl (by kernel_rfl) (by kernel_rfl) (by kernel_rfl) (fun _ _ _ h => h) (Or.inl ⟨by rfl, fun w' hSw => by clear hSw; go_simp⟩) (by assumption) ?_
                          simp only [Act.put, List.setIfInBounds_toArray, List.set_cons_zero, List.set_cons_succ]
                          refine wpAnyH_take (i := 1) (oi := { dst := some 113, op := Op.move (Operand.tmp 112), type := 4, pos := "law.go:194", after := #[{ on := 0, ground := Ground.data }], guard := none }) (v := .bool false) rfl (by kernel_rfl) (by kernel_rfl) (by kernel_rfl) (fun _ _ _ h => h) (Or.inl ⟨by rfl, fun w' hSw => by clear hSw; go_simp⟩) (by assumption) ?_
                          simp only [Act.put, List.setIfInBounds_toArray, List.set_cons_zero, List.set_cons_succ]
                          refine wpAnyH_take (i := 2) (oi := { dst := some 114, op := Op.move (Operand.tmp 12), type := 47, pos := "law.go:194", after := #[{ on := 1, ground := Ground.guard }], guard := some (1, false) }) (v := .slice (some ⟨BH, oh, none⟩) HI.length C8) rfl (by kernel_rfl) (by kernel_rfl) (by kernel_rfl) (fun _ _ _ h => h) (Or.inl ⟨by rfl, fun w' hSw => by clear hSw; go_simp⟩) (by assumption) ?_
                          simp only [Act.put, List.setIfInBounds_toArray, List.set_cons_zero, List.set_cons_succ]
                          refine wpAnyH_take (i := 3) (oi := { dst := some 115, op := Op.move (Operand.tmp 16), type := 3, pos := "law.go:194", after := #[{ on := 1, ground := Ground.guard }], guard := some (1, false) }) (v := .int .i64 (m : Int)) rfl (by kernel_rfl) (by kernel_rfl) (by kernel_rfl) (fun _ _ _ h => h) (Or.inl ⟨by rfl, fun w' hSw => by clear hSw; go_simp⟩) (by assumption) ?_
                          simp only [Act.put, List.setIfInBounds_toArray, List.set_cons_zero, List.set_cons_succ]
                          refine wpAnyH_take (i := 6) (oi := { dst := some 118, op := Op.move (Operand.tmp 6), type := 47, pos := "law.go:194", after := #[{ on := 1, ground := Ground.guard }], guard := some (1, false) }) (v := .slice (some ⟨BQ, oq, none⟩) Q.length vc) rfl (by kernel_rfl) (by kernel_rfl) (by kernel_rfl) (fun _ _ _ h => h) (Or.inl ⟨by rfl, fun w' hSw => by clear hSw; go_simp⟩) (by assumption) ?_
                          simp only [Act.put, List.setIfInBounds_toArray, List.set_cons_zero, List.set_cons_succ]
                          refine wpAnyH_take (i := 7) (oi := { dst := some 119, op := Op.move (Operand.tmp 10), type := 3, pos := "law.go:194", after := #[{ on := 1, ground := Ground.guard }], guard := some (1, false) }) (v := .int .i64 (k : Int)) rfl (by kernel_rfl) (by kernel_rfl) (by kernel_rfl) (fun _ _ _ h => h) (Or.inl ⟨by rfl, fun w' hSw => by clear hSw; go_simp⟩) (by assumption) ?_
                          simp only [Act.put, List.setIfInBounds_toArray, List.set_cons_zero, List.set_cons_succ]
                          refine wpAnyH_take (i := 4) (oi := { dst := some 116, op := Op.indexAddr 47 (Operand.tmp 114) (Operand.tmp 115), type := 0, pos := "law.go:194", after := #[{ on := 2, ground := Ground.data }, { on := 3, ground := Ground.data }, { on := 1, ground := Ground.guard }], guard := some (1, false) }) (v := .pointer (some ⟨BH, oh + m * 3, none⟩)) rfl (by kernel_rfl) (by kernel_rfl) (by kernel_rfl) (fun _ _ _ h => h) (Or.inl ⟨by rfl, fun w' hSw => by clear hSw; go_simp⟩) (by assumption) ?_
                          simp only [Act.put, List.setIfInBounds_toArray, List.set_cons_zero, List.set_cons_succ]
                          refine wpAnyH_take (i := 8) (oi := { dst := some 120, op := Op.indexAddr 47 (Operand.tmp 118) (Operand.tmp 119), type := 0, pos := "law.go:194", after := #[{ on := 6, ground := Ground.data }, { on := 7, ground := Ground.data }, { on := 1, ground := Ground.guard }], guard := some (1, false) }) (v := .pointer (some ⟨BQ, oq + k * 3, none⟩)) rfl (by kernel_rfl) (by kernel_rfl) (by kernel_rfl) (fun _ _ _ h => h) (Or.inl ⟨by rfl, fun w' hSw => by clear hSw; go_simp⟩) (by assumption) ?_
                          simp only [Act.put, List.setIfInBounds_toArray, List.set_cons_zero, List.set_cons_succ]
                          refine wpAnyH_take (i := 5) (oi := { dst := some 117, op := Op.load 41 (Operand.tmp 116), type := 41, pos := "law.go:194", after := #[{ on := 4, ground := Ground.data }, { on := 1, ground := Ground.guard }], guard := some (1, false) }) (v := .agg #[.string r.key, .int .i64 r.page, .int .i64 r.slot]) rfl (by kernel_rfl) (by kernel_rfl) (by kernel_rfl) (fun _ _ _ h => h) (yieldsIf_load_eb (by rfl) _ rfl rfl (fun W hW => HH.out.more hW)) (by assumption) ?_
                          simp only [Act.put, List.setIfInBounds_toArray, List.set_cons_zero, List.set_cons_succ]
                          refine wpAnyH_take (i := 9) (oi := { dst := some 121, op := Op.load 41 (Operand.tmp 120), type := 41, pos := "law.go:194", after := #[{ on := 8, ground := Ground.data }, { on := 1, ground := Ground.guard }], guard := some (1, false) }) (v := .agg #[.string q.key, .int .i64 q.page, .int .i64 q.slot]) rfl (by kernel_rfl) (by kernel_rfl) (by kernel_rfl) (fun _ _ _ h => h) (yieldsIf_load_eb (by rfl) _ rfl rfl (fun W hW => HQ8.out.more hW)) (by assumption) ?_
                          simp only [Act.put, List.setIfInBounds_toArray, List.set_cons_zero, List.set_cons_succ]
                          refine wpAnyH_take (i := 10) (oi := { dst := some 122, op := Op.binOp BinOp.eql 41 (Operand.tmp 117) (Operand.tmp 121) 41, type := 4, pos := "law.go:194", after := #[{ on := 5, ground := Ground.data }, { on := 9, ground := Ground.data }, { on := 1, ground := Ground.guard }], guard := some (1, false) }) (v := .bool rq) rfl (by kernel_rfl) (by kernel_rfl) (by kernel_rfl) (fun _ _ _ h => h) (Or.inl ⟨by rfl, fun w' hSw => by clear hSw; go_simp⟩) (by assumption) ?_
                          simp only [Act.put, List.setIfInBounds_toArray, List.set_cons_zero, List.set_cons_succ]
                          refine wpAnyH_take (i := 11) (oi := { dst := some 123, op := Op.pick (Operand.tmp 113) (Operand.const (Value.bool true)) (Operand.tmp 122), type := 4, pos := "law.go:194", after := #[{ on := 1, ground := Ground.data }, { on := 10, ground := Ground.data }], guard := none }) (v := .bool rq) rfl (by kernel_rfl) (by kernel_rfl) (by kernel_rfl) (fun _ _ _ h => h) (Or.inl ⟨by rfl, fun w' hSw => by clear hSw; go_simp⟩) (by assumption) ?_
                          simp only [Act.put, List.setIfInBounds_toArray, List.set_cons_zero, List.set_cons_succ]
                          refine wpAnyH_take (i := 12) (oi := { dst := some 15, op := Op.assign (Operand.tmp 123), type := 4, pos := "law.go:194", after := #[{ on := 11, ground := Ground.data }, { on := 1, ground := Ground.chain }, { on := 0, ground := Ground.phase }, { on := 1, ground := Ground.phase }, { on := 2, ground := Ground.phase }, { on := 3, ground := Ground.phase }, { on := 4, ground := Ground.phase }, { on := 5, ground := Ground.phase }, { on := 6, ground := Ground.phase }, { on := 7, ground := Ground.phase }, { on := 8, ground := Ground.phase }, { on := 9, ground := Ground.phase }, { on := 10, ground := Ground.phase }, { on := 11, ground := Ground.phase }], guard := none }) (v := .bool rq) rfl (by kernel_rfl) (by kernel_rfl) (by kernel_rfl) (fun _ _ _ h => h) (Or.inl ⟨by rfl, fun w' hSw => by clear hSw; go_simp⟩) (by assumption) ?_
                          simp only [Act.put, List.setIfInBounds_toArray, List.set_cons_zero, List.set_cons_succ]
                          refine wpAnyH_done (by kernel_rfl) ?_ _
                          refine NoPanic.normal ?_
                          go_wp2_with fail
                          go_roundw
                          case rel => exact ⟨m + 1, by go_num, by omega, by rw [HTK.out]; rfl, hide (o2 HM.out (Only.drew _ _))⟩
                          case measure => simp [intOf]; omega
                          -- r22aA}
                        · -- mark
                          -- {r22bA
                          refine wp_region_noPanic ?_
                          refine wp_region_held_drew (S := fun W => Only (fun _ => False) wr W) (by kernel_rfl) (Only.drew _ _) (fun hHeld => ?_)
                          refine wpAnyH_take (i := 0) (oi := { dst := some 112, op := Op.move (Operand.tmp 15), type := 4, pos := "law.go:194", after := #[], guard := none }) (v := .bool true) rfl (by kernel_rfl) (by kernel_rfl) (by kernel_rfl) (fun _ _ _ h => h) (Or.inl ⟨by rfl, fun w' hSw => by clear hSw; go_simp⟩) (by assumption) ?_
                          simp only [Act.put, List.setIfInBounds_toArray, List.set_cons_zero, List.set_cons_succ]
                          refine wpAnyH_take (i := 1) (oi := { dst := some 113, op := Op.move (Operand.tmp 112), type := 4, pos := "law.go:194", after := #[{ on := 0, ground := Ground.data }], guard := none }) (v := .bool true) rfl (by kernel_rfl) (by kernel_rfl) (by kernel_rfl) (fun _ _ _ h => h) (Or.inl ⟨by rfl, fun w' hSw => by clear hSw; go_simp⟩) (by assumption) ?_
                          simp only [Act.put, List.setIfInBounds_toArray, List.set_cons_zero, List.set_cons_succ]
                          refine wpAnyH_take (i := 2) (oi := { dst := some 114, op := Op.move (Operand.tmp 12), type := 47, pos := "law.go:194", after := #[{ on := 1, ground := Ground.guard }], guard := some (1, false) }) (v := undef) rfl (by kernel_rfl) (by kernel_rfl) (by kernel_rfl) (fun _ _ _ h => h) (Or.inr ⟨by rfl, rfl⟩) (by assumption) ?_
                          simp only [Act.put, List.setIfInBounds_toArray, List.set_cons_zero, List.set_cons_succ]
                          refine wpAnyH_take (i := 3) (oi := { dst := some 115, op := Op.move (Operand.tmp 16), type := 3, pos := "law.go:194", after := #[{ on := 1, ground := Ground.guard }], guard := some (1, false) }) (v := undef) rfl (by kernel_rfl) (by kernel_rfl) (by kernel_rfl) (fun _ _ _ h => h) (Or.inr ⟨by rfl, rfl⟩) (by assumption) ?_
                          simp only [Act.put, List.setIfInBounds_toArray, List.set_cons_zero, List.set_cons_succ]
                          refine wpAnyH_take (i := 6) (oi := { dst := some 118, op := Op.move (Operand.tmp 6), type := 47, pos := "law.go:194", after := #[{ on := 1, ground := Ground.guard }], guard := some (1, false) }) (v := undef) rfl (by kernel_rfl) (by kernel_rfl) (by kernel_rfl) (fun _ _ _ h => h) (Or.inr ⟨by rfl, rfl⟩) (by assumption) ?_
                          simp only [Act.put, List.setIfInBounds_toArray, List.set_cons_zero, List.set_cons_succ]
                          refine wpAnyH_take (i := 7) (oi := { dst := some 119, op := Op.move (Operand.tmp 10), type := 3, pos := "law.go:194", after := #[{ on := 1, ground := Ground.guard }], guard := some (1, false) }) (v := undef) rfl (by kernel_rfl) (by kernel_rfl) (by kernel_rfl) (fun _ _ _ h => h) (Or.inr ⟨by rfl, rfl⟩) (by assumption) ?_
                          simp only [Act.put, List.setIfInBounds_toArray, List.set_cons_zero, List.set_cons_succ]
                          refine wpAnyH_take (i := 4) (oi := { dst := some 116, op := Op.indexAddr 47 (Operand.tmp 114) (Operand.tmp 115), type := 0, pos := "law.go:194", after := #[{ on := 2, ground := Ground.data }, { on := 3, ground := Ground.data }, { on := 1, ground := Ground.guard }], guard := some (1, false) }) (v := undef) rfl (by kernel_rfl) (by kernel_rfl) (by kernel_rfl) (fun _ _ _ h => h) (Or.inr ⟨by rfl, rfl⟩) (by assumption) ?_
                          simp only [Act.put, List.setIfInBounds_toArray, List.set_cons_zero, List.set_cons_succ]
                          refine wpAnyH_take (i := 8) (oi := { dst := some 120, op := Op.indexAddr 47 (Operand.tmp 118) (Operand.tmp 119), type := 0, pos := "law.go:194", after := #[{ on := 6, ground := Ground.data }, { on := 7, ground := Ground.data }, { on := 1, ground := Ground.guard }], guard := some (1, false) }) (v := undef) rfl (by kernel_rfl) (by kernel_rfl) (by kernel_rfl) (fun _ _ _ h => h) (Or.inr ⟨by rfl, rfl⟩) (by assumption) ?_
                          simp only [Act.put, List.setIfInBounds_toArray, List.set_cons_zero, List.set_cons_succ]
                          refine wpAnyH_take (i := 5) (oi := { dst := some 117, op := Op.load 41 (Operand.tmp 116), type := 41, pos := "law.go:194", after := #[{ on := 4, ground := Ground.data }, { on := 1, ground := Ground.guard }], guard := some (1, false) }) (v := undef) rfl (by kernel_rfl) (by kernel_rfl) (by kernel_rfl) (fun _ _ _ h => h) (Or.inr ⟨by rfl, rfl⟩) (by assumption) ?_
                          simp only [Act.put, List.setIfInBounds_toArray, List.set_cons_zero, List.set_cons_succ]
                          refine wpAnyH_take (i := 9) (oi := { dst := some 121, op := Op.load 41 (Operand.tmp 120), type := 41, pos := "law.go:194", after := #[{ on := 8, ground := Ground.data }, { on := 1, ground := Ground.guard }], guard := some (1, false) }) (v := undef) rfl (by kernel_rfl) (by kernel_rfl) (by kernel_rfl) (fun _ _ _ h => h) (Or.inr ⟨by rfl, rfl⟩) (by assumption) ?_
                          simp only [Act.put, List.setIfInBounds_toArray, List.set_cons_zero, List.set_cons_succ]
                          refine wpAnyH_take (i := 10) (oi := { dst := some 122, op := Op.binOp BinOp.eql 41 (Operand.tmp 117) (Operand.tmp 121) 41, type := 4, pos := "law.go:194", after := #[{ on := 5, ground := Ground.data }, { on := 9, ground := Ground.data }, { on := 1, ground := Ground.guard }], guard := some (1, false) }) (v := undef) rfl (by kernel_rfl) (by kernel_rfl) (by kernel_rfl) (fun _ _ _ h => h) (Or.inr ⟨by rfl, rfl⟩) (by assumption) ?_
                          simp only [Act.put, List.setIfInBounds_toArray, List.set_cons_zero, List.set_cons_succ]
                          refine wpAnyH_take (i := 11) (oi := { dst := some 123, op := Op.pick (Operand.tmp 113) (Operand.const (Value.bool true)) (Operand.tmp 122), type := 4, pos := "law.go:194", after := #[{ on := 1, ground := Ground.data }, { on := 10, ground := Ground.data }], guard := none }) (v := .bool true) rfl (by kernel_rfl) (by kernel_rfl) (by kernel_rfl) (fun _ _ _ h => h) (Or.inl ⟨by rfl, fun w' hSw => by clear hSw; go_simp⟩) (by assumption) ?_
                          simp only [Act.put, List.setIfInBounds_toArray, List.set_cons_zero, List.set_cons_succ]
                          refine wpAnyH_take (i := 12) (oi := { dst := some 15, op := Op.assign (Operand.tmp 123), type := 4, pos := "law.go:194", after := #[{ on := 11, ground := Ground.data }, { on := 1, ground := Ground.chain }, { on := 0, ground := Ground.phase }, { on := 1, ground := Ground.phase }, { on := 2, ground := Ground.phase }, { on := 3, ground := Ground.phase }, { on := 4, ground := Ground.phase }, { on := 5, ground := Ground.phase }, { on := 6, ground := Ground.phase }, { on := 7, ground := Ground.phase }, { on := 8, ground := Ground.phase }, { on := 9, ground := Ground.phase }, { on := 10, ground := Ground.phase }, { on := 11, ground := Ground.phase }], guard := none }) (v := .bool true) rfl (by kernel_rfl) (by kernel_rfl) (by kernel_rfl) (fun _ _ _ h => h) (Or.inl ⟨by rfl, fun w' hSw => by clear hSw; go_simp⟩) (by assumption) ?_
                          simp only [Act.put, List.setIfInBounds_toArray, List.set_cons_zero, List.set_cons_succ]
                          refine wpAnyH_done (by kernel_rfl) ?_ _
                          refine NoPanic.normal ?_
                          go_wp2_with fail
                          go_roundw
                          case rel => exact ⟨m + 1, by go_num, by omega, by rw [HTK.out]; rfl, hide (o2 HM.out (Only.drew _ _))⟩
                          case measure => simp [intOf]; omega
                          -- r22bA}
                      · have hm1 : ¬ (m : Int) < (HI.length : Int) := by omega
                        have hhas : decide (q ∈ HI.take m) = true := by
                          rw [List.take_of_length_le (by omega)]
                          exact decide_eq_true HIN.out
                        rw [hhas]
                        have HRG8 := hide (HRG7.out.more HM.out)
                        have HOY8 := hide (o2 HOY7.out HM.out)
                        have fc := (HS7.out.more HM.out).sn.fm.cell
                        have HFB8 : Hid (f < wr.heap.size) := (HS7.out.more HM.out).sn.fm.flt
                        obtain ⟨n, hn⟩ : ∃ n, zs.length = n := ⟨_, rfl⟩
                        rw [hn] at fc HZL
                        have hjn : j < n := HZL.out.1
                        have hn9 : n ≤ 9999 := HZL.out.2
                        have hj2 : ¬ (n : Int) ≤ (j : Int) := by omega
                        have hj3 : (j : Int) < (n : Int) := by omega
                        clear hhas hn HET
                        have c3 := HRG8.out.cell 3 (.int .i64 z.p.right) rfl
                        cases mo
                        · go_wp2_with fail
                          go_roundw
                          case rel => exact ⟨k + 1, by go_num, by omega, HOY8⟩
                          case measure => simp [intOf]; omega
                        · have hzr : (z.p.right == (0 : Int)) = false := by
                            have := HMR.out rfl
                            simpa using this
                          go_wp2_with fail
                          go_roundw
                          case rel => exact ⟨k + 1, by go_num, by omega, HOY8⟩
                          case measure => simp [intOf]; omega
            · have hk1 : ¬ (k : Int) < (Q.length : Int) := by omega
              go_wp2_with fail
              refine (HAW.out _).mono ?_
              rintro x w9 ⟨rfl, ho⟩
              have HO9 := hide (o2 (o2 HW.out HOY.out) ho)
              clear ho
              go_wp2_with fail
              go_ret
              exact ⟨rfl, HO9.out⟩
      · clear hlt
        obtain ⟨w5, hw5⟩ : ∃ x, wr = x := ⟨_, rfl⟩
        rw [hw5] at HSr HW ⊢
        clear hw5
        go_upto_region 12 with fail
        go_loopw [10] (fun x wy => ∃ (k : Nat), x = .int .i64 (k : Int) ∧ k ≤ Q.length ∧ Hid (Only (fun _ => False) w5 wy)) (fun x _ => Q.length - (intOf x).toNat)
        case atStart => exact ⟨0, rfl, by omega, hide (Only.refl _ _)⟩
        case round =>
          as_aux_lemma =>
            obtain ⟨k, rfl, hk, HOY⟩ := hrel
            have HSk := hide (HSr.out.more HOY.out)
            by_cases hkl : k < Q.length
            · have hk1 : (k : Int) < (Q.length : Int) := by omega
              have hk4 : ¬ (Q.length : Int) ≤ (k : Int) := by omega
              obtain ⟨BQ, hels, _⟩ := HSk.out.ets.elsOf
              obtain ⟨oq, rfl, heb⟩ := hels.of k hkl
              obtain ⟨q, hq⟩ : ∃ q, Q[k] = q := ⟨_, rfl⟩
              rw [hq] at heb
              have HQ := hide heb
              have HA : Hid (A q) := HAr.out q (by rw [← hq]; exact List.getElem_mem _)
              have HOK : Hid (q.ok = true) := HSk.out.sn.fs.aok q HA.out
              have HFI := hide (sn_finds HSk.out.sn HBr.out (by omega) HOK.out)
              clear hels heb hq
              obtain ⟨e0, e1, e2, _⟩ := HQ.out
              go_wp2_with fail
              refine HFI.out.mono ?_
              rintro x w6 ⟨j, rfl, hj, ho⟩
              have HS6 := hide (HSk.out.more ho)
              have HOY6 := hide (o2 HOY.out ho)
              have HQ6 := hide (HQ.out.more ho)
              obtain ⟨z, hjl, hz, hht, hrg, hrt⟩ := HS6.out.sn.hits HBr.out (by omega) HOK.out hj.1 hj.2.1 q.key (q.key ++ ⟨#[0]⟩)
              have hin : q ∈ ((F j).es.filter (hitB q.key (q.key ++ ⟨#[0]⟩))) := List.mem_filter.2 ⟨(HS6.out.sn.fs.cont j hj.1 hj.2.1 q).2 ⟨HA.out, hj.2.2.1, hj.2.2.2⟩, hitB_own q⟩
              have hmr : (decide ((F j).rt ≠ 0) && (F j).goOn (q.key ++ ⟨#[0]⟩)) = true → z.p.right ≠ 0 := by
                intro h
                rw [Bool.and_eq_true, decide_eq_true_iff] at h
                rw [hrt]
                have := h.1
                omega
              unfold HtR at hht
              obtain ⟨HI, hHI⟩ : ∃ l, (F j).es.filter (hitB q.key (q.key ++ ⟨#[0]⟩)) = l := ⟨_, rfl⟩
              obtain ⟨mo, hmo⟩ : ∃ b, (decide ((F j).rt ≠ 0) && (F j).goOn (q.key ++ ⟨#[0]⟩)) = b := ⟨_, rfl⟩
              rw [hHI, hmo] at hht
              rw [hHI] at hin
              rw [hmo] at hmr
              have HHT := hide hht
              have HRG := hide hrg
              have HMR := hide hmr
              have HIN := hide hin
              unfold Pz.ar at HHT
              have hj0 : ¬ (j : Int) < 1 := by have := hj.1.1; omega
              have hj1 : (1 : Int) ≤ (j : Int) := by omega
              have fc := HS6.out.sn.fm.cell
              have hlen := HS6.out.sn.fz.len
              have hnum := HBr.out.num
              have HZL : Hid (j < zs.length ∧ zs.length ≤ 9999) := ⟨hjl, by omega⟩
              obtain ⟨n, hn⟩ : ∃ n, zs.length = n := ⟨_, rfl⟩
              rw [hn] at fc
              have hjn : j < n := by omega
              have hj2 : ¬ (n : Int) ≤ (j : Int) := by omega
              have hj3 : (j : Int) < (n : Int) := by omega
              have hn9 : n ≤ 9999 := by omega
              have HFB : Hid (f < w6.heap.size) := HS6.out.sn.fm.flt
              clear ho hht hrg hrt hmr hin hHI hmo hz hjl hj hn hlen hnum HFI e0 e1 e2
              obtain ⟨e0, e1, e2, hbq⟩ := HQ6.out
              have hks : q.key.size ≤ 9223372036854775806 := by have := (En.ok_iff.1 HOK.out).2.1; omega
              go_upto_region 17 with fail
              go_cut [12, 13, 14] (fun x y u wx => ∃ A8 C8, x = .slice A8 HI.length C8 ∧ y = .bool mo ∧ u = .int .i64 0 ∧ Hid (∃ b8, Ets wx b8 (.slice A8 HI.length C8) HI) ∧ Hid (Only (fun _ => False) w6 wx))
              case first =>
                as_aux_lemma =>
                  -- {r17B
                  refine wp_region_noPanic ?_
                  refine wp_region_held_drew (S := fun W => Only (fun _ => False) w6 W) (by kernel_rfl) (Only.drew _ _) (fun hHeld => ?_)
                  refine wpAnyH_take (i := 0) (oi := { dst := some 84, op := Op.move (Operand.tmp 5), type := 49, pos := "law.go:191", after := #[], guard := none }) (v := .pointer (some ⟨f, 0, none⟩)) rfl (by kernel_rfl) (by kernel_rfl) (by kernel_rfl) (fun _ _ _ h => h) (Or.inl ⟨by rfl, fun w' hSw => by clear hSw; go_simp⟩) (by assumption) ?_
                  simp only [Act.put, List.setIfInBounds_toArray, List.set_cons_zero, List.set_cons_succ]
                  refine wpAnyH_take (i := 4) (oi := { dst := some 88, op := Op.move (Operand.tmp 11), type := 3, pos := "law.go:191", after := #[], guard := none }) (v := .int .i64 (j : Int)) rfl (by kernel_rfl) (by kernel_rfl) (by kernel_rfl) (fun _ _ _ h => h) (Or.inl ⟨by rfl, fun w' hSw => by clear hSw; go_simp⟩) (by assumption) ?_
                  simp only [Act.put, List.setIfInBounds_toArray, List.set_cons_zero, List.set_cons_succ]
                  refine wpAnyH_take (i := 7) (oi := { dst := some 91, op := Op.move (Operand.tmp 6), type := 47, pos := "law.go:191", after := #[], guard := none }) (v := .slice (some ⟨BQ, oq, none⟩) Q.length vc) rfl (by kernel_rfl) (by kernel_rfl) (by kernel_rfl) (fun _ _ _ h => h) (Or.inl ⟨by rfl, fun w' hSw => by clear hSw; go_simp⟩) (by assumption) ?_
                  simp only [Act.put, List.setIfInBounds_toArray, List.set_cons_zero, List.set_cons_succ]
                  refine wpAnyH_take (i := 8) (oi := { dst := some 92, op := Op.move (Operand.tmp 10), type := 3, pos := "law.go:191", after := #[], guard := none }) (v := .int .i64 (k : Int)) rfl (by kernel_rfl) (by kernel_rfl) (by kernel_rfl) (fun _ _ _ h => h) (Or.inl ⟨by rfl, fun w' hSw => by clear hSw; go_simp⟩) (by assumption) ?_
                  simp only [Act.put, List.setIfInBounds_toArray, List.set_cons_zero, List.set_cons_succ]
                  refine wpAnyH_take (i := 12) (oi := { dst := some 96, op := Op.move (Operand.tmp 6), type := 47, pos := "law.go:191", after := #[], guard := none }) (v := .slice (some ⟨BQ, oq, none⟩) Q.length vc) rfl (by kernel_rfl) (by kernel_rfl) (by kernel_rfl) (fun _ _ _ h => h) (Or.inl ⟨by rfl, fun w' hSw => by clear hSw; go_simp⟩) (by assumption) ?_
                  simp only [Act.put, List.setIfInBounds_toArray, List.set_cons_zero, List.set_cons_succ]
                  refine wpAnyH_take (i := 13) (oi := { dst := some 97, op := Op.move (Operand.tmp 10), type := 3, pos := "law.go:191", after := #[], guard := none }) (v := .int .i64 (k : Int)) rfl (by kernel_rfl) (by kernel_rfl) (by kernel_rfl) (fun _ _ _ h => h) (Or.inl ⟨by rfl, fun w' hSw => by clear hSw; go_simp⟩) (by assumption) ?_
                  simp only [Act.put, List.setIfInBounds_toArray, List.set_cons_zero, List.set_cons_succ]
                  refine wpAnyH_take (i := 1) (oi := { dst := some 85, op := Op.nilCheck (Operand.tmp 84), type := 0, pos := "law.go:191", after := #[{ on := 0, ground := Ground.data }], guard := none }) (v := .pointer (some ⟨f, 0, none⟩)) rfl (by kernel_rfl) (by kernel_rfl) (by kernel_rfl) (fun _ _ _ h => h) (Or.inl ⟨by rfl, fun w' hSw => by clear hSw; go_simp⟩) (by assumption) ?_
                  simp only [Act.put, List.setIfInBounds_toArray, List.set_cons_zero, List.set_cons_succ]
                  refine wpAnyH_take (i := 9) (oi := { dst := some 93, op := Op.indexAddr 47 (Operand.tmp 91) (Operand.tmp 92), type := 0, pos := "law.go:191", after := #[{ on := 7, ground := Ground.data }, { on := 8, ground := Ground.data }], guard := none }) (v := .pointer (some ⟨BQ, oq + k * 3, none⟩)) rfl (by kernel_rfl) (by kernel_rfl) (by kernel_rfl) (fun _ _ _ h => h) (Or.inl ⟨by rfl, fun w' hSw => by clear hSw; go_simp⟩) (by assumption) ?_
                  simp only [Act.put, List.setIfInBounds_toArray, List.set_cons_zero, List.set_cons_succ]
                  refine wpAnyH_take (i := 14) (oi := { dst := some 98, op := Op.indexAddr 47 (Operand.tmp 96) (Operand.tmp 97), type := 0, pos := "law.go:191", after := #[{ on := 12, ground := Ground.data }, { on := 13, ground := Ground.data }], guard := none }) (v := .pointer (some ⟨BQ, oq + k * 3, none⟩)) rfl (by kernel_rfl) (by kernel_rfl) (by kernel_rfl) (fun _ _ _ h => h) (Or.inl ⟨by rfl, fun w' hSw => by clear hSw; go_simp⟩) (by assumption) ?_
                  simp only [Act.put, List.setIfInBounds_toArray, List.set_cons_zero, List.set_cons_succ]
                  refine wpAnyH_take (i := 2) (oi := { dst := some 86, op := Op.fieldAddr 53 (Operand.tmp 85) 0, type := 0, pos := "law.go:191", after := #[{ on := 1, ground := Ground.data }], guard := none }) (v := .pointer (some ⟨f, 0, none⟩)) rfl (by kernel_rfl) (by kernel_rfl) (by kernel_rfl) (fun _ _ _ h => h) (Or.inl ⟨by rfl, fun w' hSw => by clear hSw; go_simp⟩) (by assumption) ?_
                  simp only [Act.put, List.setIfInBounds_toArray, List.set_cons_zero, List.set_cons_succ]
                  refine wpAnyH_take (i := 10) (oi := { dst := some 94, op := Op.fieldAddr 41 (Operand.tmp 93) 0, type := 0, pos := "law.go:191", after := #[{ on := 9, ground := Ground.data }], guard := none }) (v := .pointer (some ⟨BQ, oq + k * 3, none⟩)) rfl (by kernel_rfl) (by kernel_rfl) (by kernel_rfl) (fun _ _ _ h => h) (Or.inl ⟨by rfl, fun w' hSw => by clear hSw; go_simp⟩) (by assumption) ?_
                  simp only [Act.put, List.setIfInBounds_toArray, List.set_cons_zero, List.set_cons_succ]
                  refine wpAnyH_take (i := 15) (oi := { dst := some 99, op := Op.fieldAddr 41 (Operand.tmp 98) 0, type := 0, pos := "law.go:191", after := #[{ on := 14, ground := Ground.data }], guard := none }) (v := .pointer (some ⟨BQ, oq + k * 3, none⟩)) rfl (by kernel_rfl) (by kernel_rfl) (by kernel_rfl) (fun _ _ _ h => h) (Or.inl ⟨by rfl, fun w' hSw => by clear hSw; go_simp⟩) (by assumption) ?_
                  simp only [Act.put, List.setIfInBounds_toArray, List.set_cons_zero, List.set_cons_succ]
                  refine wpAnyH_take (i := 3) (oi := { dst := some 87, op := Op.load 51 (Operand.tmp 86), type := 51, pos := "law.go:191", after := #[{ on := 2, ground := Ground.data }], guard := none }) (v := .slice (some ⟨g, 0, none⟩) n cap) rfl (by kernel_rfl) (by kernel_rfl) (by kernel_rfl) (fun _ _ _ h => h) (yieldsIf_load_cell (by rfl) 51 _ rfl _ rfl (fun W hW => (hW.cell (p := ⟨f, 0, none⟩) HFB.out (fun h => h)).trans fc) (fun W hc => ld_pages hc)) (by assumption) ?_
                  simp only [Act.put, List.setIfInBounds_toArray, List.set_cons_zero, List.set_cons_succ]
                  refine wpAnyH_take (i := 11) (oi := { dst := some 95, op := Op.load 9 (Operand.tmp 94), type := 9, pos := "law.go:191", after := #[{ on := 10, ground := Ground.data }], guard := none }) (v := .string q.key) rfl (by kernel_rfl) (by kernel_rfl) (by kernel_rfl) (fun _ _ _ h => h) (yieldsIf_load_cell (by rfl) 9 _ rfl _ rfl (fun W hW => (hW.cell (p := ⟨BQ, oq + k * 3, none⟩) hbq (fun h => h)).trans e0) (fun W hc => ld_string hc)) (by assumption) ?_
                  simp only [Act.put, List.setIfInBounds_toArray, List.set_cons_zero, List.set_cons_succ]
                  refine wpAnyH_take (i := 16) (oi := { dst := some 100, op := Op.load 9 (Operand.tmp 99), type := 9, pos := "law.go:191", after := #[{ on := 15, ground := Ground.data }], guard := none }) (v := .string q.key) rfl (by kernel_rfl) (by kernel_rfl) (by kernel_rfl) (fun _ _ _ h => h) (yieldsIf_load_cell (by rfl) 9 _ rfl _ rfl (fun W hW => (hW.cell (p := ⟨BQ, oq + k * 3, none⟩) hbq (fun h => h)).trans e0) (fun W hc => ld_string hc)) (by assumption) ?_
                  simp only [Act.put, List.setIfInBounds_toArray, List.set_cons_zero, List.set_cons_succ]
                  refine wpAnyH_take (i := 5) (oi := { dst := some 89, op := Op.indexAddr 51 (Operand.tmp 87) (Operand.tmp 88), type := 0, pos := "law.go:191", after := #[{ on := 3, ground := Ground.data }, { on := 4, ground := Ground.data }], guard := none }) (v := .pointer (some ⟨g, j * 6, none⟩)) rfl (by kernel_rfl) (by kernel_rfl) (by kernel_rfl) (fun _ _ _ h => h) (Or.inl ⟨by rfl, fun w' hSw => by clear hSw; go_simp⟩) (by assumption) ?_
                  simp only [Act.put, List.setIfInBounds_toArray, List.set_cons_zero, List.set_cons_succ]
                  refine wpAnyH_take (i := 17) (oi := { dst := some 101, op := Op.binOp BinOp.add 9 (Operand.tmp 100) (Operand.const (Value.string { data := #[0] })) 9, type := 9, pos := "law.go:191", after := #[{ on := 16, ground := Ground.data }], guard := none }) (v := .string (q.key ++ ⟨#[0]⟩)) rfl (by kernel_rfl) (by kernel_rfl) (by kernel_rfl) (fun _ _ _ h => h) (Or.inl ⟨by rfl, fun w' hSw => by clear hSw; go_simp⟩) (by assumption) ?_
                  simp only [Act.put, List.setIfInBounds_toArray, List.set_cons_zero, List.set_cons_succ]
                  refine wpAnyH_take (i := 6) (oi := { dst := some 90, op := Op.load 24 (Operand.tmp 89), type := 24, pos := "law.go:191", after := #[{ on := 5, ground := Ground.data }], guard := none }) (v := .agg #[.int .i64 z.p.lsn, .int .i64 z.p.kind, .int .i64 z.p.level, .int .i64 z.p.right, .string z.p.high, .slice z.ao z.p.items.length z.cp]) rfl (by kernel_rfl) (by kernel_rfl) (by kernel_rfl) (fun _ _ _ h => h) (yieldsIf_load_pz (by rfl) _ rfl rfl (fun W hW => HRG.out.more hW)) (by assumption) ?_
                  simp only [Act.put, List.setIfInBounds_toArray, List.set_cons_zero, List.set_cons_succ]
                  refine wpAnyH_ready (rs := [18]) (by kernel_rfl) (by simp) ?_
                  refine AllReadyH.cons (o := { dst := some 102, op := Op.call { callee := Callee.value (Operand.func 19), args := #[Operand.tmp 90, Operand.tmp 95, Operand.tmp 101], argTypes := #[24, 9, 9] }, type := 58, pos := "law.go:191", after := #[{ on := 6, ground := Ground.data }, { on := 11, ground := Ground.data }, { on := 17, ground := Ground.data }], guard := none }) rfl (fun K hK => ?_) (AllReadyH.nil)
                  go_simp
                  refine (HHT.out _ hHeld).mono ?_
                  rintro x x1 ⟨A8, C8, rfl, het, hox⟩
                  have HX1 := hide (o2 hHeld hox)
                  have HET := hide het
                  clear het hox
                  refine hK.out _ _ (HX1.out) (fun hHeld => ?_)
                  clear hK K
                  try simp only [Act.put, List.setIfInBounds_toArray, List.set_cons_zero, List.set_cons_succ]
                  refine wpAnyH_take (i := 19) (oi := { dst := some 83, op := Op.move (Operand.tmp 102), type := 58, pos := "law.go:191", after := #[{ on := 18, ground := Ground.data }], guard := none }) (v := .tuple #[.slice A8 HI.length C8, .bool mo, .int .i64 0]) rfl (by kernel_rfl) (by kernel_rfl) (by kernel_rfl) (fun _ _ _ h => h) (Or.inl ⟨by rfl, fun w' hSw => by clear hSw; go_simp⟩) (by assumption) ?_
                  simp only [Act.put, List.setIfInBounds_toArray, List.set_cons_zero, List.set_cons_succ]
                  refine wpAnyH_take (i := 20) (oi := { dst := some 103, op := Op.extract (Operand.tmp 83) 0, type := 47, pos := "law.go:191", after := #[{ on := 19, ground := Ground.data }], guard := none }) (v := .slice A8 HI.length C8) rfl (by kernel_rfl) (by kernel_rfl) (by kernel_rfl) (fun _ _ _ h => h) (Or.inl ⟨by rfl, fun w' hSw => by clear hSw; go_simp⟩) (by assumption) ?_
                  simp only [Act.put, List.setIfInBounds_toArray, List.set_cons_zero, List.set_cons_succ]
                  refine wpAnyH_take (i := 21) (oi := { dst := some 104, op := Op.extract (Operand.tmp 83) 1, type := 4, pos := "law.go:191", after := #[{ on := 19, ground := Ground.data }, { on := 23, ground := Ground.gcOnly Departure.lateStores }], guard := none }) (v := .bool mo) rfl (by kernel_rfl) (by kernel_rfl) (by kernel_rfl) (fun _ _ _ h => h) (Or.inl ⟨by rfl, fun w' hSw => by clear hSw; go_simp⟩) (by assumption) ?_
                  simp only [Act.put, List.setIfInBounds_toArray, List.set_cons_zero, List.set_cons_succ]
                  refine wpAnyH_take (i := 22) (oi := { dst := some 105, op := Op.extract (Operand.tmp 83) 2, type := 28, pos := "law.go:191", after := #[{ on := 19, ground := Ground.data }, { on := 24, ground := Ground.gcOnly Departure.lateStores }], guard := none }) (v := .int .i64 0) rfl (by kernel_rfl) (by kernel_rfl) (by kernel_rfl) (fun _ _ _ h => h) (Or.inl ⟨by rfl, fun w' hSw => by clear hSw; go_simp⟩) (by assumption) ?_
                  simp only [Act.put, List.setIfInBounds_toArray, List.set_cons_zero, List.set_cons_succ]
                  refine wpAnyH_take (i := 23) (oi := { dst := some 12, op := Op.assign (Operand.tmp 103), type := 47, pos := "law.go:191", after := #[{ on := 20, ground := Ground.data }, { on := 18, ground := Ground.chain }, { on := 0, ground := Ground.phase }, { on := 1, ground := Ground.phase }, { on := 2, ground := Ground.phase }, { on := 3, ground := Ground.phase }, { on := 4, ground := Ground.phase }, { on := 5, ground := Ground.phase }, { on := 6, ground := Ground.phase }, { on := 7, ground := Ground.phase }, { on := 8, ground := Ground.phase }, { on := 9, ground := Ground.phase }, { on := 10, ground := Ground.phase }, { on := 11, ground := Ground.phase }, { on := 12, ground := Ground.phase }, { on := 13, ground := Ground.phase }, { on := 14, ground := Ground.phase }, { on := 15, ground := Ground.phase }, { on := 16, ground := Ground.phase }, { on := 17, ground := Ground.phase }, { on := 18, ground := Ground.phase }, { on := 19, ground := Ground.phase }, { on := 20, ground := Ground.phase }, { on := 21, ground := Ground.textOnly Departure.lateStores }, { on := 22, ground := Ground.textOnly Departure.lateStores }], guard := none }) (v := .slice A8 HI.length C8) rfl (by kernel_rfl) (by kernel_rfl) (by kernel_rfl) (fun _ _ _ h => h) (Or.inl ⟨by rfl, fun w' hSw => by clear hSw; go_simp⟩) (by assumption) ?_
                  simp only [Act.put, List.setIfInBounds_toArray, List.set_cons_zero, List.set_cons_succ]
                  refine wpAnyH_take (i := 24) (oi := { dst := some 13, op := Op.assign (Operand.tmp 104), type := 4, pos := "law.go:191", after := #[{ on := 21, ground := Ground.data }, { on := 23, ground := Ground.chain }, { on := 0, ground := Ground.phase }, { on := 1, ground := Ground.phase }, { on := 2, ground := Ground.phase }, { on := 3, ground := Ground.phase }, { on := 4, ground := Ground.phase }, { on := 5, ground := Ground.phase }, { on := 6, ground := Ground.phase }, { on := 7, ground := Ground.phase }, { on := 8, ground := Ground.phase }, { on := 9, ground := Ground.phase }, { on := 10, ground := Ground.phase }, { on := 11, ground := Ground.phase }, { on := 12, ground := Ground.phase }, { on := 13, ground := Ground.phase }, { on := 14, ground := Ground.phase }, { on := 15, ground := Ground.phase }, { on := 16, ground := Ground.phase }, { on := 17, ground := Ground.phase }, { on := 18, ground := Ground.phase }, { on := 19, ground := Ground.phase }, { on := 20, ground := Ground.phase }, { on := 21, ground := Ground.phase }, { on := 22, ground := Ground.textOnly Departure.lateStores }, { on := 23, ground := Ground.phase }], guard := none }) (v := .bool mo) rfl (by kernel_rfl) (by kernel_rfl) (by kernel_rfl) (fun _ _ _ h => h) (Or.inl ⟨by rfl, fun w' hSw => by clear hSw; go_simp⟩) (by assumption) ?_
                  simp only [Act.put, List.setIfInBounds_toArray, List.set_cons_zero, List.set_cons_succ]
                  refine wpAnyH_take (i := 25) (oi := { dst := some 14, op := Op.assign (Operand.tmp 105), type := 28, pos := "law.go:191", after := #[{ on := 22, ground := Ground.data }, { on := 24, ground := Ground.chain }, { on := 0, ground := Ground.phase }, { on := 1, ground := Ground.phase }, { on := 2, ground := Ground.phase }, { on := 3, ground := Ground.phase }, { on := 4, ground := Ground.phase }, { on := 5, ground := Ground.phase }, { on := 6, ground := Ground.phase }, { on := 7, ground := Ground.phase }, { on := 8, ground := Ground.phase }, { on := 9, ground := Ground.phase }, { on := 10, ground := Ground.phase }, { on := 11, ground := Ground.phase }, { on := 12, ground := Ground.phase }, { on := 13, ground := Ground.phase }, { on := 14, ground := Ground.phase }, { on := 15, ground := Ground.phase }, { on := 16, ground := Ground.phase }, { on := 17, ground := Ground.phase }, { on := 18, ground := Ground.phase }, { on := 19, ground := Ground.phase }, { on := 20, ground := Ground.phase }, { on := 21, ground := Ground.phase }, { on := 22, ground := Ground.phase }, { on := 23, ground := Ground.phase }, { on := 24, ground := Ground.phase }], guard := none }) (v := .int .i64 0) rfl (by kernel_rfl) (by kernel_rfl) (by kernel_rfl) (fun _ _ _ h => h) (Or.inl ⟨by rfl, fun w' hSw => by clear hSw; go_simp⟩) (by assumption) ?_
                  simp only [Act.put, List.setIfInBounds_toArray, List.set_cons_zero, List.set_cons_succ]
                  refine wpAnyH_done (by kernel_rfl) ?_ _
                  refine NoPanic.normal ?_
                  go_wp2_with fail
                  go_meet
                  exact ⟨_, _, rfl, rfl, rfl, hide ⟨_, HET.out⟩, HX1⟩
                  -- r17B}
              case rest =>
                as_aux_lemma =>
                  obtain ⟨A8, C8, rfl, rfl, rfl, HE8, HO8⟩ := hcut
                  obtain ⟨w7, hw7⟩ : ∃ x, wc = x := ⟨_, rfl⟩
                  rw [hw7] at HE8 HO8 ⊢
                  clear hw7
                  obtain ⟨b8, het⟩ := HE8.out
                  have HET := hide het
                  have hHIl := het.len
                  have HQ7 := hide (HQ6.out.more HO8.out)
                  have HRG7 := hide (HRG.out.more HO8.out)
                  have HOY7 := hide (o2 HOY6.out HO8.out)
                  have HS7 := hide (HS6.out.more HO8.out)
                  clear het HE8 e0 e1 e2 hbq fc
                  go_upto_region 20 with fail
                  go_loopw [15, 16] (fun x y wy => ∃ (m : Nat), y = .int .i64 (m : Int) ∧ m ≤ HI.length ∧ x = .bool (decide (q ∈ HI.take m)) ∧ Hid (Only (fun _ => False) w7 wy)) (fun _ y _ => HI.length - (intOf y).toNat)
                  case atStart => exact ⟨0, rfl, by omega, by simp, hide (Only.refl _ _)⟩
                  case round =>
                    as_aux_lemma =>
                      obtain ⟨m, rfl, hm, rfl, HM⟩ := hrel
                      by_cases hml : m < HI.length
                      · have hm1 : (m : Int) < (HI.length : Int) := by omega
                        have hm2 : ¬ (HI.length : Int) ≤ (m : Int) := by omega
                        obtain ⟨BH, helh, _⟩ := (HET.out.more HM.out).elsOf
                        obtain ⟨oh, rfl, hebh⟩ := helh.of m hml
                        obtain ⟨r, hr⟩ : ∃ r, HI[m] = r := ⟨_, rfl⟩
                        rw [hr] at hebh
                        have HH := hide hebh
                        have HQ8 := hide (HQ7.out.more HM.out)
                        have htk : decide (q ∈ HI.take (m + 1)) = (decide (q ∈ HI.take m) || decide (r = q)) := by
                          rw [List.take_succ_eq_append_getElem hml, hr, Bool.eq_iff_iff, Bool.or_eq_true, decide_eq_true_iff, decide_eq_true_iff, decide_eq_true_iff, List.mem_append, List.mem_singleton]
                          exact or_congr_right eq_comm
                        obtain ⟨hs, hhs⟩ : ∃ b, decide (q ∈ HI.take m) = b := ⟨_, rfl⟩
                        rw [hhs] at htk ⊢
                        obtain ⟨rq, hrq⟩ : ∃ b, decide (r = q) = b := ⟨_, rfl⟩
                        have hqe := eqE_run r q
                        rw [hrq] at htk hqe
                        have HTK := hide htk
                        clear htk hhs hrq hr hebh helh
                        go_upto_region 22 with fail
                        cases hs
                        · -- mark
                          -- {r22aB
                          refine wp_region_noPanic ?_
                          refine wp_region_held_drew (S := fun W => Only (fun _ => False) wr W) (by kernel_rfl) (Only.drew _ _) (fun hHeld => ?_)
                          refine wpAnyH_take (i := 0) (oi := { dst := some 112, op := Op.move (Operand.tmp 15), type := 4, pos := "law.go:194", after := #[], guard := none }) (v := .bool false) rfl (by kernel_rfl) (by kernel_rfl) (by kernel_rfl) (fun _ _ _ h => h) (Or.inl ⟨by rfl, fun w' hSw => by clear hSw; go_simp⟩) (by assumption) ?_
                          simp only [Act.put, List.setIfInBounds_toArray, List.set_cons_zero, List.set_cons_succ]
                          refine wpAnyH_take (i := 1) (oi := { dst := some 113, op := Op.move (Operand.tmp 112), type := 4, pos := "law.go:194", after := #[{ on := 0, ground := Ground.data }], guard := none }) (v := .bool false) rfl (by kernel_rfl) (by kernel_rfl) (by kernel_rfl) (fun _ _ _ h => h) (Or.inl ⟨by rfl, fun w' hSw => by clear hSw; go_simp⟩) (by assumption) ?_
                          simp only [Act.put, List.setIfInBounds_toArray, List.set_cons_zero, List.set_cons_succ]
                          refine wpAnyH_take (i := 2) (oi := { dst := some 114, op := Op.move (Operand.tmp 12), type := 47, pos := "law.go:194", after := #[{ on := 1, ground := Ground.guard }], guard := some (1, false) }) (v := .slice (some ⟨BH, oh, none⟩) HI.length C8) rfl (by kernel_rfl) (by kernel_rfl) (by kernel_rfl) (fun _ _ _ h => h) (Or.inl ⟨by rfl, fun w' hSw => by clear hSw; go_simp⟩) (by assumption) ?_
                          simp only [Act.put, List.setIfInBounds_toArray, List.set_cons_zero, List.set_cons_succ]
                          refine wpAnyH_take (i := 3) (oi := { dst := some 115, op := Op.move (Operand.tmp 16), type := 3, pos := "law.go:194", after := #[{ on := 1, ground := Ground.guard }], guard := some (1, false) }) (v := .int .i64 (m : Int)) rfl (by kernel_rfl) (by kernel_rfl) (by kernel_rfl) (fun _ _ _ h => h) (Or.inl ⟨by rfl, fun w' hSw => by clear hSw; go_simp⟩) (by assumption) ?_
                          simp only [Act.put, List.setIfInBounds_toArray, List.set_cons_zero, List.set_cons_succ]
                          refine wpAnyH_take (i := 6) (oi := { dst := some 118, op := Op.move (Operand.tmp 6), type := 47, pos := "law.go:194", after := #[{ on := 1, ground := Ground.guard }], guard := some (1, false) }) (v := .slice (some ⟨BQ, oq, none⟩) Q.length vc) rfl (by kernel_rfl) (by kernel_rfl) (by kernel_rfl) (fun _ _ _ h => h) (Or.inl ⟨by rfl, fun w' hSw => by clear hSw; go_simp⟩) (by assumption) ?_
                          simp only [Act.put, List.setIfInBounds_toArray, List.set_cons_zero, List.set_cons_succ]
                          refine wpAnyH_take (i := 7) (oi := { dst := some 119, op := Op.move (Operand.tmp 10), type := 3, pos := "law.go:194", after := #[{ on := 1, ground := Ground.guard }], guard := some (1, false) }) (v := .int .i64 (k : Int)) rfl (by kernel_rfl) (by kernel_rfl) (by kernel_rfl) (fun _ _ _ h => h) (Or.inl ⟨by rfl, fun w' hSw => by clear hSw; go_simp⟩) (by assumption) ?_
                          simp only [Act.put, List.setIfInBounds_toArray, List.set_cons_zero, List.set_cons_succ]
                          refine wpAnyH_take (i := 4) (oi := { dst := some 116, op := Op.indexAddr 47 (Operand.tmp 114) (Operand.tmp 115), type := 0, pos := "law.go:194", after := #[{ on := 2, ground := Ground.data }, { on := 3, ground := Ground.data }, { on := 1, ground := Ground.guard }], guard := some (1, false) }) (v := .pointer (some ⟨BH, oh + m * 3, none⟩)) rfl (by kernel_rfl) (by kernel_rfl) (by kernel_rfl) (fun _ _ _ h => h) (Or.inl ⟨by rfl, fun w' hSw => by clear hSw; go_simp⟩) (by assumption) ?_
                          simp only [Act.put, List.setIfInBounds_toArray, List.set_cons_zero, List.set_cons_succ]
                          refine wpAnyH_take (i := 8) (oi := { dst := some 120, op := Op.indexAddr 47 (Operand.tmp 118) (Operand.tmp 119), type := 0, pos := "law.go:194", after := #[{ on := 6, ground := Ground.data }, { on := 7, ground := Ground.data }, { on := 1, ground := Ground.guard }], guard := some (1, false) }) (v := .pointer (some ⟨BQ, oq + k * 3, none⟩)) rfl (by kernel_rfl) (by kernel_rfl) (by kernel_rfl) (fun _ _ _ h => h) (Or.inl ⟨by rfl, fun w' hSw => by clear hSw; go_simp⟩) (by assumption) ?_
                          simp only [Act.put, List.setIfInBounds_toArray, List.set_cons_zero, List.set_cons_succ]
                          refine wpAnyH_take (i := 5) (oi := { dst := some 117, op := Op.load 41 (Operand.tmp 116), type := 41, pos := "law.go:194", after := #[{ on := 4, ground := Ground.data }, { on := 1, ground := Ground.guard }], guard := some (1, false) }) (v := .agg #[.string r.key, .int .i64 r.page, .int .i64 r.slot]) rfl (by kernel_rfl) (by kernel_rfl) (by kernel_rfl) (fun _ _ _ h => h) (yieldsIf_load_eb (by rfl) _ rfl rfl (fun W hW => HH.out.more hW)) (by assumption) ?_
                          simp only [Act.put, List.setIfInBounds_toArray, List.set_cons_zero, List.set_cons_succ]
                          refine wpAnyH_take (i := 9) (oi := { dst := some 121, op := Op.load 41 (Operand.tmp 120), type := 41, pos := "law.go:194", after := #[{ on := 8, ground := Ground.data }, { on := 1, ground := Ground.guard }], guard := some (1, false) }) (v := .agg #[.string q.key, .int .i64 q.page, .int .i64 q.slot]) rfl (by kernel_rfl) (by kernel_rfl) (by kernel_rfl) (fun _ _ _ h => h) (yieldsIf_load_eb (by rfl) _ rfl rfl (fun W hW => HQ8.out.more hW)) (by assumption) ?_
                          simp only [Act.put, List.setIfInBounds_toArray, List.set_cons_zero, List.set_cons_succ]
                          refine wpAnyH_take (i := 10) (oi := { dst := some 122, op := Op.binOp BinOp.eql 41 (Operand.tmp 117) (Operand.tmp 121) 41, type := 4, pos := "law.go:194", after := #[{ on := 5, ground := Ground.data }, { on := 9, ground := Ground.data }, { on := 1, ground := Ground.guard }], guard := some (1, false) }) (v := .bool rq) rfl (by kernel_rfl) (by kernel_rfl) (by kernel_rfl) (fun _ _ _ h => h) (Or.inl ⟨by rfl, fun w' hSw => by clear hSw; go_simp⟩) (by assumption) ?_
                          simp only [Act.put, List.setIfInBounds_toArray, List.set_cons_zero, List.set_cons_succ]
                          refine wpAnyH_take (i := 11) (oi := { dst := some 123, op := Op.pick (Operand.tmp 113) (Operand.const (Value.bool true)) (Operand.tmp 122), type := 4, pos := "law.go:194", after := #[{ on := 1, ground := Ground.data }, { on := 10, ground := Ground.data }], guard := none }) (v := .bool rq) rfl (by kernel_rfl) (by kernel_rfl) (by kernel_rfl) (fun _ _ _ h => h) (Or.inl ⟨by rfl, fun w' hSw => by clear hSw; go_simp⟩) (by assumption) ?_
                          simp only [Act.put, List.setIfInBounds_toArray, List.set_cons_zero, List.set_cons_succ]
                          refine wpAnyH_take (i := 12) (oi := { dst := some 15, op := Op.assign (Operand.tmp 123), type := 4, pos := "law.go:194", after := #[{ on := 11, ground := Ground.data }, { on := 1, ground := Ground.chain }, { on := 0, ground := Ground.phase }, { on := 1, ground := Ground.phase }, { on := 2, ground := Ground.phase }, { on := 3, ground := Ground.phase }, { on := 4, ground := Ground.phase }, { on := 5, ground := Ground.phase }, { on := 6, ground := Ground.phase }, { on := 7, ground := Ground.phase }, { on := 8, ground := Ground.phase }, { on := 9, ground := Ground.phase }, { on := 10, ground := Ground.phase }, { on := 11, ground := Ground.phase }], guard := none }) (v := .bool rq) rfl (by kernel_rfl) (by kernel_rfl) (by kernel_rfl) (fun _ _ _ h => h) (Or.inl ⟨by rfl, fun w' hSw => by clear hSw; go_simp⟩) (by assumption) ?_
                          simp only [Act.put, List.setIfInBounds_toArray, List.set_cons_zero, List.set_cons_succ]
                          refine wpAnyH_done (by kernel_rfl) ?_ _
                          refine NoPanic.normal ?_
                          go_wp2_with fail
                          go_roundw
                          case rel => exact ⟨m + 1, by go_num, by omega, by rw [HTK.out]; rfl, hide (o2 HM.out (Only.drew _ _))⟩
                          case measure => simp [intOf]; omega
                          -- r22aB}
                        · -- mark
                          -- {r22bB
                          refine wp_region_noPanic ?_
                          refine wp_region_held_drew (S := fun W => Only (fun _ => False) wr W) (by kernel_rfl) (Only.drew _ _) (fun hHeld => ?_)
                          refine wpAnyH_take (i := 0) (oi := { dst := some 112, op := Op.move (Operand.tmp 15), type := 4, pos := "law.go:194", after := #[], guard := none }) (v := .bool true) rfl (by kernel_rfl) (by kernel_rfl) (by kernel_rfl) (fun _ _ _ h => h) (Or.inl ⟨by rfl, fun w' hSw => by clear hSw; go_simp⟩) (by assumption) ?_
                          simp only [Act.put, List.setIfInBounds_toArray, List.set_cons_zero, List.set_cons_succ]
                          refine wpAnyH_take (i := 1) (oi := { dst := some 113, op := Op.move (Operand.tmp 112), type := 4, pos := "law.go:194", after := #[{ on := 0, ground := Ground.data }], guard := none }) (v := .bool true) rfl (by kernel_rfl) (by kernel_rfl) (by kernel_rfl) (fun _ _ _ h => h) (Or.inl ⟨by rfl, fun w' hSw => by clear hSw; go_simp⟩) (by assumption) ?_
                          simp only [Act.put, List.setIfInBounds_toArray, List.set_cons_zero, List.set_cons_succ]
                          refine wpAnyH_take (i := 2) (oi := { dst := some 114, op := Op.move (Operand.tmp 12), type := 47, pos := "law.go:194", after := #[{ on := 1, ground := Ground.guard }], guard := some (1, false) }) (v := undef) rfl (by kernel_rfl) (by kernel_rfl) (by kernel_rfl) (fun _ _ _ h => h) (Or.inr ⟨by rfl, rfl⟩) (by assumption) ?_
                          simp only [Act.put, List.setIfInBounds_toArray, List.set_cons_zero, List.set_cons_succ]
                          refine wpAnyH_take (i := 3) (oi := { dst := some 115, op := Op.move (Operand.tmp 16), type := 3, pos := "law.go:194", after := #[{ on := 1, ground := Ground.guard }], guard := some (1, false) }) (v := undef) rfl (by kernel_rfl) (by kernel_rfl) (by kernel_rfl) (fun _ _ _ h => h) (Or.inr ⟨by rfl, rfl⟩) (by assumption) ?_
                          simp only [Act.put, List.setIfInBounds_toArray, List.set_cons_zero, List.set_cons_succ]
                          refine wpAnyH_take (i := 6) (oi := { dst := some 118, op := Op.move (Operand.tmp 6), type := 47, pos := "law.go:194", after := #[{ on := 1, ground := Ground.guard }], guard := some (1, false) }) (v := undef) rfl (by kernel_rfl) (by kernel_rfl) (by kernel_rfl) (fun _ _ _ h => h) (Or.inr ⟨by rfl, rfl⟩) (by assumption) ?_
                          simp only [Act.put, List.setIfInBounds_toArray, List.set_cons_zero, List.set_cons_succ]
                          refine wpAnyH_take (i := 7) (oi := { dst := some 119, op := Op.move (Operand.tmp 10), type := 3, pos := "law.go:194", after := #[{ on := 1, ground := Ground.guard }], guard := some (1, false) }) (v := undef) rfl (by kernel_rfl) (by kernel_rfl) (by kernel_rfl) (fun _ _ _ h => h) (Or.inr ⟨by rfl, rfl⟩) (by assumption) ?_
                          simp only [Act.put, List.setIfInBounds_toArray, List.set_cons_zero, List.set_cons_succ]
                          refine wpAnyH_take (i := 4) (oi := { dst := some 116, op := Op.indexAddr 47 (Operand.tmp 114) (Operand.tmp 115), type := 0, pos := "law.go:194", after := #[{ on := 2, ground := Ground.data }, { on := 3, ground := Ground.data }, { on := 1, ground := Ground.guard }], guard := some (1, false) }) (v := undef) rfl (by kernel_rfl) (by kernel_rfl) (by kernel_rfl) (fun _ _ _ h => h) (Or.inr ⟨by rfl, rfl⟩) (by assumption) ?_
                          simp only [Act.put, List.setIfInBounds_toArray, List.set_cons_zero, List.set_cons_succ]
                          refine wpAnyH_take (i := 8) (oi := { dst := some 120, op := Op.indexAddr 47 (Operand.tmp 118) (Operand.tmp 119), type := 0, pos := "law.go:194", after := #[{ on := 6, ground := Ground.data }, { on := 7, ground := Ground.data }, { on := 1, ground := Ground.guard }], guard := some (1, false) }) (v := undef) rfl (by kernel_rfl) (by kernel_rfl) (by kernel_rfl) (fun _ _ _ h => h) (Or.inr ⟨by rfl, rfl⟩) (by assumption) ?_
                          simp only [Act.put, List.setIfInBounds_toArray, List.set_cons_zero, List.set_cons_succ]
                          refine wpAnyH_take (i := 5) (oi := { dst := some 117, op := Op.load 41 (Operand.tmp 116), type := 41, pos := "law.go:194", after := #[{ on := 4, ground := Ground.data }, { on := 1, ground := Ground.guard }], guard := some (1, false) }) (v := undef) rfl (by kernel_rfl) (by kernel_rfl) (by kernel_rfl) (fun _ _ _ h => h) (Or.inr ⟨by rfl, rfl⟩) (by assumption) ?_
                          simp only [Act.put, List.setIfInBounds_toArray, List.set_cons_zero, List.set_cons_succ]
                          refine wpAnyH_take (i := 9) (oi := { dst := some 121, op := Op.load 41 (Operand.tmp 120), type := 41, pos := "law.go:194", after := #[{ on := 8, ground := Ground.data }, { on := 1, ground := Ground.guard }], guard := some (1, false) }) (v := undef) rfl (by kernel_rfl) (by kernel_rfl) (by kernel_rfl) (fun _ _ _ h => h) (Or.inr ⟨by rfl, rfl⟩) (by assumption) ?_
                          simp only [Act.put, List.setIfInBounds_toArray, List.set_cons_zero, List.set_cons_succ]
                          refine wpAnyH_take (i := 10) (oi := { dst := some 122, op := Op.binOp BinOp.eql 41 (Operand.tmp 117) (Operand.tmp 121) 41, type := 4, pos := "law.go:194", after := #[{ on := 5, ground := Ground.data }, { on := 9, ground := Ground.data }, { on := 1, ground := Ground.guard }], guard := some (1, false) }) (v := undef) rfl (by kernel_rfl) (by kernel_rfl) (by kernel_rfl) (fun _ _ _ h => h) (Or.inr ⟨by rfl, rfl⟩) (by assumption) ?_
                          simp only [Act.put, List.setIfInBounds_toArray, List.set_cons_zero, List.set_cons_succ]
                          refine wpAnyH_take (i := 11) (oi := { dst := some 123, op := Op.pick (Operand.tmp 113) (Operand.const (Value.bool true)) (Operand.tmp 122), type := 4, pos := "law.go:194", after := #[{ on := 1, ground := Ground.data }, { on := 10, ground := Ground.data }], guard := none }) (v := .bool true) rfl (by kernel_rfl) (by kernel_rfl) (by kernel_rfl) (fun _ _ _ h => h) (Or.inl ⟨by rfl, fun w' hSw => by clear hSw; go_simp⟩) (by assumption) ?_
                          simp only [Act.put, List.setIfInBounds_toArray, List.set_cons_zero, List.set_cons_succ]
                          refine wpAnyH_take (i := 12) (oi := { dst := some 15, op := Op.assign (Operand.tmp 123), type := 4, pos := "law.go:194", after := #[{ on := 11, ground := Ground.data }, { on := 1, ground := Ground.chain }, { on := 0, ground := Ground.phase }, { on := 1, ground := Ground.phase }, { on := 2, ground := Ground.phase }, { on := 3, ground := Ground.phase }, { on := 4, ground := Ground.phase }, { on := 5, ground := Ground.phase }, { on := 6, ground := Ground.phase }, { on := 7, ground := Ground.phase }, { on := 8, ground := Ground.phase }, { on := 9, ground := Ground.phase }, { on := 10, ground := Ground.phase }, { on := 11, ground := Ground.phase }], guard := none }) (v := .bool true) rfl (by kernel_rfl) (by kernel_rfl) (by kernel_rfl) (fun _ _ _ h => h) (Or.inl ⟨by rfl, fun w' hSw => by clear hSw; go_simp⟩) (by assumption) ?_
                          simp only [Act.put, List.setIfInBounds_toArray, List.set_cons_zero, List.set_cons_succ]
                          refine wpAnyH_done (by kernel_rfl) ?_ _
                          refine NoPanic.normal ?_
                          go_wp2_with fail
                          go_roundw
                          case rel => exact ⟨m + 1, by go_num, by omega, by rw [HTK.out]; rfl, hide (o2 HM.out (Only.drew _ _))⟩
                          case measure => simp [intOf]; omega
                          -- r22bB}
                      · have hm1 : ¬ (m : Int) < (HI.length : Int) := by omega
                        have hhas : decide (q ∈ HI.take m) = true := by
                          rw [List.take_of_length_le (by omega)]
                          exact decide_eq_true HIN.out
                        rw [hhas]
                        have HRG8 := hide (HRG7.out.more HM.out)
                        have HOY8 := hide (o2 HOY7.out HM.out)
                        have fc := (HS7.out.more HM.out).sn.fm.cell
                        have HFB8 : Hid (f < wr.heap.size) := (HS7.out.more HM.out).sn.fm.flt
                        obtain ⟨n, hn⟩ : ∃ n, zs.length = n := ⟨_, rfl⟩
                        rw [hn] at fc HZL
                        have hjn : j < n := HZL.out.1
                        have hn9 : n ≤ 9999 := HZL.out.2
                        have hj2 : ¬ (n : Int) ≤ (j : Int) := by omega
                        have hj3 : (j : Int) < (n : Int) := by omega
                        clear hhas hn HET
                        have c3 := HRG8.out.cell 3 (.int .i64 z.p.right) rfl
                        cases mo
                        · go_wp2_with fail
                          go_roundw
                          case rel => exact ⟨k + 1, by go_num, by omega, HOY8⟩
                          case measure => simp [intOf]; omega
                        · have hzr : (z.p.right == (0 : Int)) = false := by
                            have := HMR.out rfl
                            simpa using this
                          go_wp2_with fail
                          go_roundw
                          case rel => exact ⟨k + 1, by go_num, by omega, HOY8⟩
                          case measure => simp [intOf]; omega
            · have hk1 : ¬ (k : Int) < (Q.length : Int) := by omega
              go_wp2_with fail
              refine (HAW.out _).mono ?_
              rintro x w9 ⟨rfl, ho⟩
              have HO9 := hide (o2 (o2 HW.out HOY.out) ho)
              clear ho
              go_wp2_with fail
              go_ret
              exact ⟨rfl, HO9.out⟩
end Go.Proofs.YthjjkhacniebiaaGreat
