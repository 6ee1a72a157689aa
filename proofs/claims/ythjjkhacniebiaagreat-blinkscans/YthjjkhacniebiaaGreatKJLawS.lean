/- BlinkScans: its walk. -/
import Derived.Test.YthjjkhacniebiaaGreatKX2
import Derived.Test.YthjjkhacniebiaaGreatKX1
namespace Go.Proofs.YthjjkhacniebiaaGreat
open Go.RowKit

theorem slice_hi (W : World) (va : Option Addr) (n vc m : Nat) (h : m ≤ vc) : (Instr.slice 47 (.slice va n vc) none (some (.int .i64 (m : Int))) none).run Tryz.prog W = .ok (.slice va m vc) W := by
  cases va with
  | none =>
    simp [Instr.slice, Instr.sliceBounds, Instr.sliceBound, go_sem]
    intro k
    omega
  | some a =>
    simp [Instr.slice, Instr.sliceBounds, Instr.sliceBound, go_sem, Addr.add]
    intro k
    omega
theorem slice_lo (W : World) (va : Option Addr) (n vc m : Nat) (h : m ≤ n) : (Instr.slice 47 (.slice va n vc) (some (.int .i64 (m : Int))) none none).run Tryz.prog W = .ok (.slice (if vc = m then va else va.map (·.add (m * 3))) (n - m) (vc - m)) W := by
  simp [Instr.slice, Instr.sliceBounds, Instr.sliceBound, go_sem]
  intro k
  omega
theorem hits_all (l : List En) : l.filter (hitB ⟨#[]⟩ ⟨#[]⟩) = l := by
  rw [List.filter_eq_self]
  intro e _
  have h1 : decide (bl e.key < bl (⟨#[]⟩ : ByteArray)) = false := decide_eq_false (by
    have : bl (⟨#[]⟩ : ByteArray) = [] := rfl
    rw [this]
    simp)
  unfold hitB below
  rw [h1]
  simp
theorem goOn_all (X : Nd) : X.goOn ⟨#[]⟩ = true := by unfold Nd.goOn; simp
theorem scan_next {N : Nat} {F : Nat → Nd} {lo : Nat → En} {Q : List En} {j : Nat} (hF : Fst N F lo (fun e => e ∈ Q)) (hQ : Rise Q) (hj : pg N j) (hv : (F j).lv = 0) : ((F j).rt = 0 ∧ upTo (lo j) Q ++ (F j).es = Q) ∨ (pg N (F j).rt ∧ upTo (lo j) Q ++ (F j).es = upTo (lo (F j).rt) Q ∧ (F (F j).rt).lv = 0 ∧ mu N F lo (F j).rt < mu N F lo j) := by
  by_cases hh : (F j).hi = noE
  · exact .inl ⟨hF.last j hj hh, scan_last hF hQ (fun _ => Iff.rfl) hj hv hh⟩
  · obtain ⟨a, b, c, d⟩ := scan_step hF hQ (fun _ => Iff.rfl) hj hv hh
    exact .inr ⟨b, a, c, d⟩
set_option maxRecDepth 100000 in
set_option maxHeartbeats 12800000 in
theorem scans_law (w : World) (BL : Nat) (aL : Option Addr) (cL : Nat) (L : List En) (hL : Els w BL aL L) (hn : L.length ≤ maxLen) (BO : Nat) (aO : Option Addr) (cO : Nat) (O : List Int) (hO : Its w BO aO O) (hnO : O.length ≤ maxLen) : Calls Tryz.prog 5 #[.slice aL L.length cL, .slice aO O.length cO] w fun x w' => x = .returned (.bool true) ∧ Only (fun _ => False) w w' := by
  have HL := hide hL
  have HO := hide hO
  unfold maxLen at hn hnO
  have HLF := hide (fun W => leaf_any W)
  have HAW := hide (fun W => aawake_any W)
  have HCM := hide (fun a b W => fcompare_any a b W)
  unfold En.agg at HCM
  clear hL hO
  go_enter Tryz.func5, Tryz.ntmps5
  go_upto_region 1 with fail
  go_wp2_with fail
  refine (HLF.out _).mono ?_
  rintro x w1 ⟨rfl, ho1⟩
  have HO1 := hide ho1
  clear ho1 HLF
  go_upto_region 2 with fail
  have HFM := hide (Fm.start (K := fun k => (Value.slice none 0 0).ownBlock = some k) w1 (fun _ h => by cases h))
  have HOF := hide (o2 (o2 HO1.out (onlyA w1 (.cells #[.int .i64 0, .int .i64 0, .int .i64 0, .int .i64 0, .string ⟨#[]⟩, .slice none 0 0, .int .i64 0, .int .i64 3, .int .i64 0, .int .i64 0, .string ⟨#[]⟩, .slice none 0 0] 24))) (onlyA _ (.cells #[.slice (some ⟨w1.heap.size, 0, none⟩) 2 2] 53)))
  obtain ⟨W2, hW2⟩ : ∃ x, (w1.alloc (.cells #[.int .i64 0, .int .i64 0, .int .i64 0, .int .i64 0, .string ⟨#[]⟩, .slice none 0 0, .int .i64 0, .int .i64 3, .int .i64 0, .int .i64 0, .string ⟨#[]⟩, .slice none 0 0] 24)).alloc (.cells #[.slice (some ⟨w1.heap.size, 0, none⟩) 2 2] 53) = x := ⟨_, rfl⟩
  rw [hW2] at HFM HOF ⊢
  clear hW2
  have HSA : Hid (Sa w W2 (w1.heap.size + 1) w1.heap.size 2 [Pz.none, zL] 2 (fun _ => lf0) (fun _ => noE) (fun e => e ∈ ([] : List En)) (.slice none 0 0) []) := Sa.congr (A := fun _ => False) ⟨⟨HFM.out, Fz.start, Fst.start, by have := HO1.out.size; omega, HO1.out.size⟩, Ets.nil _ _, (fun h => by cases h), (fun h => by cases h)⟩ (fun e => by simp)
  have HBD : Hid (Bd 2 (fun _ => lf0) 0) := ⟨by omega, by decide⟩
  obtain ⟨f, hf⟩ : ∃ f, w1.heap.size + 1 = f := ⟨_, rfl⟩
  rw [hf] at HSA ⊢
  obtain ⟨g0, hg0⟩ : ∃ g, w1.heap.size = g := ⟨_, rfl⟩
  rw [hg0] at HSA
  clear hf hg0 HFM
  go_upto_region 4 with fail
  go_loopw [6, 7] (fun v x wr => ∃ (i : Nat) (Q : List En), x = .int .i64 (i : Int) ∧ i ≤ 200 ∧ i ≤ L.length ∧ Q.length ≤ i ∧ Hid (∃ g cap zs N F lo, Sa w wr f g cap zs N F lo (fun e => e ∈ Q) v Q ∧ Bd N F i) ∧ Hid (Rise Q) ∧ Hid (Only (fun _ => False) w wr)) (fun _ x _ => L.length - (intOf x).toNat)
  case atStart => exact ⟨0, [], rfl, by omega, by omega, by simp, hide ⟨_, _, _, _, _, _, HSA.out, HBD.out⟩, hide List.Pairwise.nil, HOF⟩
  case round =>
    obtain ⟨i, Q, rfl, hi, hiL, hQ, HS, HR, HW⟩ := hrel
    obtain ⟨g, cap, zs, N, F, lo, hSa, hBd⟩ := HS.out
    have HSr := hide hSa
    have HBr := hide hBd
    obtain ⟨va, vc, rfl⟩ := hSa.ets.form
    clear hSa hBd HS HSA HBD
    have hf1 : ∀ k, k = f ∨ k = g → w.heap.size ≤ k := by
      rintro k (rfl | rfl)
      · exact HSr.out.sn.f0
      · exact HSr.out.sn.g0
    have HFG := hide hf1
    clear hf1
    by_cases hlt : i < L.length ∧ i < 200
    · obtain ⟨hl1, hl2⟩ := hlt
      have hk1 : (i : Int) < (L.length : Int) := by omega
      have hk2 : (i : Int) < 200 := by omega
      have hk3 : ¬ (L.length : Int) ≤ (i : Int) := by omega
      obtain ⟨o, rfl, heb⟩ := HL.out.of i hl1
      obtain ⟨q, hq⟩ : ∃ q, L[i] = q := ⟨_, rfl⟩
      rw [hq] at heb
      clear hq
      have HEB := hide (heb.kept HW.out (fun h => h))
      obtain ⟨_, _, _, hbw⟩ := heb
      have HBW := hide hbw
      clear hbw
      obtain ⟨e0, e1, e2, _⟩ := HEB.out
      cases hok : q.ok with
      | false =>
        have HEC := hide (fun W => enc_no hok W)
        have HB1 := hide (HBr.out.mono (j := i + 1) (by omega))
        clear hok
        go_wp2_with fail
        refine (HEC.out _).mono ?_
        rintro x w3 ⟨rfl, ho⟩
        have HS3 : Hid (∃ g cap zs N F lo, Sa w w3 f g cap zs N F lo (fun e => e ∈ Q) (.slice va Q.length vc) Q ∧ Bd N F (i + 1)) := ⟨_, _, _, _, _, _, HSr.out.more ho, HB1.out⟩
        have HW3 := hide (o2 HW.out ho)
        clear ho
        go_wp2_with fail
        go_roundw
        case rel => exact ⟨i + 1, Q, by go_num, by omega, by omega, by omega, HS3, HR, HW3⟩
        case measure => simp [intOf]; omega
      | true =>
        have HEC := hide (fun W => enc_yes hok W)
        have HOK := hide hok
        clear hok
        go_wp2_with fail
        refine (HEC.out _).mono ?_
        rintro x w3 ⟨rfl, ho⟩
        have HS3 := hide (HSr.out.more ho)
        have HW3 := hide (o2 HW.out ho)
        have HEB3 := hide (HEB.out.kept ho (fun h => h))
        have HEN := hide (sa_enters HS3.out HBr.out (by omega) HOK.out true)
        clear ho e0 e1 e2 HEB HEC
        obtain ⟨e0, e1, e2, _⟩ := HEB3.out
        go_wp2_with fail
        refine HEN.out.mono ?_
        rintro x w4 ⟨rfl, g4, cap4, zs4, N4, F4, lo4, hs4, hb4, ho4⟩
        have HS4 := hide hs4
        have HB4 := hide hb4
        have HEB4 := hide (HEB3.out.kept ho4 (fun k => by have h1 := HFG.out _ k; have h2 := HBW.out; omega))
        have HW4 : Hid (Only (fun _ => False) w w4) := HW3.out.trans ho4 (fun k hk z => by have := HFG.out k z; omega)
        obtain ⟨BQ, hels, _⟩ := hs4.ets.elsOf
        have hcap := hs4.ets.cap
        have HEL := hide hels
        clear hs4 hb4 ho4 hels e0 e1 e2 HEN HEB3 HS3 HW3 HSr HBr HFG HW
        go_upto_region 11 with fail
        go_loopw [10] (fun x wy => ∃ (m : Nat), x = .int .i64 (m : Int) ∧ m ≤ Q.length ∧ Hid (∀ y ∈ Q.take m, y.lt q) ∧ Hid (Only (fun _ => False) w4 wy)) (fun x _ => Q.length - (intOf x).toNat)
        case atStart => exact ⟨0, rfl, by omega, hide (by simp), hide (Only.refl _ _)⟩
        case round =>
          obtain ⟨m, rfl, hm, HTK, HM⟩ := hrel
          have HEB5 := hide (HEB4.out.more HM.out)
          by_cases hml : m < Q.length
          · have hm1 : (m : Int) < (Q.length : Int) := by omega
            have hm2 : ¬ (Q.length : Int) ≤ (m : Int) := by omega
            obtain ⟨oq, rfl, hebq⟩ := (HEL.out.more HM.out).of m hml
            obtain ⟨r, hr⟩ : ∃ r, Q[m] = r := ⟨_, rfl⟩
            rw [hr] at hebq
            have HQ5 := hide hebq
            clear hebq
            have hcm := cmpE_neg (a := r) (b := q)
            have HCQ := hide (HCM.out r q)
            obtain ⟨c, hc⟩ : ∃ c, cmpE r q = c := ⟨_, rfl⟩
            rw [hc] at hcm HCQ
            clear hc
            by_cases hrl : r.lt q
            · have hc1 : c < 0 := hcm.2 hrl
              have HTK1 : Hid (∀ y ∈ Q.take (m + 1), y.lt q) := take_lt HR.out m hml (by rw [hr]; exact hrl)
              clear hcm hrl hr
              go_upto_region 11 with fail
              -- {r11a
              refine wp_region_noPanic ?_
              refine wp_region_held_drew (S := fun W => Only (fun _ => False) wr W) (by kernel_rfl) (Only.drew _ _) (fun hHeld => ?_)
              refine wpAnyH_take (i := 0) (oi := { dst := some 57, op := Op.move (Operand.tmp 10), type := 3, pos := "law.go:216", after := #[], guard := none }) (v := .int .i64 (m : Int)) rfl (by kernel_rfl) (by kernel_rfl) (by kernel_rfl) (fun _ _ _ h => h) (Or.inl ⟨by rfl, fun w' hSw => by clear hSw; go_simp⟩) (by assumption) ?_
              simp only [Act.put, List.setIfInBounds_toArray, List.set_cons_zero, List.set_cons_succ]
              refine wpAnyH_take (i := 1) (oi := { dst := some 58, op := Op.move (Operand.tmp 6), type := 47, pos := "law.go:216", after := #[], guard := none }) (v := .slice (some ⟨BQ, oq, none⟩) Q.length vc) rfl (by kernel_rfl) (by kernel_rfl) (by kernel_rfl) (fun _ _ _ h => h) (Or.inl ⟨by rfl, fun w' hSw => by clear hSw; go_simp⟩) (by assumption) ?_
              simp only [Act.put, List.setIfInBounds_toArray, List.set_cons_zero, List.set_cons_succ]
              refine wpAnyH_take (i := 2) (oi := { dst := some 59, op := Op.call { callee := Callee.builtin Builtin.len, args := #[Operand.tmp 58], argTypes := #[47] }, type := 3, pos := "law.go:216", after := #[{ on := 1, ground := Ground.data }], guard := none }) (v := .int .i64 (Q.length : Int)) rfl (by kernel_rfl) (by kernel_rfl) (by kernel_rfl) (fun _ _ _ h => h) (Or.inl ⟨by rfl, fun w' hSw => by clear hSw; go_simp⟩) (by assumption) ?_
              simp only [Act.put, List.setIfInBounds_toArray, List.set_cons_zero, List.set_cons_succ]
              refine wpAnyH_take (i := 3) (oi := { dst := some 60, op := Op.binOp BinOp.lss 3 (Operand.tmp 57) (Operand.tmp 59) 3, type := 4, pos := "law.go:216", after := #[{ on := 0, ground := Ground.data }, { on := 2, ground := Ground.data }], guard := none }) (v := .bool true) rfl (by kernel_rfl) (by kernel_rfl) (by kernel_rfl) (fun _ _ _ h => h) (Or.inl ⟨by rfl, fun w' hSw => by clear hSw; go_simp⟩) (by assumption) ?_
              simp only [Act.put, List.setIfInBounds_toArray, List.set_cons_zero, List.set_cons_succ]
              refine wpAnyH_take (i := 4) (oi := { dst := some 61, op := Op.move (Operand.tmp 60), type := 4, pos := "law.go:216", after := #[{ on := 3, ground := Ground.data }], guard := none }) (v := .bool true) rfl (by kernel_rfl) (by kernel_rfl) (by kernel_rfl) (fun _ _ _ h => h) (Or.inl ⟨by rfl, fun w' hSw => by clear hSw; go_simp⟩) (by assumption) ?_
              simp only [Act.put, List.setIfInBounds_toArray, List.set_cons_zero, List.set_cons_succ]
              refine wpAnyH_take (i := 5) (oi := { dst := some 62, op := Op.move (Operand.tmp 6), type := 47, pos := "law.go:216", after := #[{ on := 4, ground := Ground.guard }], guard := some (4, true) }) (v := .slice (some ⟨BQ, oq, none⟩) Q.length vc) rfl (by kernel_rfl) (by kernel_rfl) (by kernel_rfl) (fun _ _ _ h => h) (Or.inl ⟨by rfl, fun w' hSw => by clear hSw; go_simp⟩) (by assumption) ?_
              simp only [Act.put, List.setIfInBounds_toArray, List.set_cons_zero, List.set_cons_succ]
              refine wpAnyH_take (i := 6) (oi := { dst := some 63, op := Op.move (Operand.tmp 10), type := 3, pos := "law.go:216", after := #[{ on := 4, ground := Ground.guard }], guard := some (4, true) }) (v := .int .i64 (m : Int)) rfl (by kernel_rfl) (by kernel_rfl) (by kernel_rfl) (fun _ _ _ h => h) (Or.inl ⟨by rfl, fun w' hSw => by clear hSw; go_simp⟩) (by assumption) ?_
              simp only [Act.put, List.setIfInBounds_toArray, List.set_cons_zero, List.set_cons_succ]
              refine wpAnyH_take (i := 9) (oi := { dst := some 66, op := Op.move (Operand.tmp 0), type := 47, pos := "law.go:216", after := #[{ on := 4, ground := Ground.guard }], guard := some (4, true) }) (v := .slice (some ⟨BL, o, none⟩) L.length cL) rfl (by kernel_rfl) (by kernel_rfl) (by kernel_rfl) (fun _ _ _ h => h) (Or.inl ⟨by rfl, fun w' hSw => by clear hSw; go_simp⟩) (by assumption) ?_
              simp only [Act.put, List.setIfInBounds_toArray, List.set_cons_zero, List.set_cons_succ]
              refine wpAnyH_take (i := 10) (oi := { dst := some 67, op := Op.move (Operand.tmp 7), type := 3, pos := "law.go:216", after := #[{ on := 4, ground := Ground.guard }], guard := some (4, true) }) (v := .int .i64 (i : Int)) rfl (by kernel_rfl) (by kernel_rfl) (by kernel_rfl) (fun _ _ _ h => h) (Or.inl ⟨by rfl, fun w' hSw => by clear hSw; go_simp⟩) (by assumption) ?_
              simp only [Act.put, List.setIfInBounds_toArray, List.set_cons_zero, List.set_cons_succ]
              refine wpAnyH_take (i := 7) (oi := { dst := some 64, op := Op.indexAddr 47 (Operand.tmp 62) (Operand.tmp 63), type := 0, pos := "law.go:216", after := #[{ on := 5, ground := Ground.data }, { on := 6, ground := Ground.data }, { on := 4, ground := Ground.guard }], guard := some (4, true) }) (v := .pointer (some ⟨BQ, oq + m * 3, none⟩)) rfl (by kernel_rfl) (by kernel_rfl) (by kernel_rfl) (fun _ _ _ h => h) (Or.inl ⟨by rfl, fun w' hSw => by clear hSw; go_simp⟩) (by assumption) ?_
              simp only [Act.put, List.setIfInBounds_toArray, List.set_cons_zero, List.set_cons_succ]
              refine wpAnyH_take (i := 11) (oi := { dst := some 68, op := Op.indexAddr 47 (Operand.tmp 66) (Operand.tmp 67), type := 0, pos := "law.go:216", after := #[{ on := 9, ground := Ground.data }, { on := 10, ground := Ground.data }, { on := 4, ground := Ground.guard }], guard := some (4, true) }) (v := .pointer (some ⟨BL, o + i * 3, none⟩)) rfl (by kernel_rfl) (by kernel_rfl) (by kernel_rfl) (fun _ _ _ h => h) (Or.inl ⟨by rfl, fun w' hSw => by clear hSw; go_simp⟩) (by assumption) ?_
              simp only [Act.put, List.setIfInBounds_toArray, List.set_cons_zero, List.set_cons_succ]
              refine wpAnyH_take (i := 8) (oi := { dst := some 65, op := Op.load 41 (Operand.tmp 64), type := 41, pos := "law.go:216", after := #[{ on := 7, ground := Ground.data }, { on := 4, ground := Ground.guard }], guard := some (4, true) }) (v := .agg #[.string r.key, .int .i64 r.page, .int .i64 r.slot]) rfl (by kernel_rfl) (by kernel_rfl) (by kernel_rfl) (fun _ _ _ h => h) (yieldsIf_load_eb (by rfl) _ rfl rfl (fun W hW => HQ5.out.more hW)) (by assumption) ?_
              simp only [Act.put, List.setIfInBounds_toArray, List.set_cons_zero, List.set_cons_succ]
              refine wpAnyH_take (i := 12) (oi := { dst := some 69, op := Op.load 41 (Operand.tmp 68), type := 41, pos := "law.go:216", after := #[{ on := 11, ground := Ground.data }, { on := 4, ground := Ground.guard }], guard := some (4, true) }) (v := .agg #[.string q.key, .int .i64 q.page, .int .i64 q.slot]) rfl (by kernel_rfl) (by kernel_rfl) (by kernel_rfl) (fun _ _ _ h => h) (yieldsIf_load_eb (by rfl) _ rfl rfl (fun W hW => HEB5.out.more hW)) (by assumption) ?_
              simp only [Act.put, List.setIfInBounds_toArray, List.set_cons_zero, List.set_cons_succ]
              refine wpAnyH_ready (rs := [13]) (by kernel_rfl) (by simp) ?_
              refine AllReadyH.cons (o := { dst := some 70, op := Op.call { callee := Callee.value (Operand.func 20), args := #[Operand.tmp 65, Operand.tmp 69], argTypes := #[41, 41] }, type := 3, pos := "law.go:216", after := #[{ on := 8, ground := Ground.data }, { on := 12, ground := Ground.data }, { on := 4, ground := Ground.chain }, { on := 4, ground := Ground.guard }], guard := some (4, true) }) rfl (fun K hK => ?_) (AllReadyH.nil)
              go_simp
              refine (HCQ.out _).mono ?_
              rintro x x1 ⟨rfl, hox⟩
              have HX1 := hide (o2 hHeld hox)
              clear hox
              refine hK.out _ _ (HX1.out) (fun hHeld => ?_)
              clear hK K
              try simp only [Act.put, List.setIfInBounds_toArray, List.set_cons_zero, List.set_cons_succ]
              refine wpAnyH_take (i := 14) (oi := { dst := some 71, op := Op.binOp BinOp.lss 3 (Operand.tmp 70) (Operand.const (Value.int IntKind.i64 0)) 3, type := 4, pos := "law.go:216", after := #[{ on := 13, ground := Ground.data }, { on := 4, ground := Ground.guard }], guard := some (4, true) }) (v := .bool true) rfl (by kernel_rfl) (by kernel_rfl) (by kernel_rfl) (fun _ _ _ h => h) (Or.inl ⟨by rfl, fun w' hSw => by clear hSw; go_simp⟩) (by assumption) ?_
              simp only [Act.put, List.setIfInBounds_toArray, List.set_cons_zero, List.set_cons_succ]
              refine wpAnyH_take (i := 15) (oi := { dst := some 72, op := Op.pick (Operand.tmp 61) (Operand.tmp 71) (Operand.const (Value.bool false)), type := 4, pos := "law.go:216", after := #[{ on := 4, ground := Ground.data }, { on := 14, ground := Ground.data }], guard := none }) (v := .bool true) rfl (by kernel_rfl) (by kernel_rfl) (by kernel_rfl) (fun _ _ _ h => h) (Or.inl ⟨by rfl, fun w' hSw => by clear hSw; go_simp⟩) (by assumption) ?_
              simp only [Act.put, List.setIfInBounds_toArray, List.set_cons_zero, List.set_cons_succ]
              refine wpAnyH_done (by kernel_rfl) ?_ _
              refine NoPanic.normal ?_
              go_wp2_with fail
              go_roundw
              case rel => exact ⟨m + 1, by go_num, by omega, HTK1, hide (o2 HM.out HX1.out)⟩
              case measure => simp [intOf]; omega
              -- r11a}
            · have hc1 : ¬ c < 0 := fun k => hrl (hcm.1 k)
              have HRL : Hid (¬ r.lt q) := hrl
              have HQM : Hid (Q[m] = r) := hr
              clear hcm hrl hr
              go_upto_region 11 with fail
              -- {r11b
              refine wp_region_noPanic ?_
              refine wp_region_held_drew (S := fun W => Only (fun _ => False) wr W) (by kernel_rfl) (Only.drew _ _) (fun hHeld => ?_)
              refine wpAnyH_take (i := 0) (oi := { dst := some 57, op := Op.move (Operand.tmp 10), type := 3, pos := "law.go:216", after := #[], guard := none }) (v := .int .i64 (m : Int)) rfl (by kernel_rfl) (by kernel_rfl) (by kernel_rfl) (fun _ _ _ h => h) (Or.inl ⟨by rfl, fun w' hSw => by clear hSw; go_simp⟩) (by assumption) ?_
              simp only [Act.put, List.setIfInBounds_toArray, List.set_cons_zero, List.set_cons_succ]
              refine wpAnyH_take (i := 1) (oi := { dst := some 58, op := Op.move (Operand.tmp 6), type := 47, pos := "law.go:216", after := #[], guard := none }) (v := .slice (some ⟨BQ, oq, none⟩) Q.length vc) rfl (by kernel_rfl) (by kernel_rfl) (by kernel_rfl) (fun _ _ _ h => h) (Or.inl ⟨by rfl, fun w' hSw => by clear hSw; go_simp⟩) (by assumption) ?_
              simp only [Act.put, List.setIfInBounds_toArray, List.set_cons_zero, List.set_cons_succ]
              refine wpAnyH_take (i := 2) (oi := { dst := some 59, op := Op.call { callee := Callee.builtin Builtin.len, args := #[Operand.tmp 58], argTypes := #[47] }, type := 3, pos := "law.go:216", after := #[{ on := 1, ground := Ground.data }], guard := none }) (v := .int .i64 (Q.length : Int)) rfl (by kernel_rfl) (by kernel_rfl) (by kernel_rfl) (fun _ _ _ h => h) (Or.inl ⟨by rfl, fun w' hSw => by clear hSw; go_simp⟩) (by assumption) ?_
              simp only [Act.put, List.setIfInBounds_toArray, List.set_cons_zero, List.set_cons_succ]
              refine wpAnyH_take (i := 3) (oi := { dst := some 60, op := Op.binOp BinOp.lss 3 (Operand.tmp 57) (Operand.tmp 59) 3, type := 4, pos := "law.go:216", after := #[{ on := 0, ground := Ground.data }, { on := 2, ground := Ground.data }], guard := none }) (v := .bool true) rfl (by kernel_rfl) (by kernel_rfl) (by kernel_rfl) (fun _ _ _ h => h) (Or.inl ⟨by rfl, fun w' hSw => by clear hSw; go_simp⟩) (by assumption) ?_
              simp only [Act.put, List.setIfInBounds_toArray, List.set_cons_zero, List.set_cons_succ]
              refine wpAnyH_take (i := 4) (oi := { dst := some 61, op := Op.move (Operand.tmp 60), type := 4, pos := "law.go:216", after := #[{ on := 3, ground := Ground.data }], guard := none }) (v := .bool true) rfl (by kernel_rfl) (by kernel_rfl) (by kernel_rfl) (fun _ _ _ h => h) (Or.inl ⟨by rfl, fun w' hSw => by clear hSw; go_simp⟩) (by assumption) ?_
              simp only [Act.put, List.setIfInBounds_toArray, List.set_cons_zero, List.set_cons_succ]
              refine wpAnyH_take (i := 5) (oi := { dst := some 62, op := Op.move (Operand.tmp 6), type := 47, pos := "law.go:216", after := #[{ on := 4, ground := Ground.guard }], guard := some (4, true) }) (v := .slice (some ⟨BQ, oq, none⟩) Q.length vc) rfl (by kernel_rfl) (by kernel_rfl) (by kernel_rfl) (fun _ _ _ h => h) (Or.inl ⟨by rfl, fun w' hSw => by clear hSw; go_simp⟩) (by assumption) ?_
              simp only [Act.put, List.setIfInBounds_toArray, List.set_cons_zero, List.set_cons_succ]
              refine wpAnyH_take (i := 6) (oi := { dst := some 63, op := Op.move (Operand.tmp 10), type := 3, pos := "law.go:216", after := #[{ on := 4, ground := Ground.guard }], guard := some (4, true) }) (v := .int .i64 (m : Int)) rfl (by kernel_rfl) (by kernel_rfl) (by kernel_rfl) (fun _ _ _ h => h) (Or.inl ⟨by rfl, fun w' hSw => by clear hSw; go_simp⟩) (by assumption) ?_
              simp only [Act.put, List.setIfInBounds_toArray, List.set_cons_zero, List.set_cons_succ]
              refine wpAnyH_take (i := 9) (oi := { dst := some 66, op := Op.move (Operand.tmp 0), type := 47, pos := "law.go:216", after := #[{ on := 4, ground := Ground.guard }], guard := some (4, true) }) (v := .slice (some ⟨BL, o, none⟩) L.length cL) rfl (by kernel_rfl) (by kernel_rfl) (by kernel_rfl) (fun _ _ _ h => h) (Or.inl ⟨by rfl, fun w' hSw => by clear hSw; go_simp⟩) (by assumption) ?_
              simp only [Act.put, List.setIfInBounds_toArray, List.set_cons_zero, List.set_cons_succ]
              refine wpAnyH_take (i := 10) (oi := { dst := some 67, op := Op.move (Operand.tmp 7), type := 3, pos := "law.go:216", after := #[{ on := 4, ground := Ground.guard }], guard := some (4, true) }) (v := .int .i64 (i : Int)) rfl (by kernel_rfl) (by kernel_rfl) (by kernel_rfl) (fun _ _ _ h => h) (Or.inl ⟨by rfl, fun w' hSw => by clear hSw; go_simp⟩) (by assumption) ?_
              simp only [Act.put, List.setIfInBounds_toArray, List.set_cons_zero, List.set_cons_succ]
              refine wpAnyH_take (i := 7) (oi := { dst := some 64, op := Op.indexAddr 47 (Operand.tmp 62) (Operand.tmp 63), type := 0, pos := "law.go:216", after := #[{ on := 5, ground := Ground.data }, { on := 6, ground := Ground.data }, { on := 4, ground := Ground.guard }], guard := some (4, true) }) (v := .pointer (some ⟨BQ, oq + m * 3, none⟩)) rfl (by kernel_rfl) (by kernel_rfl) (by kernel_rfl) (fun _ _ _ h => h) (Or.inl ⟨by rfl, fun w' hSw => by clear hSw; go_simp⟩) (by assumption) ?_
              simp only [Act.put, List.setIfInBounds_toArray, List.set_cons_zero, List.set_cons_succ]
              refine wpAnyH_take (i := 11) (oi := { dst := some 68, op := Op.indexAddr 47 (Operand.tmp 66) (Operand.tmp 67), type := 0, pos := "law.go:216", after := #[{ on := 9, ground := Ground.data }, { on := 10, ground := Ground.data }, { on := 4, ground := Ground.guard }], guard := some (4, true) }) (v := .pointer (some ⟨BL, o + i * 3, none⟩)) rfl (by kernel_rfl) (by kernel_rfl) (by kernel_rfl) (fun _ _ _ h => h) (Or.inl ⟨by rfl, fun w' hSw => by clear hSw; go_simp⟩) (by assumption) ?_
              simp only [Act.put, List.setIfInBounds_toArray, List.set_cons_zero, List.set_cons_succ]
              refine wpAnyH_take (i := 8) (oi := { dst := some 65, op := Op.load 41 (Operand.tmp 64), type := 41, pos := "law.go:216", after := #[{ on := 7, ground := Ground.data }, { on := 4, ground := Ground.guard }], guard := some (4, true) }) (v := .agg #[.string r.key, .int .i64 r.page, .int .i64 r.slot]) rfl (by kernel_rfl) (by kernel_rfl) (by kernel_rfl) (fun _ _ _ h => h) (yieldsIf_load_eb (by rfl) _ rfl rfl (fun W hW => HQ5.out.more hW)) (by assumption) ?_
              simp only [Act.put, List.setIfInBounds_toArray, List.set_cons_zero, List.set_cons_succ]
              refine wpAnyH_take (i := 12) (oi := { dst := some 69, op := Op.load 41 (Operand.tmp 68), type := 41, pos := "law.go:216", after := #[{ on := 11, ground := Ground.data }, { on := 4, ground := Ground.guard }], guard := some (4, true) }) (v := .agg #[.string q.key, .int .i64 q.page, .int .i64 q.slot]) rfl (by kernel_rfl) (by kernel_rfl) (by kernel_rfl) (fun _ _ _ h => h) (yieldsIf_load_eb (by rfl) _ rfl rfl (fun W hW => HEB5.out.more hW)) (by assumption) ?_
              simp only [Act.put, List.setIfInBounds_toArray, List.set_cons_zero, List.set_cons_succ]
              refine wpAnyH_ready (rs := [13]) (by kernel_rfl) (by simp) ?_
              refine AllReadyH.cons (o := { dst := some 70, op := Op.call { callee := Callee.value (Operand.func 20), args := #[Operand.tmp 65, Operand.tmp 69], argTypes := #[41, 41] }, type := 3, pos := "law.go:216", after := #[{ on := 8, ground := Ground.data }, { on := 12, ground := Ground.data }, { on := 4, ground := Ground.chain }, { on := 4, ground := Ground.guard }], guard := some (4, true) }) rfl (fun K hK => ?_) (AllReadyH.nil)
              go_simp
              refine (HCQ.out _).mono ?_
              rintro x x1 ⟨rfl, hox⟩
              have HX1 := hide (o2 hHeld hox)
              clear hox
              refine hK.out _ _ (HX1.out) (fun hHeld => ?_)
              clear hK K
              try simp only [Act.put, List.setIfInBounds_toArray, List.set_cons_zero, List.set_cons_succ]
              refine wpAnyH_take (i := 14) (oi := { dst := some 71, op := Op.binOp BinOp.lss 3 (Operand.tmp 70) (Operand.const (Value.int IntKind.i64 0)) 3, type := 4, pos := "law.go:216", after := #[{ on := 13, ground := Ground.data }, { on := 4, ground := Ground.guard }], guard := some (4, true) }) (v := .bool false) rfl (by kernel_rfl) (by kernel_rfl) (by kernel_rfl) (fun _ _ _ h => h) (Or.inl ⟨by rfl, fun w' hSw => by clear hSw; go_simp⟩) (by assumption) ?_
              simp only [Act.put, List.setIfInBounds_toArray, List.set_cons_zero, List.set_cons_succ]
              refine wpAnyH_take (i := 15) (oi := { dst := some 72, op := Op.pick (Operand.tmp 61) (Operand.tmp 71) (Operand.const (Value.bool false)), type := 4, pos := "law.go:216", after := #[{ on := 4, ground := Ground.data }, { on := 14, ground := Ground.data }], guard := none }) (v := .bool false) rfl (by kernel_rfl) (by kernel_rfl) (by kernel_rfl) (fun _ _ _ h => h) (Or.inl ⟨by rfl, fun w' hSw => by clear hSw; go_simp⟩) (by assumption) ?_
              simp only [Act.put, List.setIfInBounds_toArray, List.set_cons_zero, List.set_cons_succ]
              refine wpAnyH_done (by kernel_rfl) ?_ _
              refine NoPanic.normal ?_
              -- r11b}
              go_upto_region 13 with fail
              have hqe := eqE_run r q
              by_cases hrq : r = q
              · rw [decide_eq_true hrq] at hqe
                have HIN : Hid (q ∈ Q) := by
                  rw [← hrq, ← HQM.out]
                  exact List.getElem_mem _
                clear hrq
                -- {r13a
                refine wp_region_noPanic ?_
                refine wp_region_held_drew (S := fun W => Only (fun _ => False) wr W) (by kernel_rfl) (o2 HX1.out (Only.drew _ _)) (fun hHeld => ?_)
                refine wpAnyH_take (i := 0) (oi := { dst := some 75, op := Op.move (Operand.tmp 10), type := 3, pos := "law.go:219", after := #[], guard := none }) (v := .int .i64 (m : Int)) rfl (by kernel_rfl) (by kernel_rfl) (by kernel_rfl) (fun _ _ _ h => h) (Or.inl ⟨by rfl, fun w' hSw => by clear hSw; go_simp⟩) (by assumption) ?_
                simp only [Act.put, List.setIfInBounds_toArray, List.set_cons_zero, List.set_cons_succ]
                refine wpAnyH_take (i := 1) (oi := { dst := some 76, op := Op.move (Operand.tmp 6), type := 47, pos := "law.go:219", after := #[], guard := none }) (v := .slice (some ⟨BQ, oq, none⟩) Q.length vc) rfl (by kernel_rfl) (by kernel_rfl) (by kernel_rfl) (fun _ _ _ h => h) (Or.inl ⟨by rfl, fun w' hSw => by clear hSw; go_simp⟩) (by assumption) ?_
                simp only [Act.put, List.setIfInBounds_toArray, List.set_cons_zero, List.set_cons_succ]
                refine wpAnyH_take (i := 2) (oi := { dst := some 77, op := Op.call { callee := Callee.builtin Builtin.len, args := #[Operand.tmp 76], argTypes := #[47] }, type := 3, pos := "law.go:219", after := #[{ on := 1, ground := Ground.data }], guard := none }) (v := .int .i64 (Q.length : Int)) rfl (by kernel_rfl) (by kernel_rfl) (by kernel_rfl) (fun _ _ _ h => h) (Or.inl ⟨by rfl, fun w' hSw => by clear hSw; go_simp⟩) (by assumption) ?_
                simp only [Act.put, List.setIfInBounds_toArray, List.set_cons_zero, List.set_cons_succ]
                refine wpAnyH_take (i := 3) (oi := { dst := some 78, op := Op.binOp BinOp.lss 3 (Operand.tmp 75) (Operand.tmp 77) 3, type := 4, pos := "law.go:219", after := #[{ on := 0, ground := Ground.data }, { on := 2, ground := Ground.data }], guard := none }) (v := .bool true) rfl (by kernel_rfl) (by kernel_rfl) (by kernel_rfl) (fun _ _ _ h => h) (Or.inl ⟨by rfl, fun w' hSw => by clear hSw; go_simp⟩) (by assumption) ?_
                simp only [Act.put, List.setIfInBounds_toArray, List.set_cons_zero, List.set_cons_succ]
                refine wpAnyH_take (i := 4) (oi := { dst := some 79, op := Op.move (Operand.tmp 78), type := 4, pos := "law.go:219", after := #[{ on := 3, ground := Ground.data }], guard := none }) (v := .bool true) rfl (by kernel_rfl) (by kernel_rfl) (by kernel_rfl) (fun _ _ _ h => h) (Or.inl ⟨by rfl, fun w' hSw => by clear hSw; go_simp⟩) (by assumption) ?_
                simp only [Act.put, List.setIfInBounds_toArray, List.set_cons_zero, List.set_cons_succ]
                refine wpAnyH_take (i := 5) (oi := { dst := some 80, op := Op.move (Operand.tmp 6), type := 47, pos := "law.go:219", after := #[{ on := 4, ground := Ground.guard }], guard := some (4, true) }) (v := .slice (some ⟨BQ, oq, none⟩) Q.length vc) rfl (by kernel_rfl) (by kernel_rfl) (by kernel_rfl) (fun _ _ _ h => h) (Or.inl ⟨by rfl, fun w' hSw => by clear hSw; go_simp⟩) (by assumption) ?_
                simp only [Act.put, List.setIfInBounds_toArray, List.set_cons_zero, List.set_cons_succ]
                refine wpAnyH_take (i := 6) (oi := { dst := some 81, op := Op.move (Operand.tmp 10), type := 3, pos := "law.go:219", after := #[{ on := 4, ground := Ground.guard }], guard := some (4, true) }) (v := .int .i64 (m : Int)) rfl (by kernel_rfl) (by kernel_rfl) (by kernel_rfl) (fun _ _ _ h => h) (Or.inl ⟨by rfl, fun w' hSw => by clear hSw; go_simp⟩) (by assumption) ?_
                simp only [Act.put, List.setIfInBounds_toArray, List.set_cons_zero, List.set_cons_succ]
                refine wpAnyH_take (i := 9) (oi := { dst := some 84, op := Op.move (Operand.tmp 0), type := 47, pos := "law.go:219", after := #[{ on := 4, ground := Ground.guard }], guard := some (4, true) }) (v := .slice (some ⟨BL, o, none⟩) L.length cL) rfl (by kernel_rfl) (by kernel_rfl) (by kernel_rfl) (fun _ _ _ h => h) (Or.inl ⟨by rfl, fun w' hSw => by clear hSw; go_simp⟩) (by assumption) ?_
                simp only [Act.put, List.setIfInBounds_toArray, List.set_cons_zero, List.set_cons_succ]
                refine wpAnyH_take (i := 10) (oi := { dst := some 85, op := Op.move (Operand.tmp 7), type := 3, pos := "law.go:219", after := #[{ on := 4, ground := Ground.guard }], guard := some (4, true) }) (v := .int .i64 (i : Int)) rfl (by kernel_rfl) (by kernel_rfl) (by kernel_rfl) (fun _ _ _ h => h) (Or.inl ⟨by rfl, fun w' hSw => by clear hSw; go_simp⟩) (by assumption) ?_
                simp only [Act.put, List.setIfInBounds_toArray, List.set_cons_zero, List.set_cons_succ]
                refine wpAnyH_take (i := 7) (oi := { dst := some 82, op := Op.indexAddr 47 (Operand.tmp 80) (Operand.tmp 81), type := 0, pos := "law.go:219", after := #[{ on := 5, ground := Ground.data }, { on := 6, ground := Ground.data }, { on := 4, ground := Ground.guard }], guard := some (4, true) }) (v := .pointer (some ⟨BQ, oq + m * 3, none⟩)) rfl (by kernel_rfl) (by kernel_rfl) (by kernel_rfl) (fun _ _ _ h => h) (Or.inl ⟨by rfl, fun w' hSw => by clear hSw; go_simp⟩) (by assumption) ?_
                simp only [Act.put, List.setIfInBounds_toArray, List.set_cons_zero, List.set_cons_succ]
                refine wpAnyH_take (i := 11) (oi := { dst := some 86, op := Op.indexAddr 47 (Operand.tmp 84) (Operand.tmp 85), type := 0, pos := "law.go:219", after := #[{ on := 9, ground := Ground.data }, { on := 10, ground := Ground.data }, { on := 4, ground := Ground.guard }], guard := some (4, true) }) (v := .pointer (some ⟨BL, o + i * 3, none⟩)) rfl (by kernel_rfl) (by kernel_rfl) (by kernel_rfl) (fun _ _ _ h => h) (Or.inl ⟨by rfl, fun w' hSw => by clear hSw; go_simp⟩) (by assumption) ?_
                simp only [Act.put, List.setIfInBounds_toArray, List.set_cons_zero, List.set_cons_succ]
                refine wpAnyH_take (i := 8) (oi := { dst := some 83, op := Op.load 41 (Operand.tmp 82), type := 41, pos := "law.go:219", after := #[{ on := 7, ground := Ground.data }, { on := 4, ground := Ground.guard }], guard := some (4, true) }) (v := .agg #[.string r.key, .int .i64 r.page, .int .i64 r.slot]) rfl (by kernel_rfl) (by kernel_rfl) (by kernel_rfl) (fun _ _ _ h => h) (yieldsIf_load_eb (by rfl) _ rfl rfl (fun W hW => HQ5.out.more hW)) (by assumption) ?_
                simp only [Act.put, List.setIfInBounds_toArray, List.set_cons_zero, List.set_cons_succ]
                refine wpAnyH_take (i := 12) (oi := { dst := some 87, op := Op.load 41 (Operand.tmp 86), type := 41, pos := "law.go:219", after := #[{ on := 11, ground := Ground.data }, { on := 4, ground := Ground.guard }], guard := some (4, true) }) (v := .agg #[.string q.key, .int .i64 q.page, .int .i64 q.slot]) rfl (by kernel_rfl) (by kernel_rfl) (by kernel_rfl) (fun _ _ _ h => h) (yieldsIf_load_eb (by rfl) _ rfl rfl (fun W hW => HEB5.out.more hW)) (by assumption) ?_
                simp only [Act.put, List.setIfInBounds_toArray, List.set_cons_zero, List.set_cons_succ]
                refine wpAnyH_take (i := 13) (oi := { dst := some 88, op := Op.binOp BinOp.eql 41 (Operand.tmp 83) (Operand.tmp 87) 41, type := 4, pos := "law.go:219", after := #[{ on := 8, ground := Ground.data }, { on := 12, ground := Ground.data }, { on := 4, ground := Ground.guard }], guard := some (4, true) }) (v := .bool true) rfl (by kernel_rfl) (by kernel_rfl) (by kernel_rfl) (fun _ _ _ h => h) (Or.inl ⟨by rfl, fun w' hSw => by clear hSw; go_simp⟩) (by assumption) ?_
                simp only [Act.put, List.setIfInBounds_toArray, List.set_cons_zero, List.set_cons_succ]
                refine wpAnyH_take (i := 14) (oi := { dst := some 89, op := Op.pick (Operand.tmp 79) (Operand.tmp 88) (Operand.const (Value.bool false)), type := 4, pos := "law.go:219", after := #[{ on := 4, ground := Ground.data }, { on := 13, ground := Ground.data }], guard := none }) (v := .bool true) rfl (by kernel_rfl) (by kernel_rfl) (by kernel_rfl) (fun _ _ _ h => h) (Or.inl ⟨by rfl, fun w' hSw => by clear hSw; go_simp⟩) (by assumption) ?_
                simp only [Act.put, List.setIfInBounds_toArray, List.set_cons_zero, List.set_cons_succ]
                refine wpAnyH_done (by kernel_rfl) ?_ _
                refine NoPanic.normal ?_
                -- r13a}
                have HX6 : Hid (Only (fun _ => False) wr x1.drew) := o2 HX1.out (Only.drew _ _)
                obtain ⟨w6, hw6⟩ : ∃ x, x1.drew = x := ⟨_, rfl⟩
                rw [hw6] at HX6 ⊢
                clear hw6
                have HS9 : Hid (∃ g cap zs N F lo, Sa w w6 f g cap zs N F lo (fun e => e ∈ Q) (.slice (some ⟨BQ, oq, none⟩) Q.length vc) Q ∧ Bd N F (i + 1)) := ⟨_, _, _, _, _, _, (HS4.out.more (o2 HM.out HX6.out)).congr (fun e => ⟨fun k => by
                  rcases k with k | k
                  · exact k
                  · rw [k]; exact HIN.out, fun k => .inl k⟩), HB4.out⟩
                have HW9 : Hid (Only (fun _ => False) w w6) := o2 HW4.out (o2 HM.out HX6.out)
                go_wp2_with fail
                go_roundw
                case rel => exact ⟨i + 1, Q, by go_num, by omega, by omega, by omega, HS9, HR, HW9⟩
                case measure => simp [intOf]; omega
              · rw [decide_eq_false hrq] at hqe
                have HGT : Hid (∀ y ∈ Q.drop m, q.lt y) := drop_gt HR.out hml (by rw [HQM.out]; exact HRL.out) (by rw [HQM.out]; exact hrq)
                clear hrq
                -- {r13b
                refine wp_region_noPanic ?_
                refine wp_region_held_drew (S := fun W => Only (fun _ => False) wr W) (by kernel_rfl) (o2 HX1.out (Only.drew _ _)) (fun hHeld => ?_)
                refine wpAnyH_take (i := 0) (oi := { dst := some 75, op := Op.move (Operand.tmp 10), type := 3, pos := "law.go:219", after := #[], guard := none }) (v := .int .i64 (m : Int)) rfl (by kernel_rfl) (by kernel_rfl) (by kernel_rfl) (fun _ _ _ h => h) (Or.inl ⟨by rfl, fun w' hSw => by clear hSw; go_simp⟩) (by assumption) ?_
                simp only [Act.put, List.setIfInBounds_toArray, List.set_cons_zero, List.set_cons_succ]
                refine wpAnyH_take (i := 1) (oi := { dst := some 76, op := Op.move (Operand.tmp 6), type := 47, pos := "law.go:219", after := #[], guard := none }) (v := .slice (some ⟨BQ, oq, none⟩) Q.length vc) rfl (by kernel_rfl) (by kernel_rfl) (by kernel_rfl) (fun _ _ _ h => h) (Or.inl ⟨by rfl, fun w' hSw => by clear hSw; go_simp⟩) (by assumption) ?_
                simp only [Act.put, List.setIfInBounds_toArray, List.set_cons_zero, List.set_cons_succ]
                refine wpAnyH_take (i := 2) (oi := { dst := some 77, op := Op.call { callee := Callee.builtin Builtin.len, args := #[Operand.tmp 76], argTypes := #[47] }, type := 3, pos := "law.go:219", after := #[{ on := 1, ground := Ground.data }], guard := none }) (v := .int .i64 (Q.length : Int)) rfl (by kernel_rfl) (by kernel_rfl) (by kernel_rfl) (fun _ _ _ h => h) (Or.inl ⟨by rfl, fun w' hSw => by clear hSw; go_simp⟩) (by assumption) ?_
                simp only [Act.put, List.setIfInBounds_toArray, List.set_cons_zero, List.set_cons_succ]
                refine wpAnyH_take (i := 3) (oi := { dst := some 78, op := Op.binOp BinOp.lss 3 (Operand.tmp 75) (Operand.tmp 77) 3, type := 4, pos := "law.go:219", after := #[{ on := 0, ground := Ground.data }, { on := 2, ground := Ground.data }], guard := none }) (v := .bool true) rfl (by kernel_rfl) (by kernel_rfl) (by kernel_rfl) (fun _ _ _ h => h) (Or.inl ⟨by rfl, fun w' hSw => by clear hSw; go_simp⟩) (by assumption) ?_
                simp only [Act.put, List.setIfInBounds_toArray, List.set_cons_zero, List.set_cons_succ]
                refine wpAnyH_take (i := 4) (oi := { dst := some 79, op := Op.move (Operand.tmp 78), type := 4, pos := "law.go:219", after := #[{ on := 3, ground := Ground.data }], guard := none }) (v := .bool true) rfl (by kernel_rfl) (by kernel_rfl) (by kernel_rfl) (fun _ _ _ h => h) (Or.inl ⟨by rfl, fun w' hSw => by clear hSw; go_simp⟩) (by assumption) ?_
                simp only [Act.put, List.setIfInBounds_toArray, List.set_cons_zero, List.set_cons_succ]
                refine wpAnyH_take (i := 5) (oi := { dst := some 80, op := Op.move (Operand.tmp 6), type := 47, pos := "law.go:219", after := #[{ on := 4, ground := Ground.guard }], guard := some (4, true) }) (v := .slice (some ⟨BQ, oq, none⟩) Q.length vc) rfl (by kernel_rfl) (by kernel_rfl) (by kernel_rfl) (fun _ _ _ h => h) (Or.inl ⟨by rfl, fun w' hSw => by clear hSw; go_simp⟩) (by assumption) ?_
                simp only [Act.put, List.setIfInBounds_toArray, List.set_cons_zero, List.set_cons_succ]
                refine wpAnyH_take (i := 6) (oi := { dst := some 81, op := Op.move (Operand.tmp 10), type := 3, pos := "law.go:219", after := #[{ on := 4, ground := Ground.guard }], guard := some (4, true) }) (v := .int .i64 (m : Int)) rfl (by kernel_rfl) (by kernel_rfl) (by kernel_rfl) (fun _ _ _ h => h) (Or.inl ⟨by rfl, fun w' hSw => by clear hSw; go_simp⟩) (by assumption) ?_
                simp only [Act.put, List.setIfInBounds_toArray, List.set_cons_zero, List.set_cons_succ]
                refine wpAnyH_take (i := 9) (oi := { dst := some 84, op := Op.move (Operand.tmp 0), type := 47, pos := "law.go:219", after := #[{ on := 4, ground := Ground.guard }], guard := some (4, true) }) (v := .slice (some ⟨BL, o, none⟩) L.length cL) rfl (by kernel_rfl) (by kernel_rfl) (by kernel_rfl) (fun _ _ _ h => h) (Or.inl ⟨by rfl, fun w' hSw => by clear hSw; go_simp⟩) (by assumption) ?_
                simp only [Act.put, List.setIfInBounds_toArray, List.set_cons_zero, List.set_cons_succ]
                refine wpAnyH_take (i := 10) (oi := { dst := some 85, op := Op.move (Operand.tmp 7), type := 3, pos := "law.go:219", after := #[{ on := 4, ground := Ground.guard }], guard := some (4, true) }) (v := .int .i64 (i : Int)) rfl (by kernel_rfl) (by kernel_rfl) (by kernel_rfl) (fun _ _ _ h => h) (Or.inl ⟨by rfl, fun w' hSw => by clear hSw; go_simp⟩) (by assumption) ?_
                simp only [Act.put, List.setIfInBounds_toArray, List.set_cons_zero, List.set_cons_succ]
                refine wpAnyH_take (i := 7) (oi := { dst := some 82, op := Op.indexAddr 47 (Operand.tmp 80) (Operand.tmp 81), type := 0, pos := "law.go:219", after := #[{ on := 5, ground := Ground.data }, { on := 6, ground := Ground.data }, { on := 4, ground := Ground.guard }], guard := some (4, true) }) (v := .pointer (some ⟨BQ, oq + m * 3, none⟩)) rfl (by kernel_rfl) (by kernel_rfl) (by kernel_rfl) (fun _ _ _ h => h) (Or.inl ⟨by rfl, fun w' hSw => by clear hSw; go_simp⟩) (by assumption) ?_
                simp only [Act.put, List.setIfInBounds_toArray, List.set_cons_zero, List.set_cons_succ]
                refine wpAnyH_take (i := 11) (oi := { dst := some 86, op := Op.indexAddr 47 (Operand.tmp 84) (Operand.tmp 85), type := 0, pos := "law.go:219", after := #[{ on := 9, ground := Ground.data }, { on := 10, ground := Ground.data }, { on := 4, ground := Ground.guard }], guard := some (4, true) }) (v := .pointer (some ⟨BL, o + i * 3, none⟩)) rfl (by kernel_rfl) (by kernel_rfl) (by kernel_rfl) (fun _ _ _ h => h) (Or.inl ⟨by rfl, fun w' hSw => by clear hSw; go_simp⟩) (by assumption) ?_
                simp only [Act.put, List.setIfInBounds_toArray, List.set_cons_zero, List.set_cons_succ]
                refine wpAnyH_take (i := 8) (oi := { dst := some 83, op := Op.load 41 (Operand.tmp 82), type := 41, pos := "law.go:219", after := #[{ on := 7, ground := Ground.data }, { on := 4, ground := Ground.guard }], guard := some (4, true) }) (v := .agg #[.string r.key, .int .i64 r.page, .int .i64 r.slot]) rfl (by kernel_rfl) (by kernel_rfl) (by kernel_rfl) (fun _ _ _ h => h) (yieldsIf_load_eb (by rfl) _ rfl rfl (fun W hW => HQ5.out.more hW)) (by assumption) ?_
                simp only [Act.put, List.setIfInBounds_toArray, List.set_cons_zero, List.set_cons_succ]
                refine wpAnyH_take (i := 12) (oi := { dst := some 87, op := Op.load 41 (Operand.tmp 86), type := 41, pos := "law.go:219", after := #[{ on := 11, ground := Ground.data }, { on := 4, ground := Ground.guard }], guard := some (4, true) }) (v := .agg #[.string q.key, .int .i64 q.page, .int .i64 q.slot]) rfl (by kernel_rfl) (by kernel_rfl) (by kernel_rfl) (fun _ _ _ h => h) (yieldsIf_load_eb (by rfl) _ rfl rfl (fun W hW => HEB5.out.more hW)) (by assumption) ?_
                simp only [Act.put, List.setIfInBounds_toArray, List.set_cons_zero, List.set_cons_succ]
                refine wpAnyH_take (i := 13) (oi := { dst := some 88, op := Op.binOp BinOp.eql 41 (Operand.tmp 83) (Operand.tmp 87) 41, type := 4, pos := "law.go:219", after := #[{ on := 8, ground := Ground.data }, { on := 12, ground := Ground.data }, { on := 4, ground := Ground.guard }], guard := some (4, true) }) (v := .bool false) rfl (by kernel_rfl) (by kernel_rfl) (by kernel_rfl) (fun _ _ _ h => h) (Or.inl ⟨by rfl, fun w' hSw => by clear hSw; go_simp⟩) (by assumption) ?_
                simp only [Act.put, List.setIfInBounds_toArray, List.set_cons_zero, List.set_cons_succ]
                refine wpAnyH_take (i := 14) (oi := { dst := some 89, op := Op.pick (Operand.tmp 79) (Operand.tmp 88) (Operand.const (Value.bool false)), type := 4, pos := "law.go:219", after := #[{ on := 4, ground := Ground.data }, { on := 13, ground := Ground.data }], guard := none }) (v := .bool false) rfl (by kernel_rfl) (by kernel_rfl) (by kernel_rfl) (fun _ _ _ h => h) (Or.inl ⟨by rfl, fun w' hSw => by clear hSw; go_simp⟩) (by assumption) ?_
                simp only [Act.put, List.setIfInBounds_toArray, List.set_cons_zero, List.set_cons_succ]
                refine wpAnyH_done (by kernel_rfl) ?_ _
                refine NoPanic.normal ?_
                -- r13b}
                have HX6 : Hid (Only (fun _ => False) wr x1.drew) := o2 HX1.out (Only.drew _ _)
                obtain ⟨w6, hw6⟩ : ∃ x, x1.drew = x := ⟨_, rfl⟩
                rw [hw6] at HX6 ⊢
                clear hw6 hqe
                have HEL6 := HEL.out.more (o2 HM.out HX6.out)
                have HEB6 := hide (HEB5.out.more HX6.out)
                obtain ⟨A2, hA2⟩ : ∃ A2 : Option Addr, (if vc = m then (some (⟨BQ, oq, none⟩ : Addr)) else Option.map (fun x : Addr => x.add (m * 3)) (some (⟨BQ, oq, none⟩ : Addr))) = A2 := ⟨_, rfl⟩
                have hsl1 := fun W => slice_hi W (some (⟨BQ, oq, none⟩ : Addr)) Q.length vc m (by omega)
                have hsl2 : ∀ W, (Instr.slice 47 (.slice (some (⟨BQ, oq, none⟩ : Addr)) Q.length vc) (some (.int .i64 (m : Int))) none none).run Tryz.prog W = .ok (.slice A2 (Q.length - m) (vc - m)) W := fun W => by rw [← hA2]; exact slice_lo W (some (⟨BQ, oq, none⟩ : Addr)) Q.length vc m hm
                obtain ⟨v6, w7, v7, w8, v8, w9, r6, r7, r8, he9, ho7, ho9⟩ := ets_three w6 (some (⟨BQ, oq, none⟩ : Addr)) BQ Q q m A2 HEL6 hm (fun hk => by rw [← hA2, if_neg (by omega)]) (by omega) vc (vc - m)
                have HR6 := hide r6
                have HR7 := hide r7
                have HR8 := hide r8
                have HEB7 := hide (HEB6.out.more ho7)
                have HS9 : Hid (∃ g cap zs N F lo, Sa w w9 f g cap zs N F lo (fun e => e ∈ Q.take m ++ [q] ++ Q.drop m) v8 (Q.take m ++ [q] ++ Q.drop m) ∧ Bd N F (i + 1)) := ⟨_, _, _, _, _, _, ((HS4.out.more (o2 HM.out HX6.out)).fresh ho9 he9).congr (fun e => mem_ins.symm), HB4.out⟩
                have HR9 := hide (rise_ins HR.out HTK.out HGT.out)
                have HW9 : Hid (Only (fun _ => False) w w9) := o2 (o2 HW4.out (o2 HM.out HX6.out)) ho9
                have hl9 : (Q.take m ++ [q] ++ Q.drop m).length ≤ i + 1 := by simp; omega
                obtain ⟨Q9, hQ9⟩ : ∃ l, Q.take m ++ [q] ++ Q.drop m = l := ⟨_, rfl⟩
                rw [hQ9] at HS9 HR9 hl9
                clear hQ9 hA2 r6 r7 r8 he9 ho7 ho9 HEL6
                obtain ⟨e0, e1, e2, _⟩ := HEB7.out
                go_wp2_with (at_builtin; go_must (first | (refine Lib.wpList_append_run _ rfl _ _ _ _ rfl _ _ rfl rfl _ _ HR6.out ?_) | (refine Lib.wpList_append_run _ rfl _ _ _ _ rfl _ _ rfl rfl _ _ HR7.out ?_) | (refine Lib.wpList_append_run _ rfl _ _ _ _ rfl _ _ rfl rfl _ _ HR8.out ?_)))
                go_roundw
                case rel => exact ⟨i + 1, Q9, by go_num, by omega, by omega, hl9, HS9, HR9, HW9⟩
                case measure => simp [intOf]; omega
          · have hm1 : ¬ (m : Int) < (Q.length : Int) := by omega
            go_upto_region 11 with fail
            -- {r11c
            refine wp_region_noPanic ?_
            refine wp_region_held_drew (S := fun W => Only (fun _ => False) wr W) (by kernel_rfl) (Only.drew _ _) (fun hHeld => ?_)
            refine wpAnyH_take (i := 0) (oi := { dst := some 57, op := Op.move (Operand.tmp 10), type := 3, pos := "law.go:216", after := #[], guard := none }) (v := .int .i64 (m : Int)) rfl (by kernel_rfl) (by kernel_rfl) (by kernel_rfl) (fun _ _ _ h => h) (Or.inl ⟨by rfl, fun w' hSw => by clear hSw; go_simp⟩) (by assumption) ?_
            simp only [Act.put, List.setIfInBounds_toArray, List.set_cons_zero, List.set_cons_succ]
            refine wpAnyH_take (i := 1) (oi := { dst := some 58, op := Op.move (Operand.tmp 6), type := 47, pos := "law.go:216", after := #[], guard := none }) (v := .slice va Q.length vc) rfl (by kernel_rfl) (by kernel_rfl) (by kernel_rfl) (fun _ _ _ h => h) (Or.inl ⟨by rfl, fun w' hSw => by clear hSw; go_simp⟩) (by assumption) ?_
            simp only [Act.put, List.setIfInBounds_toArray, List.set_cons_zero, List.set_cons_succ]
            refine wpAnyH_take (i := 2) (oi := { dst := some 59, op := Op.call { callee := Callee.builtin Builtin.len, args := #[Operand.tmp 58], argTypes := #[47] }, type := 3, pos := "law.go:216", after := #[{ on := 1, ground := Ground.data }], guard := none }) (v := .int .i64 (Q.length : Int)) rfl (by kernel_rfl) (by kernel_rfl) (by kernel_rfl) (fun _ _ _ h => h) (Or.inl ⟨by rfl, fun w' hSw => by clear hSw; go_simp⟩) (by assumption) ?_
            simp only [Act.put, List.setIfInBounds_toArray, List.set_cons_zero, List.set_cons_succ]
            refine wpAnyH_take (i := 3) (oi := { dst := some 60, op := Op.binOp BinOp.lss 3 (Operand.tmp 57) (Operand.tmp 59) 3, type := 4, pos := "law.go:216", after := #[{ on := 0, ground := Ground.data }, { on := 2, ground := Ground.data }], guard := none }) (v := .bool false) rfl (by kernel_rfl) (by kernel_rfl) (by kernel_rfl) (fun _ _ _ h => h) (Or.inl ⟨by rfl, fun w' hSw => by clear hSw; go_simp⟩) (by assumption) ?_
            simp only [Act.put, List.setIfInBounds_toArray, List.set_cons_zero, List.set_cons_succ]
            refine wpAnyH_take (i := 4) (oi := { dst := some 61, op := Op.move (Operand.tmp 60), type := 4, pos := "law.go:216", after := #[{ on := 3, ground := Ground.data }], guard := none }) (v := .bool false) rfl (by kernel_rfl) (by kernel_rfl) (by kernel_rfl) (fun _ _ _ h => h) (Or.inl ⟨by rfl, fun w' hSw => by clear hSw; go_simp⟩) (by assumption) ?_
            simp only [Act.put, List.setIfInBounds_toArray, List.set_cons_zero, List.set_cons_succ]
            refine wpAnyH_take (i := 5) (oi := { dst := some 62, op := Op.move (Operand.tmp 6), type := 47, pos := "law.go:216", after := #[{ on := 4, ground := Ground.guard }], guard := some (4, true) }) (v := undef) rfl (by kernel_rfl) (by kernel_rfl) (by kernel_rfl) (fun _ _ _ h => h) (Or.inr ⟨by rfl, rfl⟩) (by assumption) ?_
            simp only [Act.put, List.setIfInBounds_toArray, List.set_cons_zero, List.set_cons_succ]
            refine wpAnyH_take (i := 6) (oi := { dst := some 63, op := Op.move (Operand.tmp 10), type := 3, pos := "law.go:216", after := #[{ on := 4, ground := Ground.guard }], guard := some (4, true) }) (v := undef) rfl (by kernel_rfl) (by kernel_rfl) (by kernel_rfl) (fun _ _ _ h => h) (Or.inr ⟨by rfl, rfl⟩) (by assumption) ?_
            simp only [Act.put, List.setIfInBounds_toArray, List.set_cons_zero, List.set_cons_succ]
            refine wpAnyH_take (i := 9) (oi := { dst := some 66, op := Op.move (Operand.tmp 0), type := 47, pos := "law.go:216", after := #[{ on := 4, ground := Ground.guard }], guard := some (4, true) }) (v := undef) rfl (by kernel_rfl) (by kernel_rfl) (by kernel_rfl) (fun _ _ _ h => h) (Or.inr ⟨by rfl, rfl⟩) (by assumption) ?_
            simp only [Act.put, List.setIfInBounds_toArray, List.set_cons_zero, List.set_cons_succ]
            refine wpAnyH_take (i := 10) (oi := { dst := some 67, op := Op.move (Operand.tmp 7), type := 3, pos := "law.go:216", after := #[{ on := 4, ground := Ground.guard }], guard := some (4, true) }) (v := undef) rfl (by kernel_rfl) (by kernel_rfl) (by kernel_rfl) (fun _ _ _ h => h) (Or.inr ⟨by rfl, rfl⟩) (by assumption) ?_
            simp only [Act.put, List.setIfInBounds_toArray, List.set_cons_zero, List.set_cons_succ]
            refine wpAnyH_take (i := 7) (oi := { dst := some 64, op := Op.indexAddr 47 (Operand.tmp 62) (Operand.tmp 63), type := 0, pos := "law.go:216", after := #[{ on := 5, ground := Ground.data }, { on := 6, ground := Ground.data }, { on := 4, ground := Ground.guard }], guard := some (4, true) }) (v := undef) rfl (by kernel_rfl) (by kernel_rfl) (by kernel_rfl) (fun _ _ _ h => h) (Or.inr ⟨by rfl, rfl⟩) (by assumption) ?_
            simp only [Act.put, List.setIfInBounds_toArray, List.set_cons_zero, List.set_cons_succ]
            refine wpAnyH_take (i := 11) (oi := { dst := some 68, op := Op.indexAddr 47 (Operand.tmp 66) (Operand.tmp 67), type := 0, pos := "law.go:216", after := #[{ on := 9, ground := Ground.data }, { on := 10, ground := Ground.data }, { on := 4, ground := Ground.guard }], guard := some (4, true) }) (v := undef) rfl (by kernel_rfl) (by kernel_rfl) (by kernel_rfl) (fun _ _ _ h => h) (Or.inr ⟨by rfl, rfl⟩) (by assumption) ?_
            simp only [Act.put, List.setIfInBounds_toArray, List.set_cons_zero, List.set_cons_succ]
            refine wpAnyH_take (i := 8) (oi := { dst := some 65, op := Op.load 41 (Operand.tmp 64), type := 41, pos := "law.go:216", after := #[{ on := 7, ground := Ground.data }, { on := 4, ground := Ground.guard }], guard := some (4, true) }) (v := undef) rfl (by kernel_rfl) (by kernel_rfl) (by kernel_rfl) (fun _ _ _ h => h) (Or.inr ⟨by rfl, rfl⟩) (by assumption) ?_
            simp only [Act.put, List.setIfInBounds_toArray, List.set_cons_zero, List.set_cons_succ]
            refine wpAnyH_take (i := 12) (oi := { dst := some 69, op := Op.load 41 (Operand.tmp 68), type := 41, pos := "law.go:216", after := #[{ on := 11, ground := Ground.data }, { on := 4, ground := Ground.guard }], guard := some (4, true) }) (v := undef) rfl (by kernel_rfl) (by kernel_rfl) (by kernel_rfl) (fun _ _ _ h => h) (Or.inr ⟨by rfl, rfl⟩) (by assumption) ?_
            simp only [Act.put, List.setIfInBounds_toArray, List.set_cons_zero, List.set_cons_succ]
            refine wpAnyH_take (i := 13) (oi := { dst := some 70, op := Op.call { callee := Callee.value (Operand.func 20), args := #[Operand.tmp 65, Operand.tmp 69], argTypes := #[41, 41] }, type := 3, pos := "law.go:216", after := #[{ on := 8, ground := Ground.data }, { on := 12, ground := Ground.data }, { on := 4, ground := Ground.chain }, { on := 4, ground := Ground.guard }], guard := some (4, true) }) (v := undef) rfl (by kernel_rfl) (by kernel_rfl) (by kernel_rfl) (fun _ _ _ h => h) (Or.inr ⟨by rfl, rfl⟩) (by assumption) ?_
            simp only [Act.put, List.setIfInBounds_toArray, List.set_cons_zero, List.set_cons_succ]
            refine wpAnyH_take (i := 14) (oi := { dst := some 71, op := Op.binOp BinOp.lss 3 (Operand.tmp 70) (Operand.const (Value.int IntKind.i64 0)) 3, type := 4, pos := "law.go:216", after := #[{ on := 13, ground := Ground.data }, { on := 4, ground := Ground.guard }], guard := some (4, true) }) (v := undef) rfl (by kernel_rfl) (by kernel_rfl) (by kernel_rfl) (fun _ _ _ h => h) (Or.inr ⟨by rfl, rfl⟩) (by assumption) ?_
            simp only [Act.put, List.setIfInBounds_toArray, List.set_cons_zero, List.set_cons_succ]
            refine wpAnyH_take (i := 15) (oi := { dst := some 72, op := Op.pick (Operand.tmp 61) (Operand.tmp 71) (Operand.const (Value.bool false)), type := 4, pos := "law.go:216", after := #[{ on := 4, ground := Ground.data }, { on := 14, ground := Ground.data }], guard := none }) (v := .bool false) rfl (by kernel_rfl) (by kernel_rfl) (by kernel_rfl) (fun _ _ _ h => h) (Or.inl ⟨by rfl, fun w' hSw => by clear hSw; go_simp⟩) (by assumption) ?_
            simp only [Act.put, List.setIfInBounds_toArray, List.set_cons_zero, List.set_cons_succ]
            refine wpAnyH_done (by kernel_rfl) ?_ _
            refine NoPanic.normal ?_
            -- r11c}
            go_upto_region 13 with fail
            -- {r13c
            refine wp_region_noPanic ?_
            refine wp_region_held_drew (S := fun W => Only (fun _ => False) wr W) (by kernel_rfl) (o2 (Only.drew _ _) (Only.drew _ _)) (fun hHeld => ?_)
            refine wpAnyH_take (i := 0) (oi := { dst := some 75, op := Op.move (Operand.tmp 10), type := 3, pos := "law.go:219", after := #[], guard := none }) (v := .int .i64 (m : Int)) rfl (by kernel_rfl) (by kernel_rfl) (by kernel_rfl) (fun _ _ _ h => h) (Or.inl ⟨by rfl, fun w' hSw => by clear hSw; go_simp⟩) (by assumption) ?_
            simp only [Act.put, List.setIfInBounds_toArray, List.set_cons_zero, List.set_cons_succ]
            refine wpAnyH_take (i := 1) (oi := { dst := some 76, op := Op.move (Operand.tmp 6), type := 47, pos := "law.go:219", after := #[], guard := none }) (v := .slice va Q.length vc) rfl (by kernel_rfl) (by kernel_rfl) (by kernel_rfl) (fun _ _ _ h => h) (Or.inl ⟨by rfl, fun w' hSw => by clear hSw; go_simp⟩) (by assumption) ?_
            simp only [Act.put, List.setIfInBounds_toArray, List.set_cons_zero, List.set_cons_succ]
            refine wpAnyH_take (i := 2) (oi := { dst := some 77, op := Op.call { callee := Callee.builtin Builtin.len, args := #[Operand.tmp 76], argTypes := #[47] }, type := 3, pos := "law.go:219", after := #[{ on := 1, ground := Ground.data }], guard := none }) (v := .int .i64 (Q.length : Int)) rfl (by kernel_rfl) (by kernel_rfl) (by kernel_rfl) (fun _ _ _ h => h) (Or.inl ⟨by rfl, fun w' hSw => by clear hSw; go_simp⟩) (by assumption) ?_
            simp only [Act.put, List.setIfInBounds_toArray, List.set_cons_zero, List.set_cons_succ]
            refine wpAnyH_take (i := 3) (oi := { dst := some 78, op := Op.binOp BinOp.lss 3 (Operand.tmp 75) (Operand.tmp 77) 3, type := 4, pos := "law.go:219", after := #[{ on := 0, ground := Ground.data }, { on := 2, ground := Ground.data }], guard := none }) (v := .bool false) rfl (by kernel_rfl) (by kernel_rfl) (by kernel_rfl) (fun _ _ _ h => h) (Or.inl ⟨by rfl, fun w' hSw => by clear hSw; go_simp⟩) (by assumption) ?_
            simp only [Act.put, List.setIfInBounds_toArray, List.set_cons_zero, List.set_cons_succ]
            refine wpAnyH_take (i := 4) (oi := { dst := some 79, op := Op.move (Operand.tmp 78), type := 4, pos := "law.go:219", after := #[{ on := 3, ground := Ground.data }], guard := none }) (v := .bool false) rfl (by kernel_rfl) (by kernel_rfl) (by kernel_rfl) (fun _ _ _ h => h) (Or.inl ⟨by rfl, fun w' hSw => by clear hSw; go_simp⟩) (by assumption) ?_
            simp only [Act.put, List.setIfInBounds_toArray, List.set_cons_zero, List.set_cons_succ]
            refine wpAnyH_take (i := 5) (oi := { dst := some 80, op := Op.move (Operand.tmp 6), type := 47, pos := "law.go:219", after := #[{ on := 4, ground := Ground.guard }], guard := some (4, true) }) (v := undef) rfl (by kernel_rfl) (by kernel_rfl) (by kernel_rfl) (fun _ _ _ h => h) (Or.inr ⟨by rfl, rfl⟩) (by assumption) ?_
            simp only [Act.put, List.setIfInBounds_toArray, List.set_cons_zero, List.set_cons_succ]
            refine wpAnyH_take (i := 6) (oi := { dst := some 81, op := Op.move (Operand.tmp 10), type := 3, pos := "law.go:219", after := #[{ on := 4, ground := Ground.guard }], guard := some (4, true) }) (v := undef) rfl (by kernel_rfl) (by kernel_rfl) (by kernel_rfl) (fun _ _ _ h => h) (Or.inr ⟨by rfl, rfl⟩) (by assumption) ?_
            simp only [Act.put, List.setIfInBounds_toArray, List.set_cons_zero, List.set_cons_succ]
            refine wpAnyH_take (i := 9) (oi := { dst := some 84, op := Op.move (Operand.tmp 0), type := 47, pos := "law.go:219", after := #[{ on := 4, ground := Ground.guard }], guard := some (4, true) }) (v := undef) rfl (by kernel_rfl) (by kernel_rfl) (by kernel_rfl) (fun _ _ _ h => h) (Or.inr ⟨by rfl, rfl⟩) (by assumption) ?_
            simp only [Act.put, List.setIfInBounds_toArray, List.set_cons_zero, List.set_cons_succ]
            refine wpAnyH_take (i := 10) (oi := { dst := some 85, op := Op.move (Operand.tmp 7), type := 3, pos := "law.go:219", after := #[{ on := 4, ground := Ground.guard }], guard := some (4, true) }) (v := undef) rfl (by kernel_rfl) (by kernel_rfl) (by kernel_rfl) (fun _ _ _ h => h) (Or.inr ⟨by rfl, rfl⟩) (by assumption) ?_
            simp only [Act.put, List.setIfInBounds_toArray, List.set_cons_zero, List.set_cons_succ]
            refine wpAnyH_take (i := 7) (oi := { dst := some 82, op := Op.indexAddr 47 (Operand.tmp 80) (Operand.tmp 81), type := 0, pos := "law.go:219", after := #[{ on := 5, ground := Ground.data }, { on := 6, ground := Ground.data }, { on := 4, ground := Ground.guard }], guard := some (4, true) }) (v := undef) rfl (by kernel_rfl) (by kernel_rfl) (by kernel_rfl) (fun _ _ _ h => h) (Or.inr ⟨by rfl, rfl⟩) (by assumption) ?_
            simp only [Act.put, List.setIfInBounds_toArray, List.set_cons_zero, List.set_cons_succ]
            refine wpAnyH_take (i := 11) (oi := { dst := some 86, op := Op.indexAddr 47 (Operand.tmp 84) (Operand.tmp 85), type := 0, pos := "law.go:219", after := #[{ on := 9, ground := Ground.data }, { on := 10, ground := Ground.data }, { on := 4, ground := Ground.guard }], guard := some (4, true) }) (v := undef) rfl (by kernel_rfl) (by kernel_rfl) (by kernel_rfl) (fun _ _ _ h => h) (Or.inr ⟨by rfl, rfl⟩) (by assumption) ?_
            simp only [Act.put, List.setIfInBounds_toArray, List.set_cons_zero, List.set_cons_succ]
            refine wpAnyH_take (i := 8) (oi := { dst := some 83, op := Op.load 41 (Operand.tmp 82), type := 41, pos := "law.go:219", after := #[{ on := 7, ground := Ground.data }, { on := 4, ground := Ground.guard }], guard := some (4, true) }) (v := undef) rfl (by kernel_rfl) (by kernel_rfl) (by kernel_rfl) (fun _ _ _ h => h) (Or.inr ⟨by rfl, rfl⟩) (by assumption) ?_
            simp only [Act.put, List.setIfInBounds_toArray, List.set_cons_zero, List.set_cons_succ]
            refine wpAnyH_take (i := 12) (oi := { dst := some 87, op := Op.load 41 (Operand.tmp 86), type := 41, pos := "law.go:219", after := #[{ on := 11, ground := Ground.data }, { on := 4, ground := Ground.guard }], guard := some (4, true) }) (v := undef) rfl (by kernel_rfl) (by kernel_rfl) (by kernel_rfl) (fun _ _ _ h => h) (Or.inr ⟨by rfl, rfl⟩) (by assumption) ?_
            simp only [Act.put, List.setIfInBounds_toArray, List.set_cons_zero, List.set_cons_succ]
            refine wpAnyH_take (i := 13) (oi := { dst := some 88, op := Op.binOp BinOp.eql 41 (Operand.tmp 83) (Operand.tmp 87) 41, type := 4, pos := "law.go:219", after := #[{ on := 8, ground := Ground.data }, { on := 12, ground := Ground.data }, { on := 4, ground := Ground.guard }], guard := some (4, true) }) (v := undef) rfl (by kernel_rfl) (by kernel_rfl) (by kernel_rfl) (fun _ _ _ h => h) (Or.inr ⟨by rfl, rfl⟩) (by assumption) ?_
            simp only [Act.put, List.setIfInBounds_toArray, List.set_cons_zero, List.set_cons_succ]
            refine wpAnyH_take (i := 14) (oi := { dst := some 89, op := Op.pick (Operand.tmp 79) (Operand.tmp 88) (Operand.const (Value.bool false)), type := 4, pos := "law.go:219", after := #[{ on := 4, ground := Ground.data }, { on := 13, ground := Ground.data }], guard := none }) (v := .bool false) rfl (by kernel_rfl) (by kernel_rfl) (by kernel_rfl) (fun _ _ _ h => h) (Or.inl ⟨by rfl, fun w' hSw => by clear hSw; go_simp⟩) (by assumption) ?_
            simp only [Act.put, List.setIfInBounds_toArray, List.set_cons_zero, List.set_cons_succ]
            refine wpAnyH_done (by kernel_rfl) ?_ _
            refine NoPanic.normal ?_
            -- r13c}
            have HX6 : Hid (Only (fun _ => False) wr wr.drew.drew) := o2 (Only.drew _ _) (Only.drew _ _)
            obtain ⟨w6, hw6⟩ : ∃ x, wr.drew.drew = x := ⟨_, rfl⟩
            rw [hw6] at HX6 ⊢
            clear hw6
            have HGT : Hid (∀ y ∈ Q.drop m, q.lt y) := fun y hy => by
              rw [List.drop_of_length_le (by omega)] at hy
              cases hy
            have HEL6 := HEL.out.more (o2 HM.out HX6.out)
            have HEB6 := hide (HEB5.out.more HX6.out)
            obtain ⟨A2, hA2⟩ : ∃ A2 : Option Addr, (if vc = m then va else Option.map (fun x : Addr => x.add (m * 3)) va) = A2 := ⟨_, rfl⟩
            have hsl1 := fun W => slice_hi W va Q.length vc m (by omega)
            have hsl2 : ∀ W, (Instr.slice 47 (.slice va Q.length vc) (some (.int .i64 (m : Int))) none none).run Tryz.prog W = .ok (.slice A2 (Q.length - m) (vc - m)) W := fun W => by rw [← hA2]; exact slice_lo W va Q.length vc m hm
            obtain ⟨v6, w7, v7, w8, v8, w9, r6, r7, r8, he9, ho7, ho9⟩ := ets_three w6 va BQ Q q m A2 HEL6 hm (fun hk => by rw [← hA2, if_neg (by omega)]) (by omega) vc (vc - m)
            have HR6 := hide r6
            have HR7 := hide r7
            have HR8 := hide r8
            have HEB7 := hide (HEB6.out.more ho7)
            have HS9 : Hid (∃ g cap zs N F lo, Sa w w9 f g cap zs N F lo (fun e => e ∈ Q.take m ++ [q] ++ Q.drop m) v8 (Q.take m ++ [q] ++ Q.drop m) ∧ Bd N F (i + 1)) := ⟨_, _, _, _, _, _, ((HS4.out.more (o2 HM.out HX6.out)).fresh ho9 he9).congr (fun e => mem_ins.symm), HB4.out⟩
            have HR9 := hide (rise_ins HR.out HTK.out HGT.out)
            have HW9 : Hid (Only (fun _ => False) w w9) := o2 (o2 HW4.out (o2 HM.out HX6.out)) ho9
            have hl9 : (Q.take m ++ [q] ++ Q.drop m).length ≤ i + 1 := by simp; omega
            obtain ⟨Q9, hQ9⟩ : ∃ l, Q.take m ++ [q] ++ Q.drop m = l := ⟨_, rfl⟩
            rw [hQ9] at HS9 HR9 hl9
            clear hQ9 hA2 r6 r7 r8 he9 ho7 ho9 HEL6
            obtain ⟨e0, e1, e2, _⟩ := HEB7.out
            go_wp2_with (at_builtin; go_must (first | (refine Lib.wpList_append_run _ rfl _ _ _ _ rfl _ _ rfl rfl _ _ HR6.out ?_) | (refine Lib.wpList_append_run _ rfl _ _ _ _ rfl _ _ rfl rfl _ _ HR7.out ?_) | (refine Lib.wpList_append_run _ rfl _ _ _ _ rfl _ _ rfl rfl _ _ HR8.out ?_)))
            go_roundw
            case rel => exact ⟨i + 1, Q9, by go_num, by omega, by omega, hl9, HS9, HR9, HW9⟩
            case measure => simp [intOf]; omega
    · by_cases hend : (i : Int) < (L.length : Int)
      · have hk2 : ¬ (i : Int) < 200 := by omega
        clear hlt
        obtain ⟨w5, hw5⟩ : ∃ x, wr = x := ⟨_, rfl⟩
        rw [hw5] at HSr HW ⊢
        clear hw5 HFG
        go_upto_region 19 with fail
        go_loopw [6, 12] (fun v x wy => ∃ (k : Nat) (P : List En), x = .int .i64 (k : Int) ∧ k ≤ O.length ∧ P.length ≤ 200 ∧ Hid (∃ g cap zs N F lo, Sa w wy f g cap zs N F lo (fun e => e ∈ P) v P ∧ Bd N F 200) ∧ Hid (Rise P) ∧ Hid (Only (fun _ => False) w wy)) (fun _ x _ => O.length - (intOf x).toNat)
        case atStart => exact ⟨0, Q, rfl, by omega, by omega, hide ⟨_, _, _, _, _, _, HSr.out, HBr.out.mono (by omega)⟩, HR, HW⟩
        case round =>
          as_aux_lemma =>
            clear HSr HBr HR HW
            obtain ⟨k, P, rfl, hk, hP, HS, HRk, HWk⟩ := hrel
            obtain ⟨g, cap, zs, N, F, lo, hSa, hBd⟩ := HS.out
            have HSk := hide hSa
            have HBk := hide hBd
            obtain ⟨pa, pc, rfl⟩ := hSa.ets.form
            have hcap := hSa.ets.cap
            clear hSa hBd HS
            have hf1 : ∀ k, k = f ∨ k = g → w.heap.size ≤ k := by
              rintro k (rfl | rfl)
              · exact HSk.out.sn.f0
              · exact HSk.out.sn.g0
            have HFG := hide hf1
            clear hf1
            by_cases hkl : k < O.length ∧ 0 < P.length
            · obtain ⟨hkl1, hkl2⟩ := hkl
              have hk1 : (k : Int) < (O.length : Int) := by omega
              have hk2 : ¬ (O.length : Int) ≤ (k : Int) := by omega
              have hk3 : (0 : Int) < (P.length : Int) := by omega
              have hk4 : ¬ (P.length : Int) = 0 := by omega
              obtain ⟨oO, rfl, hcO⟩ := (HO.out.kept HWk.out (fun _ h => h)).at_ (by omega)
              have xc := hcO k hkl1
              obtain ⟨xo, hxo⟩ : ∃ xo, O[k] = xo := ⟨_, rfl⟩
              rw [hxo] at xc
              clear hxo hcO
              have ht1 := Int.lt_tmod_of_pos xo hk3
              have ht2 := Int.tmod_lt_of_pos xo hk3
              obtain ⟨t, ht⟩ : ∃ t, xo.tmod (P.length : Int) = t := ⟨_, rfl⟩
              rw [ht] at ht1 ht2
              go_upto_region 22 with fail
              clear ht xc
              go_cut [126] (fun x wx => x = .bool (decide (t < 0)) ∧ wx = wr)
              case first =>
                as_aux_lemma =>
                  by_cases hneg : t < 0
                  · go_wp2_with fail
                    go_meet
                    exact ⟨by rw [decide_eq_true hneg], rfl⟩
                  · go_wp2_with fail
                    go_meet
                    exact ⟨by rw [decide_eq_false (by omega)], rfl⟩
              case rest =>
                as_aux_lemma =>
                  obtain ⟨rfl, hwx⟩ := hcut
                  obtain rfl := hwx.symm
                  go_upto_if 126 with fail
                  go_cut [13] (fun x wx => ∃ kk : Nat, x = .int .i64 (kk : Int) ∧ kk < P.length ∧ wx = wr)
                  case first =>
                    as_aux_lemma =>
                      by_cases hneg : t < 0
                      · obtain ⟨kk, hkk⟩ : ∃ kk : Nat, t + (P.length : Int) = (kk : Int) := ⟨(t + (P.length : Int)).toNat, by omega⟩
                        rw [decide_eq_true hneg]
                        go_wp2_with fail
                        go_meet
                        exact ⟨kk, by first | rfl | go_num, by omega, rfl⟩
                      · obtain ⟨kk, hkk⟩ : ∃ kk : Nat, t = (kk : Int) := ⟨t.toNat, by omega⟩
                        rw [decide_eq_false hneg]
                        go_wp2_with fail
                        go_meet
                        exact ⟨kk, by first | rfl | rw [hkk], by omega, rfl⟩
                  case rest =>
                    as_aux_lemma =>
                      obtain ⟨kk, rfl, hkk, hwx⟩ := hcut
                      obtain rfl := hwx.symm
                      clear ht1 ht2 hk1 hk2
                      obtain ⟨BP, hels, _⟩ := HSk.out.ets.elsOf
                      obtain ⟨op, rfl, heb⟩ := hels.of kk hkk
                      obtain ⟨e, he⟩ : ∃ e, P[kk] = e := ⟨_, rfl⟩
                      rw [he] at heb
                      have HE := hide heb
                      have HIN : Hid (e ∈ P) := by rw [← he]; exact List.getElem_mem _
                      have HPE : Hid (P[kk] = e) := he
                      have HOK : Hid (e.ok = true) := HSk.out.sn.fs.aok e HIN.out
                      have HFI := hide (sn_finds HSk.out.sn HBk.out (by omega) HOK.out)
                      clear hels heb he
                      have hm1 : (kk : Int) < (P.length : Int) := by omega
                      have hm2 : ¬ (P.length : Int) ≤ (kk : Int) := by omega
                      obtain ⟨e0, e1, e2, _⟩ := HE.out
                      go_wp2_with fail
                      refine HFI.out.mono ?_
                      rintro x w6 ⟨j, rfl, hj, ho⟩
                      have HJ := hide hj
                      have HS6 := hide (HSk.out.more ho)
                      have HE6 := hide (HE.out.more ho)
                      have HW6 := hide (o2 HWk.out ho)
                      have hin : e ∈ (F j).es := (HS6.out.sn.fs.cont j hj.1 hj.2.1 e).2 ⟨HIN.out, hj.2.2.1, hj.2.2.2⟩
                      obtain ⟨z, hjl, hz, hlv, _, hrg⟩ := HS6.out.sn.leave HBk.out (by omega) HOK.out hj.1 hj.2.1
                      rw [lvV_in hin] at hlv
                      have HLV := hide hlv
                      have HRG := hide hrg
                      have HM := hide hin
                      unfold Pz.ar at HLV
                      have hj0 : ¬ (j : Int) < 1 := by have := hj.1.1; omega
                      have hj1 : (1 : Int) ≤ (j : Int) := by omega
                      have fc := HS6.out.sn.fm.cell
                      have hlen := HS6.out.sn.fz.len
                      have hnum := HBk.out.num
                      obtain ⟨n, hn⟩ : ∃ n, zs.length = n := ⟨_, rfl⟩
                      rw [hn] at fc
                      have hjn : j < n := by omega
                      have hj2 : ¬ (n : Int) ≤ (j : Int) := by omega
                      have hj3 : (j : Int) < (n : Int) := by omega
                      have hn9 : n ≤ 9999 := by omega
                      have HFB : Hid (f < w6.heap.size) := HS6.out.sn.fm.flt
                      clear ho hlv hrg hz hjl hj hn hlen hnum hin e0 e1 e2 HSk HWk HE HFI
                      go_upto_region 27 with fail
                      go_cut [15, 16] (fun x y wx => ∃ b, x = .pointer (some ⟨b, 0, none⟩) ∧ y = .int .i64 0 ∧ Hid (Rz w6 wx b ⟨4, (j : Int), e.enc, none, 0, 0⟩))
                      case first =>
                        as_aux_lemma =>
                          -- {r27A
                          refine wp_region_noPanic ?_
                          refine wp_region_held_drew (S := fun W => Only (fun _ => False) w6 W) (by kernel_rfl) (Only.drew _ _) (fun hHeld => ?_)
                          refine wpAnyH_take (i := 0) (oi := { dst := some 140, op := Op.move (Operand.tmp 5), type := 49, pos := "law.go:236", after := #[], guard := none }) (v := .pointer (some ⟨f, 0, none⟩)) rfl (by kernel_rfl) (by kernel_rfl) (by kernel_rfl) (fun _ _ _ h => h) (Or.inl ⟨by rfl, fun w' hSw => by clear hSw; go_simp⟩) (by assumption) ?_
                          simp only [Act.put, List.setIfInBounds_toArray, List.set_cons_zero, List.set_cons_succ]
                          refine wpAnyH_take (i := 4) (oi := { dst := some 144, op := Op.move (Operand.tmp 14), type := 3, pos := "law.go:236", after := #[], guard := none }) (v := .int .i64 (j : Int)) rfl (by kernel_rfl) (by kernel_rfl) (by kernel_rfl) (fun _ _ _ h => h) (Or.inl ⟨by rfl, fun w' hSw => by clear hSw; go_simp⟩) (by assumption) ?_
                          simp only [Act.put, List.setIfInBounds_toArray, List.set_cons_zero, List.set_cons_succ]
                          refine wpAnyH_take (i := 7) (oi := { dst := some 147, op := Op.move (Operand.tmp 14), type := 3, pos := "law.go:236", after := #[], guard := none }) (v := .int .i64 (j : Int)) rfl (by kernel_rfl) (by kernel_rfl) (by kernel_rfl) (fun _ _ _ h => h) (Or.inl ⟨by rfl, fun w' hSw => by clear hSw; go_simp⟩) (by assumption) ?_
                          simp only [Act.put, List.setIfInBounds_toArray, List.set_cons_zero, List.set_cons_succ]
                          refine wpAnyH_take (i := 8) (oi := { dst := some 148, op := Op.move (Operand.tmp 6), type := 47, pos := "law.go:236", after := #[], guard := none }) (v := .slice (some ⟨BP, op, none⟩) P.length pc) rfl (by kernel_rfl) (by kernel_rfl) (by kernel_rfl) (fun _ _ _ h => h) (Or.inl ⟨by rfl, fun w' hSw => by clear hSw; go_simp⟩) (by assumption) ?_
                          simp only [Act.put, List.setIfInBounds_toArray, List.set_cons_zero, List.set_cons_succ]
                          refine wpAnyH_take (i := 9) (oi := { dst := some 149, op := Op.move (Operand.tmp 13), type := 3, pos := "law.go:236", after := #[], guard := none }) (v := .int .i64 (kk : Int)) rfl (by kernel_rfl) (by kernel_rfl) (by kernel_rfl) (fun _ _ _ h => h) (Or.inl ⟨by rfl, fun w' hSw => by clear hSw; go_simp⟩) (by assumption) ?_
                          simp only [Act.put, List.setIfInBounds_toArray, List.set_cons_zero, List.set_cons_succ]
                          refine wpAnyH_take (i := 1) (oi := { dst := some 141, op := Op.nilCheck (Operand.tmp 140), type := 0, pos := "law.go:236", after := #[{ on := 0, ground := Ground.data }], guard := none }) (v := .pointer (some ⟨f, 0, none⟩)) rfl (by kernel_rfl) (by kernel_rfl) (by kernel_rfl) (fun _ _ _ h => h) (Or.inl ⟨by rfl, fun w' hSw => by clear hSw; go_simp⟩) (by assumption) ?_
                          simp only [Act.put, List.setIfInBounds_toArray, List.set_cons_zero, List.set_cons_succ]
                          refine wpAnyH_take (i := 10) (oi := { dst := some 150, op := Op.indexAddr 47 (Operand.tmp 148) (Operand.tmp 149), type := 0, pos := "law.go:236", after := #[{ on := 8, ground := Ground.data }, { on := 9, ground := Ground.data }], guard := none }) (v := .pointer (some ⟨BP, op + kk * 3, none⟩)) rfl (by kernel_rfl) (by kernel_rfl) (by kernel_rfl) (fun _ _ _ h => h) (Or.inl ⟨by rfl, fun w' hSw => by clear hSw; go_simp⟩) (by assumption) ?_
                          simp only [Act.put, List.setIfInBounds_toArray, List.set_cons_zero, List.set_cons_succ]
                          refine wpAnyH_take (i := 2) (oi := { dst := some 142, op := Op.fieldAddr 53 (Operand.tmp 141) 0, type := 0, pos := "law.go:236", after := #[{ on := 1, ground := Ground.data }], guard := none }) (v := .pointer (some ⟨f, 0, none⟩)) rfl (by kernel_rfl) (by kernel_rfl) (by kernel_rfl) (fun _ _ _ h => h) (Or.inl ⟨by rfl, fun w' hSw => by clear hSw; go_simp⟩) (by assumption) ?_
                          simp only [Act.put, List.setIfInBounds_toArray, List.set_cons_zero, List.set_cons_succ]
                          refine wpAnyH_take (i := 11) (oi := { dst := some 151, op := Op.load 41 (Operand.tmp 150), type := 41, pos := "law.go:236", after := #[{ on := 10, ground := Ground.data }], guard := none }) (v := .agg #[.string e.key, .int .i64 e.page, .int .i64 e.slot]) rfl (by kernel_rfl) (by kernel_rfl) (by kernel_rfl) (fun _ _ _ h => h) (yieldsIf_load_eb (by rfl) _ rfl rfl (fun W hW => HE6.out.more hW)) (by assumption) ?_
                          simp only [Act.put, List.setIfInBounds_toArray, List.set_cons_zero, List.set_cons_succ]
                          refine wpAnyH_take (i := 3) (oi := { dst := some 143, op := Op.load 51 (Operand.tmp 142), type := 51, pos := "law.go:236", after := #[{ on := 2, ground := Ground.data }], guard := none }) (v := .slice (some ⟨g, 0, none⟩) n cap) rfl (by kernel_rfl) (by kernel_rfl) (by kernel_rfl) (fun _ _ _ h => h) (yieldsIf_load_cell (by rfl) 51 _ rfl _ rfl (fun W hW => (hW.cell (p := ⟨f, 0, none⟩) HFB.out (fun h => h)).trans fc) (fun W hc => ld_pages hc)) (by assumption) ?_
                          simp only [Act.put, List.setIfInBounds_toArray, List.set_cons_zero, List.set_cons_succ]
                          refine wpAnyH_take (i := 5) (oi := { dst := some 145, op := Op.indexAddr 51 (Operand.tmp 143) (Operand.tmp 144), type := 0, pos := "law.go:236", after := #[{ on := 3, ground := Ground.data }, { on := 4, ground := Ground.data }], guard := none }) (v := .pointer (some ⟨g, j * 6, none⟩)) rfl (by kernel_rfl) (by kernel_rfl) (by kernel_rfl) (fun _ _ _ h => h) (Or.inl ⟨by rfl, fun w' hSw => by clear hSw; go_simp⟩) (by assumption) ?_
                          simp only [Act.put, List.setIfInBounds_toArray, List.set_cons_zero, List.set_cons_succ]
                          refine wpAnyH_take (i := 6) (oi := { dst := some 146, op := Op.load 24 (Operand.tmp 145), type := 24, pos := "law.go:236", after := #[{ on := 5, ground := Ground.data }], guard := none }) (v := .agg #[.int .i64 z.p.lsn, .int .i64 z.p.kind, .int .i64 z.p.level, .int .i64 z.p.right, .string z.p.high, .slice z.ao z.p.items.length z.cp]) rfl (by kernel_rfl) (by kernel_rfl) (by kernel_rfl) (fun _ _ _ h => h) (yieldsIf_load_pz (by rfl) _ rfl rfl (fun W hW => HRG.out.more hW)) (by assumption) ?_
                          simp only [Act.put, List.setIfInBounds_toArray, List.set_cons_zero, List.set_cons_succ]
                          refine wpAnyH_ready (rs := [12, 16]) (by kernel_rfl) (by simp) ?_
                          refine AllReadyH.cons (o := { dst := some 152, op := Op.call { callee := Callee.value (Operand.func 21), args := #[Operand.tmp 146, Operand.tmp 147, Operand.tmp 151], argTypes := #[24, 3, 41] }, type := 37, pos := "law.go:236", after := #[{ on := 6, ground := Ground.data }, { on := 7, ground := Ground.data }, { on := 11, ground := Ground.data }], guard := none }) rfl (fun K hK => ?_) (AllReadyH.cons (o := { dst := some 15, op := Op.alloc 36, type := 0, pos := "law.go:236", after := #[], guard := none }) rfl (fun K hK => ?_) (AllReadyH.nil))
                          · go_simp
                            refine (HLV.out _ hHeld).mono ?_
                            rintro x x1 ⟨rfl, hox⟩
                            have HX1 := hide (o2 hHeld hox)
                            clear hox
                            refine hK.out _ _ (HX1.out) (fun hHeld => ?_)
                            clear hK K
                            try simp only [Act.put, List.setIfInBounds_toArray, List.set_cons_zero, List.set_cons_succ]
                            refine wpAnyH_take (i := 13) (oi := { dst := some 139, op := Op.move (Operand.tmp 152), type := 37, pos := "law.go:236", after := #[{ on := 12, ground := Ground.data }], guard := none }) (v := .tuple #[.agg #[.int .i64 0, .int .i64 0, .int .i64 0, .int .u8 4, .int .i64 0, .int .i64 (j : Int), .int .i64 0, .int .i64 0, .int .i64 0, .int .i64 0, .string e.enc, .slice none 0 0, .slice none 0 0, .slice none 0 0, .slice none 0 0, .slice none 0 0], .int .i64 0]) rfl (by kernel_rfl) (by kernel_rfl) (by kernel_rfl) (fun _ _ _ h => h) (Or.inl ⟨by rfl, fun w' hSw => by clear hSw; go_simp⟩) (by assumption) ?_
                            simp only [Act.put, List.setIfInBounds_toArray, List.set_cons_zero, List.set_cons_succ]
                            refine wpAnyH_take (i := 14) (oi := { dst := some 153, op := Op.extract (Operand.tmp 139) 0, type := 36, pos := "law.go:236", after := #[{ on := 13, ground := Ground.data }], guard := none }) (v := .agg #[.int .i64 0, .int .i64 0, .int .i64 0, .int .u8 4, .int .i64 0, .int .i64 (j : Int), .int .i64 0, .int .i64 0, .int .i64 0, .int .i64 0, .string e.enc, .slice none 0 0, .slice none 0 0, .slice none 0 0, .slice none 0 0, .slice none 0 0]) rfl (by kernel_rfl) (by kernel_rfl) (by kernel_rfl) (fun _ _ _ h => h) (Or.inl ⟨by rfl, fun w' hSw => by clear hSw; go_simp⟩) (by assumption) ?_
                            simp only [Act.put, List.setIfInBounds_toArray, List.set_cons_zero, List.set_cons_succ]
                            refine wpAnyH_take (i := 15) (oi := { dst := some 154, op := Op.extract (Operand.tmp 139) 1, type := 28, pos := "law.go:236", after := #[{ on := 13, ground := Ground.data }, { on := 17, ground := Ground.gcOnly Departure.lateStores }], guard := none }) (v := .int .i64 0) rfl (by kernel_rfl) (by kernel_rfl) (by kernel_rfl) (fun _ _ _ h => h) (Or.inl ⟨by rfl, fun w' hSw => by clear hSw; go_simp⟩) (by assumption) ?_
                            simp only [Act.put, List.setIfInBounds_toArray, List.set_cons_zero, List.set_cons_succ]
                            refine wpAnyH_ready (rs := [16]) (by kernel_rfl) (by simp) ?_
                            refine AllReadyH.cons (o := { dst := some 15, op := Op.alloc 36, type := 0, pos := "law.go:236", after := #[], guard := none }) rfl (fun K hK => ?_) (AllReadyH.nil)
                            go_simp
                            have HRB := hide (Rg.new x1 Br.none.cells 36)
                            have HX2 := hide (o2 HX1.out (onlyA x1 (.cells Br.none.cells 36)))
                            refine hK.out _ _ (HX2.out) (fun hHeld => ?_)
                            clear hK K
                            try simp only [Act.put, List.setIfInBounds_toArray, List.set_cons_zero, List.set_cons_succ]
                            refine wpAnyH_ready (rs := [17]) (by kernel_rfl) (by simp) ?_
                            refine AllReadyH.cons (o := { dst := none, op := Op.store 36 (Operand.tmp 15) (Operand.tmp 153), type := 0, pos := "law.go:236", after := #[{ on := 16, ground := Ground.data }, { on := 14, ground := Ground.data }, { on := 12, ground := Ground.chain }, { on := 0, ground := Ground.phase }, { on := 1, ground := Ground.phase }, { on := 2, ground := Ground.phase }, { on := 3, ground := Ground.phase }, { on := 4, ground := Ground.phase }, { on := 5, ground := Ground.phase }, { on := 6, ground := Ground.phase }, { on := 7, ground := Ground.phase }, { on := 8, ground := Ground.phase }, { on := 9, ground := Ground.phase }, { on := 10, ground := Ground.phase }, { on := 11, ground := Ground.phase }, { on := 12, ground := Ground.phase }, { on := 13, ground := Ground.phase }, { on := 14, ground := Ground.phase }, { on := 15, ground := Ground.textOnly Departure.lateStores }, { on := 16, ground := Ground.phase }], guard := none }) rfl (fun K hK => ?_) (AllReadyH.nil)
                            refine wp_store_mid 36 (.tmp 15) (.tmp 153) rfl (x1.heap.size) 0 (Br.cells ⟨4, (j : Int), e.enc, none, 0, 0⟩) rfl rfl (by exact HRB.out.there) Tryz.sizeRecB (by simp [Value.oneCell']) ?_
                            have HRZ := hide (Rz.of ⟨4, (j : Int), e.enc, none, 0, 0⟩ HRB.out HX2.out HX1.out.size)
                            refine hK.out _ _ (HRZ.out.only) (fun hHeld => ?_)
                            clear hK K
                            simp only [Act.put]
                            refine wpAnyH_take (i := 18) (oi := { dst := some 16, op := Op.assign (Operand.tmp 154), type := 28, pos := "law.go:236", after := #[{ on := 15, ground := Ground.data }, { on := 17, ground := Ground.chain }, { on := 0, ground := Ground.phase }, { on := 1, ground := Ground.phase }, { on := 2, ground := Ground.phase }, { on := 3, ground := Ground.phase }, { on := 4, ground := Ground.phase }, { on := 5, ground := Ground.phase }, { on := 6, ground := Ground.phase }, { on := 7, ground := Ground.phase }, { on := 8, ground := Ground.phase }, { on := 9, ground := Ground.phase }, { on := 10, ground := Ground.phase }, { on := 11, ground := Ground.phase }, { on := 12, ground := Ground.phase }, { on := 13, ground := Ground.phase }, { on := 14, ground := Ground.phase }, { on := 15, ground := Ground.phase }, { on := 16, ground := Ground.phase }, { on := 17, ground := Ground.phase }], guard := none }) (v := .int .i64 0) rfl (by kernel_rfl) (by kernel_rfl) (by kernel_rfl) (fun _ _ _ h => h) (Or.inl ⟨by rfl, fun w' hSw => by clear hSw; go_simp⟩) (by assumption) ?_
                            simp only [Act.put, List.setIfInBounds_toArray, List.set_cons_zero, List.set_cons_succ]
                            refine wpAnyH_done (by kernel_rfl) ?_ _
                            refine NoPanic.normal ?_
                            go_wp2_with fail
                            go_meet
                            exact ⟨_, rfl, rfl, HRZ⟩
                          · go_simp
                            have HRA : Hid (Rg ((w6.alloc (.cells Br.none.cells 36)).drew) w6.heap.size 0 Br.none.cl) := (Rg.new w6 Br.none.cells 36).more (Only.drew _ _)
                            have HXA : Hid (Only (fun _ => False) w6 ((w6.alloc (.cells Br.none.cells 36)).drew)) := o2 (onlyA _ _) (Only.drew _ _)
                            refine hK.out _ _ (HXA.out) (fun hHeld => ?_)
                            clear hK K
                            try simp only [Act.put, List.setIfInBounds_toArray, List.set_cons_zero, List.set_cons_succ]
                            refine wpAnyH_ready (rs := [12]) (by kernel_rfl) (by simp) ?_
                            refine AllReadyH.cons (o := { dst := some 152, op := Op.call { callee := Callee.value (Operand.func 21), args := #[Operand.tmp 146, Operand.tmp 147, Operand.tmp 151], argTypes := #[24, 3, 41] }, type := 37, pos := "law.go:236", after := #[{ on := 6, ground := Ground.data }, { on := 7, ground := Ground.data }, { on := 11, ground := Ground.data }], guard := none }) rfl (fun K hK => ?_) (AllReadyH.nil)
                            go_simp
                            refine (HLV.out _ hHeld).mono ?_
                            rintro x x1 ⟨rfl, hox⟩
                            have HX1 := hide (o2 hHeld hox)
                            have HRB := hide (HRA.out.more hox)
                            have HX2 := hide HX1.out
                            clear hox
                            refine hK.out _ _ (HX1.out) (fun hHeld => ?_)
                            clear hK K
                            try simp only [Act.put, List.setIfInBounds_toArray, List.set_cons_zero, List.set_cons_succ]
                            refine wpAnyH_take (i := 13) (oi := { dst := some 139, op := Op.move (Operand.tmp 152), type := 37, pos := "law.go:236", after := #[{ on := 12, ground := Ground.data }], guard := none }) (v := .tuple #[.agg #[.int .i64 0, .int .i64 0, .int .i64 0, .int .u8 4, .int .i64 0, .int .i64 (j : Int), .int .i64 0, .int .i64 0, .int .i64 0, .int .i64 0, .string e.enc, .slice none 0 0, .slice none 0 0, .slice none 0 0, .slice none 0 0, .slice none 0 0], .int .i64 0]) rfl (by kernel_rfl) (by kernel_rfl) (by kernel_rfl) (fun _ _ _ h => h) (Or.inl ⟨by rfl, fun w' hSw => by clear hSw; go_simp⟩) (by assumption) ?_
                            simp only [Act.put, List.setIfInBounds_toArray, List.set_cons_zero, List.set_cons_succ]
                            refine wpAnyH_take (i := 14) (oi := { dst := some 153, op := Op.extract (Operand.tmp 139) 0, type := 36, pos := "law.go:236", after := #[{ on := 13, ground := Ground.data }], guard := none }) (v := .agg #[.int .i64 0, .int .i64 0, .int .i64 0, .int .u8 4, .int .i64 0, .int .i64 (j : Int), .int .i64 0, .int .i64 0, .int .i64 0, .int .i64 0, .string e.enc, .slice none 0 0, .slice none 0 0, .slice none 0 0, .slice none 0 0, .slice none 0 0]) rfl (by kernel_rfl) (by kernel_rfl) (by kernel_rfl) (fun _ _ _ h => h) (Or.inl ⟨by rfl, fun w' hSw => by clear hSw; go_simp⟩) (by assumption) ?_
                            simp only [Act.put, List.setIfInBounds_toArray, List.set_cons_zero, List.set_cons_succ]
                            refine wpAnyH_take (i := 15) (oi := { dst := some 154, op := Op.extract (Operand.tmp 139) 1, type := 28, pos := "law.go:236", after := #[{ on := 13, ground := Ground.data }, { on := 17, ground := Ground.gcOnly Departure.lateStores }], guard := none }) (v := .int .i64 0) rfl (by kernel_rfl) (by kernel_rfl) (by kernel_rfl) (fun _ _ _ h => h) (Or.inl ⟨by rfl, fun w' hSw => by clear hSw; go_simp⟩) (by assumption) ?_
                            simp only [Act.put, List.setIfInBounds_toArray, List.set_cons_zero, List.set_cons_succ]
                            refine wpAnyH_ready (rs := [17]) (by kernel_rfl) (by simp) ?_
                            refine AllReadyH.cons (o := { dst := none, op := Op.store 36 (Operand.tmp 15) (Operand.tmp 153), type := 0, pos := "law.go:236", after := #[{ on := 16, ground := Ground.data }, { on := 14, ground := Ground.data }, { on := 12, ground := Ground.chain }, { on := 0, ground := Ground.phase }, { on := 1, ground := Ground.phase }, { on := 2, ground := Ground.phase }, { on := 3, ground := Ground.phase }, { on := 4, ground := Ground.phase }, { on := 5, ground := Ground.phase }, { on := 6, ground := Ground.phase }, { on := 7, ground := Ground.phase }, { on := 8, ground := Ground.phase }, { on := 9, ground := Ground.phase }, { on := 10, ground := Ground.phase }, { on := 11, ground := Ground.phase }, { on := 12, ground := Ground.phase }, { on := 13, ground := Ground.phase }, { on := 14, ground := Ground.phase }, { on := 15, ground := Ground.textOnly Departure.lateStores }, { on := 16, ground := Ground.phase }], guard := none }) rfl (fun K hK => ?_) (AllReadyH.nil)
                            refine wp_store_mid 36 (.tmp 15) (.tmp 153) rfl (w6.heap.size) 0 (Br.cells ⟨4, (j : Int), e.enc, none, 0, 0⟩) rfl rfl (by exact HRB.out.there) Tryz.sizeRecB (by simp [Value.oneCell']) ?_
                            have HRZ := hide (Rz.of ⟨4, (j : Int), e.enc, none, 0, 0⟩ HRB.out HX2.out (Nat.le_refl _))
                            refine hK.out _ _ (HRZ.out.only) (fun hHeld => ?_)
                            clear hK K
                            simp only [Act.put]
                            refine wpAnyH_take (i := 18) (oi := { dst := some 16, op := Op.assign (Operand.tmp 154), type := 28, pos := "law.go:236", after := #[{ on := 15, ground := Ground.data }, { on := 17, ground := Ground.chain }, { on := 0, ground := Ground.phase }, { on := 1, ground := Ground.phase }, { on := 2, ground := Ground.phase }, { on := 3, ground := Ground.phase }, { on := 4, ground := Ground.phase }, { on := 5, ground := Ground.phase }, { on := 6, ground := Ground.phase }, { on := 7, ground := Ground.phase }, { on := 8, ground := Ground.phase }, { on := 9, ground := Ground.phase }, { on := 10, ground := Ground.phase }, { on := 11, ground := Ground.phase }, { on := 12, ground := Ground.phase }, { on := 13, ground := Ground.phase }, { on := 14, ground := Ground.phase }, { on := 15, ground := Ground.phase }, { on := 16, ground := Ground.phase }, { on := 17, ground := Ground.phase }], guard := none }) (v := .int .i64 0) rfl (by kernel_rfl) (by kernel_rfl) (by kernel_rfl) (fun _ _ _ h => h) (Or.inl ⟨by rfl, fun w' hSw => by clear hSw; go_simp⟩) (by assumption) ?_
                            simp only [Act.put, List.setIfInBounds_toArray, List.set_cons_zero, List.set_cons_succ]
                            refine wpAnyH_done (by kernel_rfl) ?_ _
                            refine NoPanic.normal ?_
                            go_wp2_with fail
                            go_meet
                            exact ⟨_, rfl, rfl, HRZ⟩
                          -- r27A}
                      case rest =>
                        as_aux_lemma =>
                          obtain ⟨b, rfl, rfl, HRZ⟩ := hcut
                          have HS7 := hide (HS6.out.more HRZ.out.only)
                          have HW7 := hide (o2 HW6.out HRZ.out.only)
                          have HRC := hide HRZ.out.at_
                          have HDO := hide (sa_out HS7.out HBk.out (by omega) HOK.out HJ.out.1 HJ.out.2.1 HM.out)
                          clear fc HS6 HW6 HRZ HLV HRG
                          go_wp2_with (refine wpList_loadg_br rfl (.tmp 15) rfl b rfl ⟨4, (j : Int), e.enc, none, 0, 0⟩ HRC.out ?_; go_frame)
                          refine HDO.out.mono ?_
                          rintro x w8 ⟨rfl, g8, cap8, zs8, F8, hs8, hb8, ho8⟩
                          have HW8 : Hid (Only (fun _ => False) w w8) := HW7.out.trans ho8 (fun k hk z => by have := HFG.out k z; omega)
                          obtain ⟨BR, hel8, _⟩ := hs8.ets.elsOf
                          obtain ⟨A2, hA2⟩ : ∃ A2 : Option Addr, (if pc = kk + 1 then (some (⟨BP, op, none⟩ : Addr)) else Option.map (fun x : Addr => x.add ((kk + 1) * 3)) (some (⟨BP, op, none⟩ : Addr))) = A2 := ⟨_, rfl⟩
                          have hsl1 := fun W => slice_hi W (some (⟨BP, op, none⟩ : Addr)) P.length pc kk (by omega)
                          have hsl2 : ∀ W, (Instr.slice 47 (.slice (some ⟨BP, op, none⟩) P.length pc) (some (.int .i64 ((kk : Int) + 1))) none none).run Tryz.prog W = .ok (.slice A2 (P.length - (kk + 1)) (pc - (kk + 1))) W := fun W => by
                            rw [← hA2]
                            exact slice_lo W (some (⟨BP, op, none⟩ : Addr)) P.length pc (kk + 1) (by omega)
                          obtain ⟨v6, w9, v7, wt, r6, r7, he9, ho9⟩ := ets_two w8 (some (⟨BP, op, none⟩ : Addr)) BR P kk A2 hel8 hkk (fun hk => by rw [← hA2, if_neg (by omega)]) (by omega) pc (pc - (kk + 1))
                          have HR6 := hide r6
                          have HR7 := hide r7
                          have HS9 : Hid (∃ g cap zs N F lo, Sa w wt f g cap zs N F lo (fun e => e ∈ P.take kk ++ P.drop (kk + 1)) v7 (P.take kk ++ P.drop (kk + 1)) ∧ Bd N F 200) := ⟨_, _, _, _, _, _, (hs8.fresh ho9 he9).congr (fun y => by rw [mem_out HRk.out hkk y, HPE.out]), hb8⟩
                          have HR9 := hide (rise_out (k := kk) HRk.out)
                          have HW9 : Hid (Only (fun _ => False) w wt) := o2 HW8.out ho9
                          have hl9 : (P.take kk ++ P.drop (kk + 1)).length ≤ 200 := by simp; omega
                          obtain ⟨P9, hP9⟩ : ∃ l, P.take kk ++ P.drop (kk + 1) = l := ⟨_, rfl⟩
                          rw [hP9] at HS9 HR9 hl9
                          clear hP9 hA2 r6 r7 he9 ho9 hs8 hb8 ho8 hel8 HS7 HW7 HRC HDO
                          go_wp2_with (at_builtin; go_must (first | (refine Lib.wpList_append_run _ rfl _ _ _ _ rfl _ _ rfl rfl _ _ HR6.out ?_) | (refine Lib.wpList_append_run _ rfl _ _ _ _ rfl _ _ rfl rfl _ _ HR7.out ?_)))
                          go_roundw
                          case rel => exact ⟨k + 1, P9, by go_num, by omega, hl9, HS9, HR9, HW9⟩
                          case measure => simp [intOf]; omega
            · by_cases hk1 : (k : Int) < (O.length : Int)
              · have hk2 : ¬ (0 : Int) < (P.length : Int) := by omega
                clear hkl
                obtain ⟨w5, hw5⟩ : ∃ x, wr = x := ⟨_, rfl⟩
                rw [hw5] at HSk HWk ⊢
                clear hw5 HFG
                have HFI : Hid (Calls Tryz.prog 18 #[.pointer (some ⟨f, 0, none⟩), .int .i64 0, .agg #[.string ⟨#[0]⟩, .int .i64 0, .int .i64 0]] w5 fun x w' => ∃ j : Nat, x = .returned (.int .i64 j) ∧ (pg N j ∧ (F j).lv = 0 ∧ (lo j).lt e00 ∧ byd (F j).hi e00 = false) ∧ Only (fun _ => False) w5 w') := sn_finds HSk.out.sn HBk.out (by omega) e00_ok
                go_wp2_with fail
                refine HFI.out.mono ?_
                rintro x w6 ⟨j0, rfl, hj, ho⟩
                have HS6 := hide (HSk.out.more ho)
                have HW6 := hide (o2 HWk.out ho)
                have hlo : lo j0 = noE := scan_first HS6.out.sn.fs hj.1 hj.2.2.1
                have HST : Hid (pg N j0 ∧ (F j0).lv = 0 ∧ upTo (lo j0) P = []) := ⟨hj.1, hj.2.1, by rw [hlo]; exact upTo_least (fun e he => HS6.out.sn.fs.aok e he)⟩
                have hN : N ≤ 5402 := by have := HBk.out.num; omega
                clear ho hj hlo HFI HSk HWk
                go_upto_region 36 with fail
                go_loopw [18, 19, 20] (fun x v y wy => ∃ (j k : Nat) (SE : List En), x = .int .i64 (j : Int) ∧ y = .int .i64 (k : Int) ∧ k ≤ 5403 ∧ Hid ((j = 0 ∧ SE = P) ∨ (pg N j ∧ (F j).lv = 0 ∧ SE = upTo (lo j) P ∧ k + mu N F lo j ≤ N)) ∧ Hid (Ets wy w6.heap.size v SE) ∧ Hid (Only (fun _ => False) w6 wy)) (fun _ _ y _ => 10000 - (intOf y).toNat)
                case atStart => exact ⟨j0, 0, [], rfl, rfl, by omega, hide (.inr ⟨HST.out.1, HST.out.2.1, HST.out.2.2.symm, by have := mu_le N F lo j0; omega⟩), hide (Ets.nil _ _), hide (Only.refl _ _)⟩
                case round =>
                  as_aux_lemma =>
                    clear HST
                    obtain ⟨j, k, SE, rfl, rfl, hk, HD, HE, HY⟩ := hrel
                    obtain ⟨sa, sc, rfl⟩ := HE.out.form
                    have hk9 : (k : Int) < 10000 := by omega
                    have HSj := hide (HS6.out.more HY.out)
                    rcases HD.out with ⟨hj0, hse⟩ | ⟨hjp, hjv, hse, hmu⟩
                    · subst hj0
                      subst hse
                      clear HD
                      obtain ⟨B1, hl1, _⟩ := HE.out.elsOf
                      obtain ⟨B2, hl2, _⟩ := HSj.out.ets.elsOf
                      have HH := hide (ahits_same wr B1 B2 SE.length sc pc sa pa SE hl1 hl2 rfl (by omega))
                      clear hl1 hl2
                      go_wp2_with fail
                      refine HH.out.mono ?_
                      rintro x w7 ⟨rfl, ho⟩
                      have HO7 := hide (o2 (o2 HW6.out HY.out) ho)
                      clear ho
                      go_wp2_with fail
                      refine (HAW.out _).mono ?_
                      rintro x w8 ⟨rfl, ho⟩
                      have HO8 := hide (o2 HO7.out ho)
                      clear ho
                      go_wp2_with fail
                      go_ret
                      exact ⟨rfl, HO8.out⟩
                    · have hj1 : (0 : Int) < (j : Int) := by have := hjp.1; omega
                      obtain ⟨z, hjl, hz, hht, hrg, hrt⟩ := HSj.out.sn.hits HBk.out (by omega) e00_ok hjp hjv ⟨#[]⟩ ⟨#[]⟩
                      unfold HtR at hht
                      rw [hits_all, goOn_all, Bool.and_true] at hht
                      have hnx := scan_next HSj.out.sn.fs HRk.out hjp hjv
                      rw [← hse] at hnx
                      have hfc := fun (W : World) (h : Only (fun _ => False) w6 W) => (HS6.out.more h).sn.fm.cell
                      have hrr := fun (W : World) (h : Only (fun _ => False) w6 W) => (HS6.out.more h).sn.fm.rg j hjl
                      have hlen := HSj.out.sn.fz.len
                      rw [hz] at hrr
                      obtain ⟨EJ, hEJ⟩ : ∃ l, (F j).es = l := ⟨_, rfl⟩
                      obtain ⟨R, hR⟩ : ∃ R, (F j).rt = R := ⟨_, rfl⟩
                      rw [hEJ, hR] at hht hnx
                      rw [hR] at hrt
                      have hel : (SE ++ EJ).length ≤ 200 := by
                        rcases hnx with ⟨_, q⟩ | ⟨_, q, _⟩
                        · rw [q]; exact hP
                        · rw [q]; exact Nat.le_trans (List.length_filter_le _ _) hP
                      rw [List.length_append] at hel
                      have HNX : Hid ((R = 0 ∧ SE ++ EJ = P) ∨ (pg N R ∧ (F R).lv = 0 ∧ SE ++ EJ = upTo (lo R) P ∧ (k + 1) + mu N F lo R ≤ N)) := by
                        rcases hnx with q | ⟨q1, q2, q3, q4⟩
                        · exact .inl q
                        · exact .inr ⟨q1, q3, q2, by omega⟩
                      obtain ⟨n, hn⟩ : ∃ n, zs.length = n := ⟨_, rfl⟩
                      rw [hn] at hfc
                      have hjn : j < n := by have := hjp.2; omega
                      have hj2 : ¬ (n : Int) ≤ (j : Int) := by omega
                      have hj3 : (j : Int) < (n : Int) := by omega
                      have hn9 : n ≤ 9999 := by omega
                      have hkN : k + 1 ≤ 5403 := by omega
                      have HFC := hide hfc
                      have HRR := hide hrr
                      have HHT := hide hht
                      unfold Pz.ar at HHT
                      rw [hrt] at HHT
                      have fc := HFC.out _ HY.out
                      have HG := hide (HRR.out _ HY.out)
                      have c0 := HG.out.cell 0 (.int .i64 z.p.lsn) rfl
                      have c1 := HG.out.cell 1 (.int .i64 z.p.kind) rfl
                      have c2 := HG.out.cell 2 (.int .i64 z.p.level) rfl
                      have c3 := HG.out.cell 3 (.int .i64 z.p.right) rfl
                      have c4 := HG.out.cell 4 (.string z.p.high) rfl
                      have c5 := HG.out.cell 5 (.slice z.ao z.p.items.length z.cp) rfl
                      rw [Nat.add_zero] at c0
                      rw [hrt] at c3
                      have HRT := hide hrt
                      clear hht hrg hrt hz hfc hrr hn hlen hEJ hR hnx hse hmu hjp hjv HD hjl
                      go_wp2_with fail
                      refine (HHT.out _ (Only.refl _ _)).mono ?_
                      rintro x w7 ⟨A8, C8, rfl, het, hox⟩
                      have HY7 := hide (o2 HY.out hox)
                      obtain ⟨B8, hl8, _⟩ := het.elsOf
                      obtain ⟨A9, C9, w9, r9, he9, ho9, _⟩ := ets_app w7 w6.heap.size (.slice sa SE.length sc) SE (HE.out.more hox) A8 EJ.length C8 EJ rfl B8 hl8 (by omega) HY7.out.size
                      have HE9 := hide he9
                      have HR9 := hide r9
                      have HY9 : Hid (Only (fun _ => False) w6 w9) := HY7.out.trans ho9 (fun q hq e => by have := (World.ownsRow.lt HE.out q e).1; omega)
                      have fc7 := HFC.out _ HY7.out
                      have fc9 := HFC.out _ HY9.out
                      have d7 := (HRR.out _ HY7.out).cell 3 (.int .i64 z.p.right) rfl
                      have d9 := (HRR.out _ HY9.out).cell 3 (.int .i64 z.p.right) rfl
                      rw [HRT.out] at d7 d9
                      clear hox het hl8 r9 he9 ho9 fc c0 c1 c2 c3 c4 c5 HHT HG
                      by_cases hR0 : R = 0
                      · subst hR0
                        have HN0 : Hid (SE ++ EJ = P) := by
                          rcases HNX.out with q | q
                          · exact q.2
                          · have := q.1.1
                            omega
                        clear HNX
                        go_wp2_with (at_builtin; go_must (refine Lib.wpList_append_run _ rfl _ _ _ _ rfl _ _ rfl rfl _ _ HR9.out ?_))
                        go_roundw
                        case rel => exact ⟨0, k + 1, SE ++ EJ, rfl, by go_num, hkN, hide (.inl ⟨rfl, HN0.out⟩), HE9, HY9⟩
                        case measure => simp [intOf]; omega
                      · have hd : decide (R ≠ 0) = true := decide_eq_true hR0
                        rw [hd]
                        have hr1 : ((R : Int) == 0) = false := by simpa using hR0
                        have hr2 : ((R : Int) != 0) = true := by simpa using hR0
                        have hr3 : ¬ (R : Int) = 0 := by omega
                        clear hd
                        go_wp2_with (at_builtin; go_must (refine Lib.wpList_append_run _ rfl _ _ _ _ rfl _ _ rfl rfl _ _ HR9.out ?_))
                        go_roundw
                        case rel => exact ⟨R, k + 1, SE ++ EJ, rfl, by go_num, hkN, HNX, HE9, HY9⟩
                        case measure => simp [intOf]; omega
              · clear hkl
                obtain ⟨w5, hw5⟩ : ∃ x, wr = x := ⟨_, rfl⟩
                rw [hw5] at HSk HWk ⊢
                clear hw5 HFG
                have HFI : Hid (Calls Tryz.prog 18 #[.pointer (some ⟨f, 0, none⟩), .int .i64 0, .agg #[.string ⟨#[0]⟩, .int .i64 0, .int .i64 0]] w5 fun x w' => ∃ j : Nat, x = .returned (.int .i64 j) ∧ (pg N j ∧ (F j).lv = 0 ∧ (lo j).lt e00 ∧ byd (F j).hi e00 = false) ∧ Only (fun _ => False) w5 w') := sn_finds HSk.out.sn HBk.out (by omega) e00_ok
                go_wp2_with fail
                refine HFI.out.mono ?_
                rintro x w6 ⟨j0, rfl, hj, ho⟩
                have HS6 := hide (HSk.out.more ho)
                have HW6 := hide (o2 HWk.out ho)
                have hlo : lo j0 = noE := scan_first HS6.out.sn.fs hj.1 hj.2.2.1
                have HST : Hid (pg N j0 ∧ (F j0).lv = 0 ∧ upTo (lo j0) P = []) := ⟨hj.1, hj.2.1, by rw [hlo]; exact upTo_least (fun e he => HS6.out.sn.fs.aok e he)⟩
                have hN : N ≤ 5402 := by have := HBk.out.num; omega
                clear ho hj hlo HFI HSk HWk
                go_upto_region 36 with fail
                go_loopw [18, 19, 20] (fun x v y wy => ∃ (j k : Nat) (SE : List En), x = .int .i64 (j : Int) ∧ y = .int .i64 (k : Int) ∧ k ≤ 5403 ∧ Hid ((j = 0 ∧ SE = P) ∨ (pg N j ∧ (F j).lv = 0 ∧ SE = upTo (lo j) P ∧ k + mu N F lo j ≤ N)) ∧ Hid (Ets wy w6.heap.size v SE) ∧ Hid (Only (fun _ => False) w6 wy)) (fun _ _ y _ => 10000 - (intOf y).toNat)
                case atStart => exact ⟨j0, 0, [], rfl, rfl, by omega, hide (.inr ⟨HST.out.1, HST.out.2.1, HST.out.2.2.symm, by have := mu_le N F lo j0; omega⟩), hide (Ets.nil _ _), hide (Only.refl _ _)⟩
                case round =>
                  as_aux_lemma =>
                    clear HST
                    obtain ⟨j, k, SE, rfl, rfl, hk, HD, HE, HY⟩ := hrel
                    obtain ⟨sa, sc, rfl⟩ := HE.out.form
                    have hk9 : (k : Int) < 10000 := by omega
                    have HSj := hide (HS6.out.more HY.out)
                    rcases HD.out with ⟨hj0, hse⟩ | ⟨hjp, hjv, hse, hmu⟩
                    · subst hj0
                      subst hse
                      clear HD
                      obtain ⟨B1, hl1, _⟩ := HE.out.elsOf
                      obtain ⟨B2, hl2, _⟩ := HSj.out.ets.elsOf
                      have HH := hide (ahits_same wr B1 B2 SE.length sc pc sa pa SE hl1 hl2 rfl (by omega))
                      clear hl1 hl2
                      go_wp2_with fail
                      refine HH.out.mono ?_
                      rintro x w7 ⟨rfl, ho⟩
                      have HO7 := hide (o2 (o2 HW6.out HY.out) ho)
                      clear ho
                      go_wp2_with fail
                      refine (HAW.out _).mono ?_
                      rintro x w8 ⟨rfl, ho⟩
                      have HO8 := hide (o2 HO7.out ho)
                      clear ho
                      go_wp2_with fail
                      go_ret
                      exact ⟨rfl, HO8.out⟩
                    · have hj1 : (0 : Int) < (j : Int) := by have := hjp.1; omega
                      obtain ⟨z, hjl, hz, hht, hrg, hrt⟩ := HSj.out.sn.hits HBk.out (by omega) e00_ok hjp hjv ⟨#[]⟩ ⟨#[]⟩
                      unfold HtR at hht
                      rw [hits_all, goOn_all, Bool.and_true] at hht
                      have hnx := scan_next HSj.out.sn.fs HRk.out hjp hjv
                      rw [← hse] at hnx
                      have hfc := fun (W : World) (h : Only (fun _ => False) w6 W) => (HS6.out.more h).sn.fm.cell
                      have hrr := fun (W : World) (h : Only (fun _ => False) w6 W) => (HS6.out.more h).sn.fm.rg j hjl
                      have hlen := HSj.out.sn.fz.len
                      rw [hz] at hrr
                      obtain ⟨EJ, hEJ⟩ : ∃ l, (F j).es = l := ⟨_, rfl⟩
                      obtain ⟨R, hR⟩ : ∃ R, (F j).rt = R := ⟨_, rfl⟩
                      rw [hEJ, hR] at hht hnx
                      rw [hR] at hrt
                      have hel : (SE ++ EJ).length ≤ 200 := by
                        rcases hnx with ⟨_, q⟩ | ⟨_, q, _⟩
                        · rw [q]; exact hP
                        · rw [q]; exact Nat.le_trans (List.length_filter_le _ _) hP
                      rw [List.length_append] at hel
                      have HNX : Hid ((R = 0 ∧ SE ++ EJ = P) ∨ (pg N R ∧ (F R).lv = 0 ∧ SE ++ EJ = upTo (lo R) P ∧ (k + 1) + mu N F lo R ≤ N)) := by
                        rcases hnx with q | ⟨q1, q2, q3, q4⟩
                        · exact .inl q
                        · exact .inr ⟨q1, q3, q2, by omega⟩
                      obtain ⟨n, hn⟩ : ∃ n, zs.length = n := ⟨_, rfl⟩
                      rw [hn] at hfc
                      have hjn : j < n := by have := hjp.2; omega
                      have hj2 : ¬ (n : Int) ≤ (j : Int) := by omega
                      have hj3 : (j : Int) < (n : Int) := by omega
                      have hn9 : n ≤ 9999 := by omega
                      have hkN : k + 1 ≤ 5403 := by omega
                      have HFC := hide hfc
                      have HRR := hide hrr
                      have HHT := hide hht
                      unfold Pz.ar at HHT
                      rw [hrt] at HHT
                      have fc := HFC.out _ HY.out
                      have HG := hide (HRR.out _ HY.out)
                      have c0 := HG.out.cell 0 (.int .i64 z.p.lsn) rfl
                      have c1 := HG.out.cell 1 (.int .i64 z.p.kind) rfl
                      have c2 := HG.out.cell 2 (.int .i64 z.p.level) rfl
                      have c3 := HG.out.cell 3 (.int .i64 z.p.right) rfl
                      have c4 := HG.out.cell 4 (.string z.p.high) rfl
                      have c5 := HG.out.cell 5 (.slice z.ao z.p.items.length z.cp) rfl
                      rw [Nat.add_zero] at c0
                      rw [hrt] at c3
                      have HRT := hide hrt
                      clear hht hrg hrt hz hfc hrr hn hlen hEJ hR hnx hse hmu hjp hjv HD hjl
                      go_wp2_with fail
                      refine (HHT.out _ (Only.refl _ _)).mono ?_
                      rintro x w7 ⟨A8, C8, rfl, het, hox⟩
                      have HY7 := hide (o2 HY.out hox)
                      obtain ⟨B8, hl8, _⟩ := het.elsOf
                      obtain ⟨A9, C9, w9, r9, he9, ho9, _⟩ := ets_app w7 w6.heap.size (.slice sa SE.length sc) SE (HE.out.more hox) A8 EJ.length C8 EJ rfl B8 hl8 (by omega) HY7.out.size
                      have HE9 := hide he9
                      have HR9 := hide r9
                      have HY9 : Hid (Only (fun _ => False) w6 w9) := HY7.out.trans ho9 (fun q hq e => by have := (World.ownsRow.lt HE.out q e).1; omega)
                      have fc7 := HFC.out _ HY7.out
                      have fc9 := HFC.out _ HY9.out
                      have d7 := (HRR.out _ HY7.out).cell 3 (.int .i64 z.p.right) rfl
                      have d9 := (HRR.out _ HY9.out).cell 3 (.int .i64 z.p.right) rfl
                      rw [HRT.out] at d7 d9
                      clear hox het hl8 r9 he9 ho9 fc c0 c1 c2 c3 c4 c5 HHT HG
                      by_cases hR0 : R = 0
                      · subst hR0
                        have HN0 : Hid (SE ++ EJ = P) := by
                          rcases HNX.out with q | q
                          · exact q.2
                          · have := q.1.1
                            omega
                        clear HNX
                        go_wp2_with (at_builtin; go_must (refine Lib.wpList_append_run _ rfl _ _ _ _ rfl _ _ rfl rfl _ _ HR9.out ?_))
                        go_roundw
                        case rel => exact ⟨0, k + 1, SE ++ EJ, rfl, by go_num, hkN, hide (.inl ⟨rfl, HN0.out⟩), HE9, HY9⟩
                        case measure => simp [intOf]; omega
                      · have hd : decide (R ≠ 0) = true := decide_eq_true hR0
                        rw [hd]
                        have hr1 : ((R : Int) == 0) = false := by simpa using hR0
                        have hr2 : ((R : Int) != 0) = true := by simpa using hR0
                        have hr3 : ¬ (R : Int) = 0 := by omega
                        clear hd
                        go_wp2_with (at_builtin; go_must (refine Lib.wpList_append_run _ rfl _ _ _ _ rfl _ _ rfl rfl _ _ HR9.out ?_))
                        go_roundw
                        case rel => exact ⟨R, k + 1, SE ++ EJ, rfl, by go_num, hkN, HNX, HE9, HY9⟩
                        case measure => simp [intOf]; omega
      · clear hlt
        obtain ⟨w5, hw5⟩ : ∃ x, wr = x := ⟨_, rfl⟩
        rw [hw5] at HSr HW ⊢
        clear hw5 HFG
        go_upto_region 19 with fail
        go_loopw [6, 12] (fun v x wy => ∃ (k : Nat) (P : List En), x = .int .i64 (k : Int) ∧ k ≤ O.length ∧ P.length ≤ 200 ∧ Hid (∃ g cap zs N F lo, Sa w wy f g cap zs N F lo (fun e => e ∈ P) v P ∧ Bd N F 200) ∧ Hid (Rise P) ∧ Hid (Only (fun _ => False) w wy)) (fun _ x _ => O.length - (intOf x).toNat)
        case atStart => exact ⟨0, Q, rfl, by omega, by omega, hide ⟨_, _, _, _, _, _, HSr.out, HBr.out.mono (by omega)⟩, HR, HW⟩
        case round =>
          as_aux_lemma =>
            clear HSr HBr HR HW
            obtain ⟨k, P, rfl, hk, hP, HS, HRk, HWk⟩ := hrel
            obtain ⟨g, cap, zs, N, F, lo, hSa, hBd⟩ := HS.out
            have HSk := hide hSa
            have HBk := hide hBd
            obtain ⟨pa, pc, rfl⟩ := hSa.ets.form
            have hcap := hSa.ets.cap
            clear hSa hBd HS
            have hf1 : ∀ k, k = f ∨ k = g → w.heap.size ≤ k := by
              rintro k (rfl | rfl)
              · exact HSk.out.sn.f0
              · exact HSk.out.sn.g0
            have HFG := hide hf1
            clear hf1
            by_cases hkl : k < O.length ∧ 0 < P.length
            · obtain ⟨hkl1, hkl2⟩ := hkl
              have hk1 : (k : Int) < (O.length : Int) := by omega
              have hk2 : ¬ (O.length : Int) ≤ (k : Int) := by omega
              have hk3 : (0 : Int) < (P.length : Int) := by omega
              have hk4 : ¬ (P.length : Int) = 0 := by omega
              obtain ⟨oO, rfl, hcO⟩ := (HO.out.kept HWk.out (fun _ h => h)).at_ (by omega)
              have xc := hcO k hkl1
              obtain ⟨xo, hxo⟩ : ∃ xo, O[k] = xo := ⟨_, rfl⟩
              rw [hxo] at xc
              clear hxo hcO
              have ht1 := Int.lt_tmod_of_pos xo hk3
              have ht2 := Int.tmod_lt_of_pos xo hk3
              obtain ⟨t, ht⟩ : ∃ t, xo.tmod (P.length : Int) = t := ⟨_, rfl⟩
              rw [ht] at ht1 ht2
              go_upto_region 22 with fail
              clear ht xc
              go_cut [126] (fun x wx => x = .bool (decide (t < 0)) ∧ wx = wr)
              case first =>
                as_aux_lemma =>
                  by_cases hneg : t < 0
                  · go_wp2_with fail
                    go_meet
                    exact ⟨by rw [decide_eq_true hneg], rfl⟩
                  · go_wp2_with fail
                    go_meet
                    exact ⟨by rw [decide_eq_false (by omega)], rfl⟩
              case rest =>
                as_aux_lemma =>
                  obtain ⟨rfl, hwx⟩ := hcut
                  obtain rfl := hwx.symm
                  go_upto_if 126 with fail
                  go_cut [13] (fun x wx => ∃ kk : Nat, x = .int .i64 (kk : Int) ∧ kk < P.length ∧ wx = wr)
                  case first =>
                    as_aux_lemma =>
                      by_cases hneg : t < 0
                      · obtain ⟨kk, hkk⟩ : ∃ kk : Nat, t + (P.length : Int) = (kk : Int) := ⟨(t + (P.length : Int)).toNat, by omega⟩
                        rw [decide_eq_true hneg]
                        go_wp2_with fail
                        go_meet
                        exact ⟨kk, by first | rfl | go_num, by omega, rfl⟩
                      · obtain ⟨kk, hkk⟩ : ∃ kk : Nat, t = (kk : Int) := ⟨t.toNat, by omega⟩
                        rw [decide_eq_false hneg]
                        go_wp2_with fail
                        go_meet
                        exact ⟨kk, by first | rfl | rw [hkk], by omega, rfl⟩
                  case rest =>
                    as_aux_lemma =>
                      obtain ⟨kk, rfl, hkk, hwx⟩ := hcut
                      obtain rfl := hwx.symm
                      clear ht1 ht2 hk1 hk2
                      obtain ⟨BP, hels, _⟩ := HSk.out.ets.elsOf
                      obtain ⟨op, rfl, heb⟩ := hels.of kk hkk
                      obtain ⟨e, he⟩ : ∃ e, P[kk] = e := ⟨_, rfl⟩
                      rw [he] at heb
                      have HE := hide heb
                      have HIN : Hid (e ∈ P) := by rw [← he]; exact List.getElem_mem _
                      have HPE : Hid (P[kk] = e) := he
                      have HOK : Hid (e.ok = true) := HSk.out.sn.fs.aok e HIN.out
                      have HFI := hide (sn_finds HSk.out.sn HBk.out (by omega) HOK.out)
                      clear hels heb he
                      have hm1 : (kk : Int) < (P.length : Int) := by omega
                      have hm2 : ¬ (P.length : Int) ≤ (kk : Int) := by omega
                      obtain ⟨e0, e1, e2, _⟩ := HE.out
                      go_wp2_with fail
                      refine HFI.out.mono ?_
                      rintro x w6 ⟨j, rfl, hj, ho⟩
                      have HJ := hide hj
                      have HS6 := hide (HSk.out.more ho)
                      have HE6 := hide (HE.out.more ho)
                      have HW6 := hide (o2 HWk.out ho)
                      have hin : e ∈ (F j).es := (HS6.out.sn.fs.cont j hj.1 hj.2.1 e).2 ⟨HIN.out, hj.2.2.1, hj.2.2.2⟩
                      obtain ⟨z, hjl, hz, hlv, _, hrg⟩ := HS6.out.sn.leave HBk.out (by omega) HOK.out hj.1 hj.2.1
                      rw [lvV_in hin] at hlv
                      have HLV := hide hlv
                      have HRG := hide hrg
                      have HM := hide hin
                      unfold Pz.ar at HLV
                      have hj0 : ¬ (j : Int) < 1 := by have := hj.1.1; omega
                      have hj1 : (1 : Int) ≤ (j : Int) := by omega
                      have fc := HS6.out.sn.fm.cell
                      have hlen := HS6.out.sn.fz.len
                      have hnum := HBk.out.num
                      obtain ⟨n, hn⟩ : ∃ n, zs.length = n := ⟨_, rfl⟩
                      rw [hn] at fc
                      have hjn : j < n := by omega
                      have hj2 : ¬ (n : Int) ≤ (j : Int) := by omega
                      have hj3 : (j : Int) < (n : Int) := by omega
                      have hn9 : n ≤ 9999 := by omega
                      have HFB : Hid (f < w6.heap.size) := HS6.out.sn.fm.flt
                      clear ho hlv hrg hz hjl hj hn hlen hnum hin e0 e1 e2 HSk HWk HE HFI
                      go_upto_region 27 with fail
                      go_cut [15, 16] (fun x y wx => ∃ b, x = .pointer (some ⟨b, 0, none⟩) ∧ y = .int .i64 0 ∧ Hid (Rz w6 wx b ⟨4, (j : Int), e.enc, none, 0, 0⟩))
                      case first =>
                        as_aux_lemma =>
                          -- {r27B
                          refine wp_region_noPanic ?_
                          refine wp_region_held_drew (S := fun W => Only (fun _ => False) w6 W) (by kernel_rfl) (Only.drew _ _) (fun hHeld => ?_)
                          refine wpAnyH_take (i := 0) (oi := { dst := some 140, op := Op.move (Operand.tmp 5), type := 49, pos := "law.go:236", after := #[], guard := none }) (v := .pointer (some ⟨f, 0, none⟩)) rfl (by kernel_rfl) (by kernel_rfl) (by kernel_rfl) (fun _ _ _ h => h) (Or.inl ⟨by rfl, fun w' hSw => by clear hSw; go_simp⟩) (by assumption) ?_
                          simp only [Act.put, List.setIfInBounds_toArray, List.set_cons_zero, List.set_cons_succ]
                          refine wpAnyH_take (i := 4) (oi := { dst := some 144, op := Op.move (Operand.tmp 14), type := 3, pos := "law.go:236", after := #[], guard := none }) (v := .int .i64 (j : Int)) rfl (by kernel_rfl) (by kernel_rfl) (by kernel_rfl) (fun _ _ _ h => h) (Or.inl ⟨by rfl, fun w' hSw => by clear hSw; go_simp⟩) (by assumption) ?_
                          simp only [Act.put, List.setIfInBounds_toArray, List.set_cons_zero, List.set_cons_succ]
                          refine wpAnyH_take (i := 7) (oi := { dst := some 147, op := Op.move (Operand.tmp 14), type := 3, pos := "law.go:236", after := #[], guard := none }) (v := .int .i64 (j : Int)) rfl (by kernel_rfl) (by kernel_rfl) (by kernel_rfl) (fun _ _ _ h => h) (Or.inl ⟨by rfl, fun w' hSw => by clear hSw; go_simp⟩) (by assumption) ?_
                          simp only [Act.put, List.setIfInBounds_toArray, List.set_cons_zero, List.set_cons_succ]
                          refine wpAnyH_take (i := 8) (oi := { dst := some 148, op := Op.move (Operand.tmp 6), type := 47, pos := "law.go:236", after := #[], guard := none }) (v := .slice (some ⟨BP, op, none⟩) P.length pc) rfl (by kernel_rfl) (by kernel_rfl) (by kernel_rfl) (fun _ _ _ h => h) (Or.inl ⟨by rfl, fun w' hSw => by clear hSw; go_simp⟩) (by assumption) ?_
                          simp only [Act.put, List.setIfInBounds_toArray, List.set_cons_zero, List.set_cons_succ]
                          refine wpAnyH_take (i := 9) (oi := { dst := some 149, op := Op.move (Operand.tmp 13), type := 3, pos := "law.go:236", after := #[], guard := none }) (v := .int .i64 (kk : Int)) rfl (by kernel_rfl) (by kernel_rfl) (by kernel_rfl) (fun _ _ _ h => h) (Or.inl ⟨by rfl, fun w' hSw => by clear hSw; go_simp⟩) (by assumption) ?_
                          simp only [Act.put, List.setIfInBounds_toArray, List.set_cons_zero, List.set_cons_succ]
                          refine wpAnyH_take (i := 1) (oi := { dst := some 141, op := Op.nilCheck (Operand.tmp 140), type := 0, pos := "law.go:236", after := #[{ on := 0, ground := Ground.data }], guard := none }) (v := .pointer (some ⟨f, 0, none⟩)) rfl (by kernel_rfl) (by kernel_rfl) (by kernel_rfl) (fun _ _ _ h => h) (Or.inl ⟨by rfl, fun w' hSw => by clear hSw; go_simp⟩) (by assumption) ?_
                          simp only [Act.put, List.setIfInBounds_toArray, List.set_cons_zero, List.set_cons_succ]
                          refine wpAnyH_take (i := 10) (oi := { dst := some 150, op := Op.indexAddr 47 (Operand.tmp 148) (Operand.tmp 149), type := 0, pos := "law.go:236", after := #[{ on := 8, ground := Ground.data }, { on := 9, ground := Ground.data }], guard := none }) (v := .pointer (some ⟨BP, op + kk * 3, none⟩)) rfl (by kernel_rfl) (by kernel_rfl) (by kernel_rfl) (fun _ _ _ h => h) (Or.inl ⟨by rfl, fun w' hSw => by clear hSw; go_simp⟩) (by assumption) ?_
                          simp only [Act.put, List.setIfInBounds_toArray, List.set_cons_zero, List.set_cons_succ]
                          refine wpAnyH_take (i := 2) (oi := { dst := some 142, op := Op.fieldAddr 53 (Operand.tmp 141) 0, type := 0, pos := "law.go:236", after := #[{ on := 1, ground := Ground.data }], guard := none }) (v := .pointer (some ⟨f, 0, none⟩)) rfl (by kernel_rfl) (by kernel_rfl) (by kernel_rfl) (fun _ _ _ h => h) (Or.inl ⟨by rfl, fun w' hSw => by clear hSw; go_simp⟩) (by assumption) ?_
                          simp only [Act.put, List.setIfInBounds_toArray, List.set_cons_zero, List.set_cons_succ]
                          refine wpAnyH_take (i := 11) (oi := { dst := some 151, op := Op.load 41 (Operand.tmp 150), type := 41, pos := "law.go:236", after := #[{ on := 10, ground := Ground.data }], guard := none }) (v := .agg #[.string e.key, .int .i64 e.page, .int .i64 e.slot]) rfl (by kernel_rfl) (by kernel_rfl) (by kernel_rfl) (fun _ _ _ h => h) (yieldsIf_load_eb (by rfl) _ rfl rfl (fun W hW => HE6.out.more hW)) (by assumption) ?_
                          simp only [Act.put, List.setIfInBounds_toArray, List.set_cons_zero, List.set_cons_succ]
                          refine wpAnyH_take (i := 3) (oi := { dst := some 143, op := Op.load 51 (Operand.tmp 142), type := 51, pos := "law.go:236", after := #[{ on := 2, ground := Ground.data }], guard := none }) (v := .slice (some ⟨g, 0, none⟩) n cap) rfl (by kernel_rfl) (by kernel_rfl) (by kernel_rfl) (fun _ _ _ h => h) (yieldsIf_load_cell (by rfl) 51 _ rfl _ rfl (fun W hW => (hW.cell (p := ⟨f, 0, none⟩) HFB.out (fun h => h)).trans fc) (fun W hc => ld_pages hc)) (by assumption) ?_
                          simp only [Act.put, List.setIfInBounds_toArray, List.set_cons_zero, List.set_cons_succ]
                          refine wpAnyH_take (i := 5) (oi := { dst := some 145, op := Op.indexAddr 51 (Operand.tmp 143) (Operand.tmp 144), type := 0, pos := "law.go:236", after := #[{ on := 3, ground := Ground.data }, { on := 4, ground := Ground.data }], guard := none }) (v := .pointer (some ⟨g, j * 6, none⟩)) rfl (by kernel_rfl) (by kernel_rfl) (by kernel_rfl) (fun _ _ _ h => h) (Or.inl ⟨by rfl, fun w' hSw => by clear hSw; go_simp⟩) (by assumption) ?_
                          simp only [Act.put, List.setIfInBounds_toArray, List.set_cons_zero, List.set_cons_succ]
                          refine wpAnyH_take (i := 6) (oi := { dst := some 146, op := Op.load 24 (Operand.tmp 145), type := 24, pos := "law.go:236", after := #[{ on := 5, ground := Ground.data }], guard := none }) (v := .agg #[.int .i64 z.p.lsn, .int .i64 z.p.kind, .int .i64 z.p.level, .int .i64 z.p.right, .string z.p.high, .slice z.ao z.p.items.length z.cp]) rfl (by kernel_rfl) (by kernel_rfl) (by kernel_rfl) (fun _ _ _ h => h) (yieldsIf_load_pz (by rfl) _ rfl rfl (fun W hW => HRG.out.more hW)) (by assumption) ?_
                          simp only [Act.put, List.setIfInBounds_toArray, List.set_cons_zero, List.set_cons_succ]
                          refine wpAnyH_ready (rs := [12, 16]) (by kernel_rfl) (by simp) ?_
                          refine AllReadyH.cons (o := { dst := some 152, op := Op.call { callee := Callee.value (Operand.func 21), args := #[Operand.tmp 146, Operand.tmp 147, Operand.tmp 151], argTypes := #[24, 3, 41] }, type := 37, pos := "law.go:236", after := #[{ on := 6, ground := Ground.data }, { on := 7, ground := Ground.data }, { on := 11, ground := Ground.data }], guard := none }) rfl (fun K hK => ?_) (AllReadyH.cons (o := { dst := some 15, op := Op.alloc 36, type := 0, pos := "law.go:236", after := #[], guard := none }) rfl (fun K hK => ?_) (AllReadyH.nil))
                          · go_simp
                            refine (HLV.out _ hHeld).mono ?_
                            rintro x x1 ⟨rfl, hox⟩
                            have HX1 := hide (o2 hHeld hox)
                            clear hox
                            refine hK.out _ _ (HX1.out) (fun hHeld => ?_)
                            clear hK K
                            try simp only [Act.put, List.setIfInBounds_toArray, List.set_cons_zero, List.set_cons_succ]
                            refine wpAnyH_take (i := 13) (oi := { dst := some 139, op := Op.move (Operand.tmp 152), type := 37, pos := "law.go:236", after := #[{ on := 12, ground := Ground.data }], guard := none }) (v := .tuple #[.agg #[.int .i64 0, .int .i64 0, .int .i64 0, .int .u8 4, .int .i64 0, .int .i64 (j : Int), .int .i64 0, .int .i64 0, .int .i64 0, .int .i64 0, .string e.enc, .slice none 0 0, .slice none 0 0, .slice none 0 0, .slice none 0 0, .slice none 0 0], .int .i64 0]) rfl (by kernel_rfl) (by kernel_rfl) (by kernel_rfl) (fun _ _ _ h => h) (Or.inl ⟨by rfl, fun w' hSw => by clear hSw; go_simp⟩) (by assumption) ?_
                            simp only [Act.put, List.setIfInBounds_toArray, List.set_cons_zero, List.set_cons_succ]
                            refine wpAnyH_take (i := 14) (oi := { dst := some 153, op := Op.extract (Operand.tmp 139) 0, type := 36, pos := "law.go:236", after := #[{ on := 13, ground := Ground.data }], guard := none }) (v := .agg #[.int .i64 0, .int .i64 0, .int .i64 0, .int .u8 4, .int .i64 0, .int .i64 (j : Int), .int .i64 0, .int .i64 0, .int .i64 0, .int .i64 0, .string e.enc, .slice none 0 0, .slice none 0 0, .slice none 0 0, .slice none 0 0, .slice none 0 0]) rfl (by kernel_rfl) (by kernel_rfl) (by kernel_rfl) (fun _ _ _ h => h) (Or.inl ⟨by rfl, fun w' hSw => by clear hSw; go_simp⟩) (by assumption) ?_
                            simp only [Act.put, List.setIfInBounds_toArray, List.set_cons_zero, List.set_cons_succ]
                            refine wpAnyH_take (i := 15) (oi := { dst := some 154, op := Op.extract (Operand.tmp 139) 1, type := 28, pos := "law.go:236", after := #[{ on := 13, ground := Ground.data }, { on := 17, ground := Ground.gcOnly Departure.lateStores }], guard := none }) (v := .int .i64 0) rfl (by kernel_rfl) (by kernel_rfl) (by kernel_rfl) (fun _ _ _ h => h) (Or.inl ⟨by rfl, fun w' hSw => by clear hSw; go_simp⟩) (by assumption) ?_
                            simp only [Act.put, List.setIfInBounds_toArray, List.set_cons_zero, List.set_cons_succ]
                            refine wpAnyH_ready (rs := [16]) (by kernel_rfl) (by simp) ?_
                            refine AllReadyH.cons (o := { dst := some 15, op := Op.alloc 36, type := 0, pos := "law.go:236", after := #[], guard := none }) rfl (fun K hK => ?_) (AllReadyH.nil)
                            go_simp
                            have HRB := hide (Rg.new x1 Br.none.cells 36)
                            have HX2 := hide (o2 HX1.out (onlyA x1 (.cells Br.none.cells 36)))
                            refine hK.out _ _ (HX2.out) (fun hHeld => ?_)
                            clear hK K
                            try simp only [Act.put, List.setIfInBounds_toArray, List.set_cons_zero, List.set_cons_succ]
                            refine wpAnyH_ready (rs := [17]) (by kernel_rfl) (by simp) ?_
                            refine AllReadyH.cons (o := { dst := none, op := Op.store 36 (Operand.tmp 15) (Operand.tmp 153), type := 0, pos := "law.go:236", after := #[{ on := 16, ground := Ground.data }, { on := 14, ground := Ground.data }, { on := 12, ground := Ground.chain }, { on := 0, ground := Ground.phase }, { on := 1, ground := Ground.phase }, { on := 2, ground := Ground.phase }, { on := 3, ground := Ground.phase }, { on := 4, ground := Ground.phase }, { on := 5, ground := Ground.phase }, { on := 6, ground := Ground.phase }, { on := 7, ground := Ground.phase }, { on := 8, ground := Ground.phase }, { on := 9, ground := Ground.phase }, { on := 10, ground := Ground.phase }, { on := 11, ground := Ground.phase }, { on := 12, ground := Ground.phase }, { on := 13, ground := Ground.phase }, { on := 14, ground := Ground.phase }, { on := 15, ground := Ground.textOnly Departure.lateStores }, { on := 16, ground := Ground.phase }], guard := none }) rfl (fun K hK => ?_) (AllReadyH.nil)
                            refine wp_store_mid 36 (.tmp 15) (.tmp 153) rfl (x1.heap.size) 0 (Br.cells ⟨4, (j : Int), e.enc, none, 0, 0⟩) rfl rfl (by exact HRB.out.there) Tryz.sizeRecB (by simp [Value.oneCell']) ?_
                            have HRZ := hide (Rz.of ⟨4, (j : Int), e.enc, none, 0, 0⟩ HRB.out HX2.out HX1.out.size)
                            refine hK.out _ _ (HRZ.out.only) (fun hHeld => ?_)
                            clear hK K
                            simp only [Act.put]
                            refine wpAnyH_take (i := 18) (oi := { dst := some 16, op := Op.assign (Operand.tmp 154), type := 28, pos := "law.go:236", after := #[{ on := 15, ground := Ground.data }, { on := 17, ground := Ground.chain }, { on := 0, ground := Ground.phase }, { on := 1, ground := Ground.phase }, { on := 2, ground := Ground.phase }, { on := 3, ground := Ground.phase }, { on := 4, ground := Ground.phase }, { on := 5, ground := Ground.phase }, { on := 6, ground := Ground.phase }, { on := 7, ground := Ground.phase }, { on := 8, ground := Ground.phase }, { on := 9, ground := Ground.phase }, { on := 10, ground := Ground.phase }, { on := 11, ground := Ground.phase }, { on := 12, ground := Ground.phase }, { on := 13, ground := Ground.phase }, { on := 14, ground := Ground.phase }, { on := 15, ground := Ground.phase }, { on := 16, ground := Ground.phase }, { on := 17, ground := Ground.phase }], guard := none }) (v := .int .i64 0) rfl (by kernel_rfl) (by kernel_rfl) (by kernel_rfl) (fun _ _ _ h => h) (Or.inl ⟨by rfl, fun w' hSw => by clear hSw; go_simp⟩) (by assumption) ?_
                            simp only [Act.put, List.setIfInBounds_toArray, List.set_cons_zero, List.set_cons_succ]
                            refine wpAnyH_done (by kernel_rfl) ?_ _
                            refine NoPanic.normal ?_
                            go_wp2_with fail
                            go_meet
                            exact ⟨_, rfl, rfl, HRZ⟩
                          · go_simp
                            have HRA : Hid (Rg ((w6.alloc (.cells Br.none.cells 36)).drew) w6.heap.size 0 Br.none.cl) := (Rg.new w6 Br.none.cells 36).more (Only.drew _ _)
                            have HXA : Hid (Only (fun _ => False) w6 ((w6.alloc (.cells Br.none.cells 36)).drew)) := o2 (onlyA _ _) (Only.drew _ _)
                            refine hK.out _ _ (HXA.out) (fun hHeld => ?_)
                            clear hK K
                            try simp only [Act.put, List.setIfInBounds_toArray, List.set_cons_zero, List.set_cons_succ]
                            refine wpAnyH_ready (rs := [12]) (by kernel_rfl) (by simp) ?_
                            refine AllReadyH.cons (o := { dst := some 152, op := Op.call { callee := Callee.value (Operand.func 21), args := #[Operand.tmp 146, Operand.tmp 147, Operand.tmp 151], argTypes := #[24, 3, 41] }, type := 37, pos := "law.go:236", after := #[{ on := 6, ground := Ground.data }, { on := 7, ground := Ground.data }, { on := 11, ground := Ground.data }], guard := none }) rfl (fun K hK => ?_) (AllReadyH.nil)
                            go_simp
                            refine (HLV.out _ hHeld).mono ?_
                            rintro x x1 ⟨rfl, hox⟩
                            have HX1 := hide (o2 hHeld hox)
                            have HRB := hide (HRA.out.more hox)
                            have HX2 := hide HX1.out
                            clear hox
                            refine hK.out _ _ (HX1.out) (fun hHeld => ?_)
                            clear hK K
                            try simp only [Act.put, List.setIfInBounds_toArray, List.set_cons_zero, List.set_cons_succ]
                            refine wpAnyH_take (i := 13) (oi := { dst := some 139, op := Op.move (Operand.tmp 152), type := 37, pos := "law.go:236", after := #[{ on := 12, ground := Ground.data }], guard := none }) (v := .tuple #[.agg #[.int .i64 0, .int .i64 0, .int .i64 0, .int .u8 4, .int .i64 0, .int .i64 (j : Int), .int .i64 0, .int .i64 0, .int .i64 0, .int .i64 0, .string e.enc, .slice none 0 0, .slice none 0 0, .slice none 0 0, .slice none 0 0, .slice none 0 0], .int .i64 0]) rfl (by kernel_rfl) (by kernel_rfl) (by kernel_rfl) (fun _ _ _ h => h) (Or.inl ⟨by rfl, fun w' hSw => by clear hSw; go_simp⟩) (by assumption) ?_
                            simp only [Act.put, List.setIfInBounds_toArray, List.set_cons_zero, List.set_cons_succ]
                            refine wpAnyH_take (i := 14) (oi := { dst := some 153, op := Op.extract (Operand.tmp 139) 0, type := 36, pos := "law.go:236", after := #[{ on := 13, ground := Ground.data }], guard := none }) (v := .agg #[.int .i64 0, .int .i64 0, .int .i64 0, .int .u8 4, .int .i64 0, .int .i64 (j : Int), .int .i64 0, .int .i64 0, .int .i64 0, .int .i64 0, .string e.enc, .slice none 0 0, .slice none 0 0, .slice none 0 0, .slice none 0 0, .slice none 0 0]) rfl (by kernel_rfl) (by kernel_rfl) (by kernel_rfl) (fun _ _ _ h => h) (Or.inl ⟨by rfl, fun w' hSw => by clear hSw; go_simp⟩) (by assumption) ?_
                            simp only [Act.put, List.setIfInBounds_toArray, List.set_cons_zero, List.set_cons_succ]
                            refine wpAnyH_take (i := 15) (oi := { dst := some 154, op := Op.extract (Operand.tmp 139) 1, type := 28, pos := "law.go:236", after := #[{ on := 13, ground := Ground.data }, { on := 17, ground := Ground.gcOnly Departure.lateStores }], guard := none }) (v := .int .i64 0) rfl (by kernel_rfl) (by kernel_rfl) (by kernel_rfl) (fun _ _ _ h => h) (Or.inl ⟨by rfl, fun w' hSw => by clear hSw; go_simp⟩) (by assumption) ?_
                            simp only [Act.put, List.setIfInBounds_toArray, List.set_cons_zero, List.set_cons_succ]
                            refine wpAnyH_ready (rs := [17]) (by kernel_rfl) (by simp) ?_
                            refine AllReadyH.cons (o := { dst := none, op := Op.store 36 (Operand.tmp 15) (Operand.tmp 153), type := 0, pos := "law.go:236", after := #[{ on := 16, ground := Ground.data }, { on := 14, ground := Ground.data }, { on := 12, ground := Ground.chain }, { on := 0, ground := Ground.phase }, { on := 1, ground := Ground.phase }, { on := 2, ground := Ground.phase }, { on := 3, ground := Ground.phase }, { on := 4, ground := Ground.phase }, { on := 5, ground := Ground.phase }, { on := 6, ground := Ground.phase }, { on := 7, ground := Ground.phase }, { on := 8, ground := Ground.phase }, { on := 9, ground := Ground.phase }, { on := 10, ground := Ground.phase }, { on := 11, ground := Ground.phase }, { on := 12, ground := Ground.phase }, { on := 13, ground := Ground.phase }, { on := 14, ground := Ground.phase }, { on := 15, ground := Ground.textOnly Departure.lateStores }, { on := 16, ground := Ground.phase }], guard := none }) rfl (fun K hK => ?_) (AllReadyH.nil)
                            refine wp_store_mid 36 (.tmp 15) (.tmp 153) rfl (w6.heap.size) 0 (Br.cells ⟨4, (j : Int), e.enc, none, 0, 0⟩) rfl rfl (by exact HRB.out.there) Tryz.sizeRecB (by simp [Value.oneCell']) ?_
                            have HRZ := hide (Rz.of ⟨4, (j : Int), e.enc, none, 0, 0⟩ HRB.out HX2.out (Nat.le_refl _))
                            refine hK.out _ _ (HRZ.out.only) (fun hHeld => ?_)
                            clear hK K
                            simp only [Act.put]
                            refine wpAnyH_take (i := 18) (oi := { dst := some 16, op := Op.assign (Operand.tmp 154), type := 28, pos := "law.go:236", after := #[{ on := 15, ground := Ground.data }, { on := 17, ground := Ground.chain }, { on := 0, ground := Ground.phase }, { on := 1, ground := Ground.phase }, { on := 2, ground := Ground.phase }, { on := 3, ground := Ground.phase }, { on := 4, ground := Ground.phase }, { on := 5, ground := Ground.phase }, { on := 6, ground := Ground.phase }, { on := 7, ground := Ground.phase }, { on := 8, ground := Ground.phase }, { on := 9, ground := Ground.phase }, { on := 10, ground := Ground.phase }, { on := 11, ground := Ground.phase }, { on := 12, ground := Ground.phase }, { on := 13, ground := Ground.phase }, { on := 14, ground := Ground.phase }, { on := 15, ground := Ground.phase }, { on := 16, ground := Ground.phase }, { on := 17, ground := Ground.phase }], guard := none }) (v := .int .i64 0) rfl (by kernel_rfl) (by kernel_rfl) (by kernel_rfl) (fun _ _ _ h => h) (Or.inl ⟨by rfl, fun w' hSw => by clear hSw; go_simp⟩) (by assumption) ?_
                            simp only [Act.put, List.setIfInBounds_toArray, List.set_cons_zero, List.set_cons_succ]
                            refine wpAnyH_done (by kernel_rfl) ?_ _
                            refine NoPanic.normal ?_
                            go_wp2_with fail
                            go_meet
                            exact ⟨_, rfl, rfl, HRZ⟩
                          -- r27B}
                      case rest =>
                        as_aux_lemma =>
                          obtain ⟨b, rfl, rfl, HRZ⟩ := hcut
                          have HS7 := hide (HS6.out.more HRZ.out.only)
                          have HW7 := hide (o2 HW6.out HRZ.out.only)
                          have HRC := hide HRZ.out.at_
                          have HDO := hide (sa_out HS7.out HBk.out (by omega) HOK.out HJ.out.1 HJ.out.2.1 HM.out)
                          clear fc HS6 HW6 HRZ HLV HRG
                          go_wp2_with (refine wpList_loadg_br rfl (.tmp 15) rfl b rfl ⟨4, (j : Int), e.enc, none, 0, 0⟩ HRC.out ?_; go_frame)
                          refine HDO.out.mono ?_
                          rintro x w8 ⟨rfl, g8, cap8, zs8, F8, hs8, hb8, ho8⟩
                          have HW8 : Hid (Only (fun _ => False) w w8) := HW7.out.trans ho8 (fun k hk z => by have := HFG.out k z; omega)
                          obtain ⟨BR, hel8, _⟩ := hs8.ets.elsOf
                          obtain ⟨A2, hA2⟩ : ∃ A2 : Option Addr, (if pc = kk + 1 then (some (⟨BP, op, none⟩ : Addr)) else Option.map (fun x : Addr => x.add ((kk + 1) * 3)) (some (⟨BP, op, none⟩ : Addr))) = A2 := ⟨_, rfl⟩
                          have hsl1 := fun W => slice_hi W (some (⟨BP, op, none⟩ : Addr)) P.length pc kk (by omega)
                          have hsl2 : ∀ W, (Instr.slice 47 (.slice (some ⟨BP, op, none⟩) P.length pc) (some (.int .i64 ((kk : Int) + 1))) none none).run Tryz.prog W = .ok (.slice A2 (P.length - (kk + 1)) (pc - (kk + 1))) W := fun W => by
                            rw [← hA2]
                            exact slice_lo W (some (⟨BP, op, none⟩ : Addr)) P.length pc (kk + 1) (by omega)
                          obtain ⟨v6, w9, v7, wt, r6, r7, he9, ho9⟩ := ets_two w8 (some (⟨BP, op, none⟩ : Addr)) BR P kk A2 hel8 hkk (fun hk => by rw [← hA2, if_neg (by omega)]) (by omega) pc (pc - (kk + 1))
                          have HR6 := hide r6
                          have HR7 := hide r7
                          have HS9 : Hid (∃ g cap zs N F lo, Sa w wt f g cap zs N F lo (fun e => e ∈ P.take kk ++ P.drop (kk + 1)) v7 (P.take kk ++ P.drop (kk + 1)) ∧ Bd N F 200) := ⟨_, _, _, _, _, _, (hs8.fresh ho9 he9).congr (fun y => by rw [mem_out HRk.out hkk y, HPE.out]), hb8⟩
                          have HR9 := hide (rise_out (k := kk) HRk.out)
                          have HW9 : Hid (Only (fun _ => False) w wt) := o2 HW8.out ho9
                          have hl9 : (P.take kk ++ P.drop (kk + 1)).length ≤ 200 := by simp; omega
                          obtain ⟨P9, hP9⟩ : ∃ l, P.take kk ++ P.drop (kk + 1) = l := ⟨_, rfl⟩
                          rw [hP9] at HS9 HR9 hl9
                          clear hP9 hA2 r6 r7 he9 ho9 hs8 hb8 ho8 hel8 HS7 HW7 HRC HDO
                          go_wp2_with (at_builtin; go_must (first | (refine Lib.wpList_append_run _ rfl _ _ _ _ rfl _ _ rfl rfl _ _ HR6.out ?_) | (refine Lib.wpList_append_run _ rfl _ _ _ _ rfl _ _ rfl rfl _ _ HR7.out ?_)))
                          go_roundw
                          case rel => exact ⟨k + 1, P9, by go_num, by omega, hl9, HS9, HR9, HW9⟩
                          case measure => simp [intOf]; omega
            · by_cases hk1 : (k : Int) < (O.length : Int)
              · have hk2 : ¬ (0 : Int) < (P.length : Int) := by omega
                clear hkl
                obtain ⟨w5, hw5⟩ : ∃ x, wr = x := ⟨_, rfl⟩
                rw [hw5] at HSk HWk ⊢
                clear hw5 HFG
                have HFI : Hid (Calls Tryz.prog 18 #[.pointer (some ⟨f, 0, none⟩), .int .i64 0, .agg #[.string ⟨#[0]⟩, .int .i64 0, .int .i64 0]] w5 fun x w' => ∃ j : Nat, x = .returned (.int .i64 j) ∧ (pg N j ∧ (F j).lv = 0 ∧ (lo j).lt e00 ∧ byd (F j).hi e00 = false) ∧ Only (fun _ => False) w5 w') := sn_finds HSk.out.sn HBk.out (by omega) e00_ok
                go_wp2_with fail
                refine HFI.out.mono ?_
                rintro x w6 ⟨j0, rfl, hj, ho⟩
                have HS6 := hide (HSk.out.more ho)
                have HW6 := hide (o2 HWk.out ho)
                have hlo : lo j0 = noE := scan_first HS6.out.sn.fs hj.1 hj.2.2.1
                have HST : Hid (pg N j0 ∧ (F j0).lv = 0 ∧ upTo (lo j0) P = []) := ⟨hj.1, hj.2.1, by rw [hlo]; exact upTo_least (fun e he => HS6.out.sn.fs.aok e he)⟩
                have hN : N ≤ 5402 := by have := HBk.out.num; omega
                clear ho hj hlo HFI HSk HWk
                go_upto_region 36 with fail
                go_loopw [18, 19, 20] (fun x v y wy => ∃ (j k : Nat) (SE : List En), x = .int .i64 (j : Int) ∧ y = .int .i64 (k : Int) ∧ k ≤ 5403 ∧ Hid ((j = 0 ∧ SE = P) ∨ (pg N j ∧ (F j).lv = 0 ∧ SE = upTo (lo j) P ∧ k + mu N F lo j ≤ N)) ∧ Hid (Ets wy w6.heap.size v SE) ∧ Hid (Only (fun _ => False) w6 wy)) (fun _ _ y _ => 10000 - (intOf y).toNat)
                case atStart => exact ⟨j0, 0, [], rfl, rfl, by omega, hide (.inr ⟨HST.out.1, HST.out.2.1, HST.out.2.2.symm, by have := mu_le N F lo j0; omega⟩), hide (Ets.nil _ _), hide (Only.refl _ _)⟩
                case round =>
                  as_aux_lemma =>
                    clear HST
                    obtain ⟨j, k, SE, rfl, rfl, hk, HD, HE, HY⟩ := hrel
                    obtain ⟨sa, sc, rfl⟩ := HE.out.form
                    have hk9 : (k : Int) < 10000 := by omega
                    have HSj := hide (HS6.out.more HY.out)
                    rcases HD.out with ⟨hj0, hse⟩ | ⟨hjp, hjv, hse, hmu⟩
                    · subst hj0
                      subst hse
                      clear HD
                      obtain ⟨B1, hl1, _⟩ := HE.out.elsOf
                      obtain ⟨B2, hl2, _⟩ := HSj.out.ets.elsOf
                      have HH := hide (ahits_same wr B1 B2 SE.length sc pc sa pa SE hl1 hl2 rfl (by omega))
                      clear hl1 hl2
                      go_wp2_with fail
                      refine HH.out.mono ?_
                      rintro x w7 ⟨rfl, ho⟩
                      have HO7 := hide (o2 (o2 HW6.out HY.out) ho)
                      clear ho
                      go_wp2_with fail
                      refine (HAW.out _).mono ?_
                      rintro x w8 ⟨rfl, ho⟩
                      have HO8 := hide (o2 HO7.out ho)
                      clear ho
                      go_wp2_with fail
                      go_ret
                      exact ⟨rfl, HO8.out⟩
                    · have hj1 : (0 : Int) < (j : Int) := by have := hjp.1; omega
                      obtain ⟨z, hjl, hz, hht, hrg, hrt⟩ := HSj.out.sn.hits HBk.out (by omega) e00_ok hjp hjv ⟨#[]⟩ ⟨#[]⟩
                      unfold HtR at hht
                      rw [hits_all, goOn_all, Bool.and_true] at hht
                      have hnx := scan_next HSj.out.sn.fs HRk.out hjp hjv
                      rw [← hse] at hnx
                      have hfc := fun (W : World) (h : Only (fun _ => False) w6 W) => (HS6.out.more h).sn.fm.cell
                      have hrr := fun (W : World) (h : Only (fun _ => False) w6 W) => (HS6.out.more h).sn.fm.rg j hjl
                      have hlen := HSj.out.sn.fz.len
                      rw [hz] at hrr
                      obtain ⟨EJ, hEJ⟩ : ∃ l, (F j).es = l := ⟨_, rfl⟩
                      obtain ⟨R, hR⟩ : ∃ R, (F j).rt = R := ⟨_, rfl⟩
                      rw [hEJ, hR] at hht hnx
                      rw [hR] at hrt
                      have hel : (SE ++ EJ).length ≤ 200 := by
                        rcases hnx with ⟨_, q⟩ | ⟨_, q, _⟩
                        · rw [q]; exact hP
                        · rw [q]; exact Nat.le_trans (List.length_filter_le _ _) hP
                      rw [List.length_append] at hel
                      have HNX : Hid ((R = 0 ∧ SE ++ EJ = P) ∨ (pg N R ∧ (F R).lv = 0 ∧ SE ++ EJ = upTo (lo R) P ∧ (k + 1) + mu N F lo R ≤ N)) := by
                        rcases hnx with q | ⟨q1, q2, q3, q4⟩
                        · exact .inl q
                        · exact .inr ⟨q1, q3, q2, by omega⟩
                      obtain ⟨n, hn⟩ : ∃ n, zs.length = n := ⟨_, rfl⟩
                      rw [hn] at hfc
                      have hjn : j < n := by have := hjp.2; omega
                      have hj2 : ¬ (n : Int) ≤ (j : Int) := by omega
                      have hj3 : (j : Int) < (n : Int) := by omega
                      have hn9 : n ≤ 9999 := by omega
                      have hkN : k + 1 ≤ 5403 := by omega
                      have HFC := hide hfc
                      have HRR := hide hrr
                      have HHT := hide hht
                      unfold Pz.ar at HHT
                      rw [hrt] at HHT
                      have fc := HFC.out _ HY.out
                      have HG := hide (HRR.out _ HY.out)
                      have c0 := HG.out.cell 0 (.int .i64 z.p.lsn) rfl
                      have c1 := HG.out.cell 1 (.int .i64 z.p.kind) rfl
                      have c2 := HG.out.cell 2 (.int .i64 z.p.level) rfl
                      have c3 := HG.out.cell 3 (.int .i64 z.p.right) rfl
                      have c4 := HG.out.cell 4 (.string z.p.high) rfl
                      have c5 := HG.out.cell 5 (.slice z.ao z.p.items.length z.cp) rfl
                      rw [Nat.add_zero] at c0
                      rw [hrt] at c3
                      have HRT := hide hrt
                      clear hht hrg hrt hz hfc hrr hn hlen hEJ hR hnx hse hmu hjp hjv HD hjl
                      go_wp2_with fail
                      refine (HHT.out _ (Only.refl _ _)).mono ?_
                      rintro x w7 ⟨A8, C8, rfl, het, hox⟩
                      have HY7 := hide (o2 HY.out hox)
                      obtain ⟨B8, hl8, _⟩ := het.elsOf
                      obtain ⟨A9, C9, w9, r9, he9, ho9, _⟩ := ets_app w7 w6.heap.size (.slice sa SE.length sc) SE (HE.out.more hox) A8 EJ.length C8 EJ rfl B8 hl8 (by omega) HY7.out.size
                      have HE9 := hide he9
                      have HR9 := hide r9
                      have HY9 : Hid (Only (fun _ => False) w6 w9) := HY7.out.trans ho9 (fun q hq e => by have := (World.ownsRow.lt HE.out q e).1; omega)
                      have fc7 := HFC.out _ HY7.out
                      have fc9 := HFC.out _ HY9.out
                      have d7 := (HRR.out _ HY7.out).cell 3 (.int .i64 z.p.right) rfl
                      have d9 := (HRR.out _ HY9.out).cell 3 (.int .i64 z.p.right) rfl
                      rw [HRT.out] at d7 d9
                      clear hox het hl8 r9 he9 ho9 fc c0 c1 c2 c3 c4 c5 HHT HG
                      by_cases hR0 : R = 0
                      · subst hR0
                        have HN0 : Hid (SE ++ EJ = P) := by
                          rcases HNX.out with q | q
                          · exact q.2
                          · have := q.1.1
                            omega
                        clear HNX
                        go_wp2_with (at_builtin; go_must (refine Lib.wpList_append_run _ rfl _ _ _ _ rfl _ _ rfl rfl _ _ HR9.out ?_))
                        go_roundw
                        case rel => exact ⟨0, k + 1, SE ++ EJ, rfl, by go_num, hkN, hide (.inl ⟨rfl, HN0.out⟩), HE9, HY9⟩
                        case measure => simp [intOf]; omega
                      · have hd : decide (R ≠ 0) = true := decide_eq_true hR0
                        rw [hd]
                        have hr1 : ((R : Int) == 0) = false := by simpa using hR0
                        have hr2 : ((R : Int) != 0) = true := by simpa using hR0
                        have hr3 : ¬ (R : Int) = 0 := by omega
                        clear hd
                        go_wp2_with (at_builtin; go_must (refine Lib.wpList_append_run _ rfl _ _ _ _ rfl _ _ rfl rfl _ _ HR9.out ?_))
                        go_roundw
                        case rel => exact ⟨R, k + 1, SE ++ EJ, rfl, by go_num, hkN, HNX, HE9, HY9⟩
                        case measure => simp [intOf]; omega
              · clear hkl
                obtain ⟨w5, hw5⟩ : ∃ x, wr = x := ⟨_, rfl⟩
                rw [hw5] at HSk HWk ⊢
                clear hw5 HFG
                have HFI : Hid (Calls Tryz.prog 18 #[.pointer (some ⟨f, 0, none⟩), .int .i64 0, .agg #[.string ⟨#[0]⟩, .int .i64 0, .int .i64 0]] w5 fun x w' => ∃ j : Nat, x = .returned (.int .i64 j) ∧ (pg N j ∧ (F j).lv = 0 ∧ (lo j).lt e00 ∧ byd (F j).hi e00 = false) ∧ Only (fun _ => False) w5 w') := sn_finds HSk.out.sn HBk.out (by omega) e00_ok
                go_wp2_with fail
                refine HFI.out.mono ?_
                rintro x w6 ⟨j0, rfl, hj, ho⟩
                have HS6 := hide (HSk.out.more ho)
                have HW6 := hide (o2 HWk.out ho)
                have hlo : lo j0 = noE := scan_first HS6.out.sn.fs hj.1 hj.2.2.1
                have HST : Hid (pg N j0 ∧ (F j0).lv = 0 ∧ upTo (lo j0) P = []) := ⟨hj.1, hj.2.1, by rw [hlo]; exact upTo_least (fun e he => HS6.out.sn.fs.aok e he)⟩
                have hN : N ≤ 5402 := by have := HBk.out.num; omega
                clear ho hj hlo HFI HSk HWk
                go_upto_region 36 with fail
                go_loopw [18, 19, 20] (fun x v y wy => ∃ (j k : Nat) (SE : List En), x = .int .i64 (j : Int) ∧ y = .int .i64 (k : Int) ∧ k ≤ 5403 ∧ Hid ((j = 0 ∧ SE = P) ∨ (pg N j ∧ (F j).lv = 0 ∧ SE = upTo (lo j) P ∧ k + mu N F lo j ≤ N)) ∧ Hid (Ets wy w6.heap.size v SE) ∧ Hid (Only (fun _ => False) w6 wy)) (fun _ _ y _ => 10000 - (intOf y).toNat)
                case atStart => exact ⟨j0, 0, [], rfl, rfl, by omega, hide (.inr ⟨HST.out.1, HST.out.2.1, HST.out.2.2.symm, by have := mu_le N F lo j0; omega⟩), hide (Ets.nil _ _), hide (Only.refl _ _)⟩
                case round =>
                  as_aux_lemma =>
                    clear HST
                    obtain ⟨j, k, SE, rfl, rfl, hk, HD, HE, HY⟩ := hrel
                    obtain ⟨sa, sc, rfl⟩ := HE.out.form
                    have hk9 : (k : Int) < 10000 := by omega
                    have HSj := hide (HS6.out.more HY.out)
                    rcases HD.out with ⟨hj0, hse⟩ | ⟨hjp, hjv, hse, hmu⟩
                    · subst hj0
                      subst hse
                      clear HD
                      obtain ⟨B1, hl1, _⟩ := HE.out.elsOf
                      obtain ⟨B2, hl2, _⟩ := HSj.out.ets.elsOf
                      have HH := hide (ahits_same wr B1 B2 SE.length sc pc sa pa SE hl1 hl2 rfl (by omega))
                      clear hl1 hl2
                      go_wp2_with fail
                      refine HH.out.mono ?_
                      rintro x w7 ⟨rfl, ho⟩
                      have HO7 := hide (o2 (o2 HW6.out HY.out) ho)
                      clear ho
                      go_wp2_with fail
                      refine (HAW.out _).mono ?_
                      rintro x w8 ⟨rfl, ho⟩
                      have HO8 := hide (o2 HO7.out ho)
                      clear ho
                      go_wp2_with fail
                      go_ret
                      exact ⟨rfl, HO8.out⟩
                    · have hj1 : (0 : Int) < (j : Int) := by have := hjp.1; omega
                      obtain ⟨z, hjl, hz, hht, hrg, hrt⟩ := HSj.out.sn.hits HBk.out (by omega) e00_ok hjp hjv ⟨#[]⟩ ⟨#[]⟩
                      unfold HtR at hht
                      rw [hits_all, goOn_all, Bool.and_true] at hht
                      have hnx := scan_next HSj.out.sn.fs HRk.out hjp hjv
                      rw [← hse] at hnx
                      have hfc := fun (W : World) (h : Only (fun _ => False) w6 W) => (HS6.out.more h).sn.fm.cell
                      have hrr := fun (W : World) (h : Only (fun _ => False) w6 W) => (HS6.out.more h).sn.fm.rg j hjl
                      have hlen := HSj.out.sn.fz.len
                      rw [hz] at hrr
                      obtain ⟨EJ, hEJ⟩ : ∃ l, (F j).es = l := ⟨_, rfl⟩
                      obtain ⟨R, hR⟩ : ∃ R, (F j).rt = R := ⟨_, rfl⟩
                      rw [hEJ, hR] at hht hnx
                      rw [hR] at hrt
                      have hel : (SE ++ EJ).length ≤ 200 := by
                        rcases hnx with ⟨_, q⟩ | ⟨_, q, _⟩
                        · rw [q]; exact hP
                        · rw [q]; exact Nat.le_trans (List.length_filter_le _ _) hP
                      rw [List.length_append] at hel
                      have HNX : Hid ((R = 0 ∧ SE ++ EJ = P) ∨ (pg N R ∧ (F R).lv = 0 ∧ SE ++ EJ = upTo (lo R) P ∧ (k + 1) + mu N F lo R ≤ N)) := by
                        rcases hnx with q | ⟨q1, q2, q3, q4⟩
                        · exact .inl q
                        · exact .inr ⟨q1, q3, q2, by omega⟩
                      obtain ⟨n, hn⟩ : ∃ n, zs.length = n := ⟨_, rfl⟩
                      rw [hn] at hfc
                      have hjn : j < n := by have := hjp.2; omega
                      have hj2 : ¬ (n : Int) ≤ (j : Int) := by omega
                      have hj3 : (j : Int) < (n : Int) := by omega
                      have hn9 : n ≤ 9999 := by omega
                      have hkN : k + 1 ≤ 5403 := by omega
                      have HFC := hide hfc
                      have HRR := hide hrr
                      have HHT := hide hht
                      unfold Pz.ar at HHT
                      rw [hrt] at HHT
                      have fc := HFC.out _ HY.out
                      have HG := hide (HRR.out _ HY.out)
                      have c0 := HG.out.cell 0 (.int .i64 z.p.lsn) rfl
                      have c1 := HG.out.cell 1 (.int .i64 z.p.kind) rfl
                      have c2 := HG.out.cell 2 (.int .i64 z.p.level) rfl
                      have c3 := HG.out.cell 3 (.int .i64 z.p.right) rfl
                      have c4 := HG.out.cell 4 (.string z.p.high) rfl
                      have c5 := HG.out.cell 5 (.slice z.ao z.p.items.length z.cp) rfl
                      rw [Nat.add_zero] at c0
                      rw [hrt] at c3
                      have HRT := hide hrt
                      clear hht hrg hrt hz hfc hrr hn hlen hEJ hR hnx hse hmu hjp hjv HD hjl
                      go_wp2_with fail
                      refine (HHT.out _ (Only.refl _ _)).mono ?_
                      rintro x w7 ⟨A8, C8, rfl, het, hox⟩
                      have HY7 := hide (o2 HY.out hox)
                      obtain ⟨B8, hl8, _⟩ := het.elsOf
                      obtain ⟨A9, C9, w9, r9, he9, ho9, _⟩ := ets_app w7 w6.heap.size (.slice sa SE.length sc) SE (HE.out.more hox) A8 EJ.length C8 EJ rfl B8 hl8 (by omega) HY7.out.size
                      have HE9 := hide he9
                      have HR9 := hide r9
                      have HY9 : Hid (Only (fun _ => False) w6 w9) := HY7.out.trans ho9 (fun q hq e => by have := (World.ownsRow.lt HE.out q e).1; omega)
                      have fc7 := HFC.out _ HY7.out
                      have fc9 := HFC.out _ HY9.out
                      have d7 := (HRR.out _ HY7.out).cell 3 (.int .i64 z.p.right) rfl
                      have d9 := (HRR.out _ HY9.out).cell 3 (.int .i64 z.p.right) rfl
                      rw [HRT.out] at d7 d9
                      clear hox het hl8 r9 he9 ho9 fc c0 c1 c2 c3 c4 c5 HHT HG
                      by_cases hR0 : R = 0
                      · subst hR0
                        have HN0 : Hid (SE ++ EJ = P) := by
                          rcases HNX.out with q | q
                          · exact q.2
                          · have := q.1.1
                            omega
                        clear HNX
                        go_wp2_with (at_builtin; go_must (refine Lib.wpList_append_run _ rfl _ _ _ _ rfl _ _ rfl rfl _ _ HR9.out ?_))
                        go_roundw
                        case rel => exact ⟨0, k + 1, SE ++ EJ, rfl, by go_num, hkN, hide (.inl ⟨rfl, HN0.out⟩), HE9, HY9⟩
                        case measure => simp [intOf]; omega
                      · have hd : decide (R ≠ 0) = true := decide_eq_true hR0
                        rw [hd]
                        have hr1 : ((R : Int) == 0) = false := by simpa using hR0
                        have hr2 : ((R : Int) != 0) = true := by simpa using hR0
                        have hr3 : ¬ (R : Int) = 0 := by omega
                        clear hd
                        go_wp2_with (at_builtin; go_must (refine Lib.wpList_append_run _ rfl _ _ _ _ rfl _ _ rfl rfl _ _ HR9.out ?_))
                        go_roundw
                        case rel => exact ⟨R, k + 1, SE ++ EJ, rfl, by go_num, hkN, HNX, HE9, HY9⟩
                        case measure => simp [intOf]; omega
end Go.Proofs.YthjjkhacniebiaaGreat
