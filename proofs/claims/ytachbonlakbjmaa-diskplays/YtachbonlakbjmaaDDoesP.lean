/- An act that asks for the numbers. -/
import Derived.Test.YtachbonlakbjmaaDApartW
import Derived.Deep.RegionHeld3
namespace Go.Proofs.Ytachbonlakbjmaa
open Go.RowKit

theorem yieldsIf_load_cell {ops : Array Oper} {S : World → Prop} {op : Oper} {a : Act} {v : Value} (hw : Region.wanted op (yielded ops a.tmps) = true) (ty : TypeId) (x : Operand) (ho : op.op = .load ty x)
    (p : Addr) (hx : a.eval x = .pointer (some p)) (hS : ∀ w, S w → w.cell? p = some v) (hl : ∀ w, w.cell? p = some v → (loadVar ty p).run Try.prog w = .ok v w) : YieldsIf Try.prog ops S op v a :=
  .inl ⟨hw, fun w hw' => by
    unfold execOp
    simp only [ho, hx, Instr.loadAt, Instr.sureAddr, Sem.run_bind, Sem.run_pure, Result.andThen_ok, hl w (hS w hw')]⟩
theorem ld_int {w : World} {p : Addr} {v : Value} (h : w.cell? p = some v) : (loadVar 3 p).run Try.prog w = .ok v w := by simp [loadVar, go_sem, h]
theorem ld_bool {w : World} {p : Addr} {v : Value} (h : w.cell? p = some v) : (loadVar 4 p).run Try.prog w = .ok v w := by simp [loadVar, go_sem, h]
theorem ld_strings {w : World} {p : Addr} {v : Value} (h : w.cell? p = some v) : (loadVar 49 p).run Try.prog w = .ok v w := by simp [loadVar, go_sem, h]
theorem owns_base {w : World} {base base' n : Nat} {e : TypeId} {v : Value} {xs : List Value} (h : w.ownsRow base e 1 v n xs) (hb : base' ≤ base) : w.ownsRow base' e 1 v n xs := by
  obtain ⟨h1, h2⟩ := h
  refine ⟨h1, ?_⟩
  rcases h2 with h2 | ⟨g, cap, cur, hv, hg, r⟩
  · exact .inl h2
  · exact .inr ⟨g, cap, cur, hv, Nat.le_trans hb hg, r⟩
theorem oo {a b c : World} (h : Only (fun _ => False) a b) (k : Only (fun _ => False) b c) : Only (fun _ => False) a c := h.trans k (fun _ _ h => h)
set_option maxRecDepth 100000 in
set_option maxHeartbeats 1600000 in
theorem does_pend (w : World) (d g m x a b c ka kb kc : Nat) (D : Dk) (h : Both w d g m x a b c ka kb kc D) (wh at_ many fill : Int) (odd : Bool) (how : Value) (hw : (wh % 6 == 5) = true) (h0 : 0 ≤ wh) (h1 : wh < 256) :
    Calls Try.prog 8 #[.pointer (some ⟨d, 0, none⟩), .pointer (some ⟨x, 0, none⟩), .agg #[.int .u8 wh, .int .i64 at_, .int .i64 many, .int .i64 fill, .bool odd, how]] w fun e w' => e = .returned (.bool true) ∧ Both w' d g m x a b c ka kb kc D ∧ Only (bown d g m x a b c) w w' := by
  have hw0 : (wh % 6 == 0) = false := by simp at hw ⊢; omega
  have hw1 : (wh % 6 == 1) = false := by simp at hw ⊢; omega
  have hw2 : (wh % 6 == 2) = false := by simp at hw ⊢; omega
  have hw3 : (wh % 6 == 3) = false := by simp at hw ⊢; omega
  have hw4 : (wh % 6 == 4) = false := by simp at hw ⊢; omega
  have H := hide h
  have hpl := pend_lt h.one.ok
  have HLT := hide h.lt
  obtain ⟨W0, hW0⟩ : ∃ W0, W0 = w.alloc (.cells #[.int .u8 wh, .int .i64 at_, .int .i64 many, .int .i64 fill, .bool odd, how] 36) := ⟨_, rfl⟩
  have HO0 : Hid (Only (fun _ => False) w W0) := by rw [hW0]; exact hide (Only.alloc _ _ _)
  have HB := hide (H.out.same HO0.out)
  have HW0 := hide hW0
  clear hW0 h
  go_enter Try.func8, Try.ntmps8
  go_wp2_with fail
  rw [← HW0.out]
  refine (pending_any W0 d g m D HB.out.one).mono ?_
  rintro e w1 ⟨g1, c1, rfl, hown1, hO1⟩
  have HOW1 := hide hown1
  have HO1 := hide hO1
  have hlo1 := hown1.lt g1 rfl
  clear hown1 hO1
  go_wp2_with fail
  refine (pending_any w1 d g m D (HB.out.one.same HO1.out)).mono ?_
  rintro e w2 ⟨g2, c2, rfl, hown2, hO2⟩
  have HOW2 := hide hown2
  have HO2 := hide hO2
  have hlo2 := hown2.lt g2 rfl
  clear hown2 hO2
  go_wp2_with fail
  refine (xpending_any w2 x a b c ka kb kc D (HB.out.two.same (oo HO1.out HO2.out))).mono ?_
  rintro e w3 ⟨v3, rfl, hown3, hO3⟩
  have HO3 := hide hO3
  have HOW1c := hide (owns_kept HOW1.out (oo HO2.out HO3.out) (fun _ _ h => h))
  have HOW2c := hide (owns_kept HOW2.out HO3.out (fun _ _ h => h))
  obtain ⟨B1, a1, k1, hv1, hI1, _⟩ := ints_of_owns HOW1c.out hpl.1 hpl.2
  obtain ⟨B3, a3, k3, hv3, hI3, _⟩ := ints_of_owns hown3 hpl.1 hpl.2
  have hsame := sameInts_true w3 B1 B3 k1 k3 a1 a3 _ hI1 hI3
  rw [← hv1, ← hv3] at hsame
  clear hown3 hO3 hI1 hI3 hv1 hv3
  go_wp2_with fail
  refine hsame.mono ?_
  clear hsame
  rintro e w4 ⟨rfl, hO4⟩
  have HO4 := hide hO4
  clear hO4
  obtain ⟨n, hn⟩ : ∃ n, D.pend.length = n := ⟨_, rfl⟩
  rw [hn] at HOW1c HOW2c hpl ⊢
  clear hn
  have hn2 := hpl.2
  have HAP : Hid (∀ W, Only (fun _ => False) (w4.alloc (.cells #[.slice (some ⟨g1, 0, none⟩) n c1, .slice (some ⟨g2, 0, none⟩) n c2] 34)) W → Calls Try.prog 28 #[.slice (some ⟨w4.heap.size, 0, none⟩) 2 2] W fun e w' => e = .returned (.bool true) ∧ Only (fun q => q = g1 ∨ q = g2) W w') := fun W hW => by
    have hA := Only.alloc (fun _ => False) w4 (.cells #[.slice (some ⟨g1, 0, none⟩) n c1, .slice (some ⟨g2, 0, none⟩) n c2] 34)
    have hs3 := HO3.out.size
    have hs4 := HO4.out.size
    have hs2 := HO2.out.size
    have hk1 := owns_kept (owns_kept (owns_kept HOW1c.out HO4.out (fun _ _ h => h)) hA (fun _ _ h => h)) hW (fun _ _ h => h)
    have hk2 := owns_kept (owns_kept (owns_kept HOW2c.out HO4.out (fun _ _ h => h)) hA (fun _ _ h => h)) hW (fun _ _ h => h)
    have key := apart_true W W0.heap.size w4.heap.size (fun i => if i = 0 then g1 else g2) (fun i => if i = 0 then c1 else c2) n (fun i hi => ?_) (fun i hi => ?_) (by simp; omega) (fun i hi => ?_) hn2 (Nat.le_trans HO1.out.size (by have := hA.size; have := hW.size; omega))
    · simpa using key
    · have hc : i = 0 ∨ i = 1 := by omega
      rw [hW.cell (p := ⟨w4.heap.size, i, none⟩) (by simp) (fun h => h)]
      rcases hc with rfl | rfl
      · simp
      · simp
    · have hc : i = 0 ∨ i = 1 := by omega
      rcases hc with rfl | rfl
      · exact ⟨_, by simpa using hk1⟩
      · have h5 := owns_base hk2 (base' := W0.heap.size) HO1.out.size
        exact ⟨_, by simpa using h5⟩
    · have hc : i = 0 ∨ i = 1 := by omega
      rcases hc with rfl | rfl
      · simp; omega
      · simp; omega
  go_wp2_with fail
  refine (HAP.out _ (Only.refl _ _)).mono ?_
  clear HAP
  rintro e w5 ⟨rfl, hO5⟩
  have hs0 := HO0.out.size
  have hs1 := HO1.out.size
  have HO5 : Hid (Only (bown d g m x a b c) w w5) := (((((HO0.out.mono (fun _ _ h => h.elim)).trans HO1.out (fun _ _ h => h.elim)).trans HO2.out (fun _ _ h => h.elim)).trans (oo HO3.out HO4.out) (fun _ _ h => h.elim)).trans (Only.alloc (fun _ => False) _ _) (fun _ _ h => h.elim)).trans hO5 (fun i hi e => by omega)
  have HB5 : Hid (Both w5 d g m x a b c ka kb kc D) := by
    have hb4 := HB.out.same (oo (oo (oo HO1.out HO2.out) (oo HO3.out HO4.out)) (Only.alloc (fun _ => False) w4 (.cells #[.slice (some ⟨g1, 0, none⟩) n c1, .slice (some ⟨g2, 0, none⟩) n c2] 34)))
    have hl : ∀ k, bown d g m x a b c k → ¬ (k = g1 ∨ k = g2) := fun k hk e => by have := HLT.out k hk; omega
    exact ⟨hb4.one.kept hO5 (hl _ (.inl (.inl rfl))) (hl _ (.inl (.inr (.inl rfl)))) (hl _ (.inl (.inr (.inr rfl)))), hb4.two.kept hO5 (hl _ (.inr (.inl rfl))) (hl _ (.inr (.inr (.inl rfl)))) (hl _ (.inr (.inr (.inr (.inl rfl))))) (hl _ (.inr (.inr (.inr (.inr rfl))))), hb4.off⟩
  clear hO5 hlo1 hlo2
  have HC1 : Hid (∀ W, Only (fun _ => False) w5 W → Calls Try.prog 16 #[.pointer (some ⟨d, 0, none⟩)] W fun e w' => e = .returned (.int .i64 D.acts) ∧ w' = W) := fun W hW => acts_any W d g m D (HB5.out.one.same hW)
  have HC2 : Hid (∀ W, Only (fun _ => False) w5 W → Calls Try.prog 29 #[.pointer (some ⟨d, 0, none⟩)] W fun e w' => e = .returned (.bool D.dead) ∧ w' = W) := fun W hW => dead_any W d g m D (HB5.out.one.same hW)
  have HC3 : Hid (∀ W, Only (fun _ => False) w5 W → Calls Try.prog 30 #[.pointer (some ⟨d, 0, none⟩)] W fun e w' => e = .returned (.int .i64 (D.old.length : Int)) ∧ w' = W) := fun W hW => size_any W d g m D (HB5.out.one.same hW)
  obtain ⟨A, hA⟩ : ∃ A, D.acts = A := ⟨_, rfl⟩
  obtain ⟨Q, hQ⟩ : ∃ Q, D.dead = Q := ⟨_, rfl⟩
  obtain ⟨N, hN⟩ : ∃ N, D.old.length = N := ⟨_, rfl⟩
  have HX : Hid (∀ W, Only (fun _ => False) w5 W → W.cell? ⟨x, 5, none⟩ = some (.int .i64 A) ∧ W.cell? ⟨x, 4, none⟩ = some (.bool Q) ∧ W.cell? ⟨x, 0, none⟩ = some (.slice (some ⟨a, 0, none⟩) N ka)) := fun W hW => by
    have h := HB5.out.two.same hW
    exact ⟨by rw [h.c5, hA], by rw [h.c4, hQ], by rw [h.c0, hN]⟩
  rw [hA] at HC1
  rw [hQ] at HC2
  rw [hN] at HC3
  clear hA hQ hN
  go_upto_region 22 with fail
  refine wp_region_noPanic ?_
  refine wp_region_held_drew (S := fun W => Only (fun _ => False) w5 W) (by kernel_rfl) (Only.drew _ _) (fun hHeld => ?_)
  refine wpAnyH_take (i := 0) (oi := { dst := some 111, op := Op.move (Operand.tmp 0), type := 25, pos := "law.go:96", after := #[], guard := none }) (v := .pointer (some ⟨d, 0, none⟩)) rfl (by kernel_rfl) (by kernel_rfl) (by kernel_rfl) (fun _ _ _ h => h) (Or.inl ⟨by rfl, fun w' hSw => by clear hSw; go_simp⟩) (by assumption) ?_
  simp only [Act.put, List.setIfInBounds_toArray, List.set_cons_zero, List.set_cons_succ]
  refine wpAnyH_take (i := 2) (oi := { dst := some 113, op := Op.move (Operand.tmp 1), type := 29, pos := "law.go:96", after := #[], guard := none }) (v := .pointer (some ⟨x, 0, none⟩)) rfl (by kernel_rfl) (by kernel_rfl) (by kernel_rfl) (fun _ _ _ h => h) (Or.inl ⟨by rfl, fun w' hSw => by clear hSw; go_simp⟩) (by assumption) ?_
  simp only [Act.put, List.setIfInBounds_toArray, List.set_cons_zero, List.set_cons_succ]
  refine wpAnyH_take (i := 3) (oi := { dst := some 114, op := Op.nilCheck (Operand.tmp 113), type := 0, pos := "law.go:96", after := #[{ on := 2, ground := Ground.data }], guard := none }) (v := .pointer (some ⟨x, 0, none⟩)) rfl (by kernel_rfl) (by kernel_rfl) (by kernel_rfl) (fun _ _ _ h => h) (Or.inl ⟨by rfl, fun w' hSw => by clear hSw; go_simp⟩) (by assumption) ?_
  simp only [Act.put, List.setIfInBounds_toArray, List.set_cons_zero, List.set_cons_succ]
  refine wpAnyH_take (i := 4) (oi := { dst := some 115, op := Op.fieldAddr 52 (Operand.tmp 114) 5, type := 0, pos := "law.go:96", after := #[{ on := 3, ground := Ground.data }], guard := none }) (v := .pointer (some ⟨x, 5, none⟩)) rfl (by kernel_rfl) (by kernel_rfl) (by kernel_rfl) (fun _ _ _ h => h) (Or.inl ⟨by rfl, fun w' hSw => by clear hSw; go_simp⟩) (by assumption) ?_
  simp only [Act.put, List.setIfInBounds_toArray, List.set_cons_zero, List.set_cons_succ]
  refine wpAnyH_take (i := 5) (oi := { dst := some 116, op := Op.load 3 (Operand.tmp 115), type := 3, pos := "law.go:96", after := #[{ on := 4, ground := Ground.data }], guard := none }) (v := .int .i64 A) rfl (by kernel_rfl) (by kernel_rfl) (by kernel_rfl) (fun _ _ _ h => h) (yieldsIf_load_cell (by rfl) 3 _ rfl _ rfl (fun W hW => (HX.out W hW).1) (fun W hc => ld_int hc)) (by assumption) ?_
  simp only [Act.put, List.setIfInBounds_toArray, List.set_cons_zero, List.set_cons_succ]
  refine wpAnyH_ready (rs := [1]) (by kernel_rfl) (by simp) ?_
  refine AllReadyH.cons (o := { dst := some 112, op := Op.call { callee := Callee.value (Operand.func 16), args := #[Operand.tmp 111], argTypes := #[25] }, type := 3, pos := "law.go:96", after := #[{ on := 0, ground := Ground.data }], guard := none }) rfl (fun K hK => ?_) (AllReadyH.nil)
  go_simp
  refine (HC1.out _ (Only.drew _ _)).mono ?_
  rintro e x1 ⟨rfl, rfl⟩
  refine hK.out _ _ (Only.drew _ _) (fun hHeld => ?_)
  clear hK K
  try simp only [Act.put, List.setIfInBounds_toArray, List.set_cons_zero, List.set_cons_succ]
  refine wpAnyH_take (i := 6) (oi := { dst := some 117, op := Op.binOp BinOp.eql 3 (Operand.tmp 112) (Operand.tmp 116) 3, type := 4, pos := "law.go:96", after := #[{ on := 1, ground := Ground.data }, { on := 5, ground := Ground.data }], guard := none }) (v := .bool true) rfl (by kernel_rfl) (by kernel_rfl) (by kernel_rfl) (fun _ _ _ h => h) (Or.inl ⟨by rfl, fun w' hSw => by clear hSw; go_simp⟩) (by assumption) ?_
  simp only [Act.put, List.setIfInBounds_toArray, List.set_cons_zero, List.set_cons_succ]
  refine wpAnyH_take (i := 7) (oi := { dst := some 118, op := Op.move (Operand.tmp 117), type := 4, pos := "law.go:96", after := #[{ on := 6, ground := Ground.data }, { on := 1, ground := Ground.chain }], guard := none }) (v := .bool true) rfl (by kernel_rfl) (by kernel_rfl) (by kernel_rfl) (fun _ _ _ h => h) (Or.inl ⟨by rfl, fun w' hSw => by clear hSw; go_simp⟩) (by assumption) ?_
  simp only [Act.put, List.setIfInBounds_toArray, List.set_cons_zero, List.set_cons_succ]
  refine wpAnyH_take (i := 8) (oi := { dst := some 119, op := Op.move (Operand.tmp 0), type := 25, pos := "law.go:96", after := #[{ on := 7, ground := Ground.guard }], guard := some (7, true) }) (v := .pointer (some ⟨d, 0, none⟩)) rfl (by kernel_rfl) (by kernel_rfl) (by kernel_rfl) (fun _ _ _ h => h) (Or.inl ⟨by rfl, fun w' hSw => by clear hSw; go_simp⟩) (by assumption) ?_
  simp only [Act.put, List.setIfInBounds_toArray, List.set_cons_zero, List.set_cons_succ]
  refine wpAnyH_take (i := 10) (oi := { dst := some 121, op := Op.move (Operand.tmp 1), type := 29, pos := "law.go:96", after := #[{ on := 7, ground := Ground.guard }], guard := some (7, true) }) (v := .pointer (some ⟨x, 0, none⟩)) rfl (by kernel_rfl) (by kernel_rfl) (by kernel_rfl) (fun _ _ _ h => h) (Or.inl ⟨by rfl, fun w' hSw => by clear hSw; go_simp⟩) (by assumption) ?_
  simp only [Act.put, List.setIfInBounds_toArray, List.set_cons_zero, List.set_cons_succ]
  refine wpAnyH_take (i := 11) (oi := { dst := some 122, op := Op.nilCheck (Operand.tmp 121), type := 0, pos := "law.go:96", after := #[{ on := 10, ground := Ground.data }, { on := 7, ground := Ground.guard }], guard := some (7, true) }) (v := .pointer (some ⟨x, 0, none⟩)) rfl (by kernel_rfl) (by kernel_rfl) (by kernel_rfl) (fun _ _ _ h => h) (Or.inl ⟨by rfl, fun w' hSw => by clear hSw; go_simp⟩) (by assumption) ?_
  simp only [Act.put, List.setIfInBounds_toArray, List.set_cons_zero, List.set_cons_succ]
  refine wpAnyH_take (i := 12) (oi := { dst := some 123, op := Op.fieldAddr 52 (Operand.tmp 122) 4, type := 0, pos := "law.go:96", after := #[{ on := 11, ground := Ground.data }, { on := 7, ground := Ground.guard }], guard := some (7, true) }) (v := .pointer (some ⟨x, 4, none⟩)) rfl (by kernel_rfl) (by kernel_rfl) (by kernel_rfl) (fun _ _ _ h => h) (Or.inl ⟨by rfl, fun w' hSw => by clear hSw; go_simp⟩) (by assumption) ?_
  simp only [Act.put, List.setIfInBounds_toArray, List.set_cons_zero, List.set_cons_succ]
  refine wpAnyH_take (i := 13) (oi := { dst := some 124, op := Op.load 4 (Operand.tmp 123), type := 4, pos := "law.go:96", after := #[{ on := 12, ground := Ground.data }, { on := 7, ground := Ground.guard }], guard := some (7, true) }) (v := .bool Q) rfl (by kernel_rfl) (by kernel_rfl) (by kernel_rfl) (fun _ _ _ h => h) (yieldsIf_load_cell (by rfl) 4 _ rfl _ rfl (fun W hW => (HX.out W hW).2.1) (fun W hc => ld_bool hc)) (by assumption) ?_
  simp only [Act.put, List.setIfInBounds_toArray, List.set_cons_zero, List.set_cons_succ]
  refine wpAnyH_ready (rs := [9]) (by kernel_rfl) (by simp) ?_
  refine AllReadyH.cons (o := { dst := some 120, op := Op.call { callee := Callee.value (Operand.func 29), args := #[Operand.tmp 119], argTypes := #[25] }, type := 4, pos := "law.go:96", after := #[{ on := 8, ground := Ground.data }, { on := 7, ground := Ground.chain }, { on := 7, ground := Ground.guard }], guard := some (7, true) }) rfl (fun K hK => ?_) (AllReadyH.nil)
  go_simp
  refine (HC2.out _ (Only.drew _ _)).mono ?_
  rintro e x2 ⟨rfl, rfl⟩
  refine hK.out _ _ (Only.drew _ _) (fun hHeld => ?_)
  clear hK K
  try simp only [Act.put, List.setIfInBounds_toArray, List.set_cons_zero, List.set_cons_succ]
  refine wpAnyH_take (i := 14) (oi := { dst := some 125, op := Op.binOp BinOp.eql 4 (Operand.tmp 120) (Operand.tmp 124) 4, type := 4, pos := "law.go:96", after := #[{ on := 9, ground := Ground.data }, { on := 13, ground := Ground.data }, { on := 7, ground := Ground.guard }], guard := some (7, true) }) (v := .bool true) rfl (by kernel_rfl) (by kernel_rfl) (by kernel_rfl) (fun _ _ _ h => h) (Or.inl ⟨by rfl, fun w' hSw => by clear hSw; go_simp⟩) (by assumption) ?_
  simp only [Act.put, List.setIfInBounds_toArray, List.set_cons_zero, List.set_cons_succ]
  refine wpAnyH_take (i := 15) (oi := { dst := some 126, op := Op.pick (Operand.tmp 118) (Operand.tmp 125) (Operand.const (Value.bool false)), type := 4, pos := "law.go:96", after := #[{ on := 7, ground := Ground.data }, { on := 14, ground := Ground.data }], guard := none }) (v := .bool true) rfl (by kernel_rfl) (by kernel_rfl) (by kernel_rfl) (fun _ _ _ h => h) (Or.inl ⟨by rfl, fun w' hSw => by clear hSw; go_simp⟩) (by assumption) ?_
  simp only [Act.put, List.setIfInBounds_toArray, List.set_cons_zero, List.set_cons_succ]
  refine wpAnyH_take (i := 16) (oi := { dst := some 127, op := Op.move (Operand.tmp 126), type := 4, pos := "law.go:96", after := #[{ on := 15, ground := Ground.data }, { on := 9, ground := Ground.chain }], guard := none }) (v := .bool true) rfl (by kernel_rfl) (by kernel_rfl) (by kernel_rfl) (fun _ _ _ h => h) (Or.inl ⟨by rfl, fun w' hSw => by clear hSw; go_simp⟩) (by assumption) ?_
  simp only [Act.put, List.setIfInBounds_toArray, List.set_cons_zero, List.set_cons_succ]
  refine wpAnyH_take (i := 17) (oi := { dst := some 128, op := Op.move (Operand.tmp 0), type := 25, pos := "law.go:96", after := #[{ on := 16, ground := Ground.guard }], guard := some (16, true) }) (v := .pointer (some ⟨d, 0, none⟩)) rfl (by kernel_rfl) (by kernel_rfl) (by kernel_rfl) (fun _ _ _ h => h) (Or.inl ⟨by rfl, fun w' hSw => by clear hSw; go_simp⟩) (by assumption) ?_
  simp only [Act.put, List.setIfInBounds_toArray, List.set_cons_zero, List.set_cons_succ]
  refine wpAnyH_take (i := 19) (oi := { dst := some 130, op := Op.move (Operand.tmp 1), type := 29, pos := "law.go:96", after := #[{ on := 16, ground := Ground.guard }], guard := some (16, true) }) (v := .pointer (some ⟨x, 0, none⟩)) rfl (by kernel_rfl) (by kernel_rfl) (by kernel_rfl) (fun _ _ _ h => h) (Or.inl ⟨by rfl, fun w' hSw => by clear hSw; go_simp⟩) (by assumption) ?_
  simp only [Act.put, List.setIfInBounds_toArray, List.set_cons_zero, List.set_cons_succ]
  refine wpAnyH_take (i := 20) (oi := { dst := some 131, op := Op.nilCheck (Operand.tmp 130), type := 0, pos := "law.go:96", after := #[{ on := 19, ground := Ground.data }, { on := 16, ground := Ground.guard }], guard := some (16, true) }) (v := .pointer (some ⟨x, 0, none⟩)) rfl (by kernel_rfl) (by kernel_rfl) (by kernel_rfl) (fun _ _ _ h => h) (Or.inl ⟨by rfl, fun w' hSw => by clear hSw; go_simp⟩) (by assumption) ?_
  simp only [Act.put, List.setIfInBounds_toArray, List.set_cons_zero, List.set_cons_succ]
  refine wpAnyH_take (i := 21) (oi := { dst := some 132, op := Op.fieldAddr 52 (Operand.tmp 131) 0, type := 0, pos := "law.go:96", after := #[{ on := 20, ground := Ground.data }, { on := 16, ground := Ground.guard }], guard := some (16, true) }) (v := .pointer (some ⟨x, 0, none⟩)) rfl (by kernel_rfl) (by kernel_rfl) (by kernel_rfl) (fun _ _ _ h => h) (Or.inl ⟨by rfl, fun w' hSw => by clear hSw; go_simp⟩) (by assumption) ?_
  simp only [Act.put, List.setIfInBounds_toArray, List.set_cons_zero, List.set_cons_succ]
  refine wpAnyH_take (i := 22) (oi := { dst := some 133, op := Op.load 49 (Operand.tmp 132), type := 49, pos := "law.go:96", after := #[{ on := 21, ground := Ground.data }, { on := 16, ground := Ground.guard }], guard := some (16, true) }) (v := .slice (some ⟨a, 0, none⟩) N ka) rfl (by kernel_rfl) (by kernel_rfl) (by kernel_rfl) (fun _ _ _ h => h) (yieldsIf_load_cell (by rfl) 49 _ rfl _ rfl (fun W hW => (HX.out W hW).2.2) (fun W hc => ld_strings hc)) (by assumption) ?_
  simp only [Act.put, List.setIfInBounds_toArray, List.set_cons_zero, List.set_cons_succ]
  refine wpAnyH_take (i := 23) (oi := { dst := some 134, op := Op.call { callee := Callee.builtin Builtin.len, args := #[Operand.tmp 133], argTypes := #[49] }, type := 3, pos := "law.go:96", after := #[{ on := 22, ground := Ground.data }, { on := 16, ground := Ground.guard }], guard := some (16, true) }) (v := .int .i64 (N : Int)) rfl (by kernel_rfl) (by kernel_rfl) (by kernel_rfl) (fun _ _ _ h => h) (Or.inl ⟨by rfl, fun w' hSw => by clear hSw; go_simp⟩) (by assumption) ?_
  simp only [Act.put, List.setIfInBounds_toArray, List.set_cons_zero, List.set_cons_succ]
  refine wpAnyH_ready (rs := [18]) (by kernel_rfl) (by simp) ?_
  refine AllReadyH.cons (o := { dst := some 129, op := Op.call { callee := Callee.value (Operand.func 30), args := #[Operand.tmp 128], argTypes := #[25] }, type := 3, pos := "law.go:96", after := #[{ on := 17, ground := Ground.data }, { on := 16, ground := Ground.chain }, { on := 16, ground := Ground.guard }], guard := some (16, true) }) rfl (fun K hK => ?_) (AllReadyH.nil)
  go_simp
  refine (HC3.out _ (Only.drew _ _)).mono ?_
  rintro e x3 ⟨rfl, rfl⟩
  refine hK.out _ _ (Only.drew _ _) (fun hHeld => ?_)
  clear hK K
  try simp only [Act.put, List.setIfInBounds_toArray, List.set_cons_zero, List.set_cons_succ]
  refine wpAnyH_take (i := 24) (oi := { dst := some 135, op := Op.binOp BinOp.eql 3 (Operand.tmp 129) (Operand.tmp 134) 3, type := 4, pos := "law.go:96", after := #[{ on := 18, ground := Ground.data }, { on := 23, ground := Ground.data }, { on := 16, ground := Ground.guard }], guard := some (16, true) }) (v := .bool true) rfl (by kernel_rfl) (by kernel_rfl) (by kernel_rfl) (fun _ _ _ h => h) (Or.inl ⟨by rfl, fun w' hSw => by clear hSw; go_simp⟩) (by assumption) ?_
  simp only [Act.put, List.setIfInBounds_toArray, List.set_cons_zero, List.set_cons_succ]
  refine wpAnyH_take (i := 25) (oi := { dst := some 136, op := Op.pick (Operand.tmp 127) (Operand.tmp 135) (Operand.const (Value.bool false)), type := 4, pos := "law.go:96", after := #[{ on := 16, ground := Ground.data }, { on := 24, ground := Ground.data }], guard := none }) (v := .bool true) rfl (by kernel_rfl) (by kernel_rfl) (by kernel_rfl) (fun _ _ _ h => h) (Or.inl ⟨by rfl, fun w' hSw => by clear hSw; go_simp⟩) (by assumption) ?_
  simp only [Act.put, List.setIfInBounds_toArray, List.set_cons_zero, List.set_cons_succ]
  refine wpAnyH_take (i := 26) (oi := { dst := some 6, op := Op.assign (Operand.tmp 136), type := 4, pos := "law.go:96", after := #[{ on := 25, ground := Ground.data }, { on := 18, ground := Ground.chain }, { on := 0, ground := Ground.phase }, { on := 1, ground := Ground.phase }, { on := 2, ground := Ground.phase }, { on := 3, ground := Ground.phase }, { on := 4, ground := Ground.phase }, { on := 5, ground := Ground.phase }, { on := 6, ground := Ground.phase }, { on := 7, ground := Ground.phase }, { on := 8, ground := Ground.phase }, { on := 9, ground := Ground.phase }, { on := 10, ground := Ground.phase }, { on := 11, ground := Ground.phase }, { on := 12, ground := Ground.phase }, { on := 13, ground := Ground.phase }, { on := 14, ground := Ground.phase }, { on := 15, ground := Ground.phase }, { on := 16, ground := Ground.phase }, { on := 17, ground := Ground.phase }, { on := 18, ground := Ground.phase }, { on := 19, ground := Ground.phase }, { on := 20, ground := Ground.phase }, { on := 21, ground := Ground.phase }, { on := 22, ground := Ground.phase }, { on := 23, ground := Ground.phase }, { on := 24, ground := Ground.phase }, { on := 25, ground := Ground.phase }], guard := none }) (v := .bool true) rfl (by kernel_rfl) (by kernel_rfl) (by kernel_rfl) (fun _ _ _ h => h) (Or.inl ⟨by rfl, fun w' hSw => by clear hSw; go_simp⟩) (by assumption) ?_
  simp only [Act.put, List.setIfInBounds_toArray, List.set_cons_zero, List.set_cons_succ]
  refine wpAnyH_done (by kernel_rfl) ?_ _
  refine NoPanic.normal ?_
  try rw [Exit.then]
  go_wp2_with fail
  go_ret
  exact ⟨rfl, HB5.out.same (Only.drew _ _), HO5.out.trans (Only.drew (fun _ => False) w5) (fun _ _ h => h.elim)⟩
end Go.Proofs.Ytachbonlakbjmaa
