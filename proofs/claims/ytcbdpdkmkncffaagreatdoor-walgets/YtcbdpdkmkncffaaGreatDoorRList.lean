/- What takeList does: numbers, pairs, images. -/
import Derived.Test.YtcbdpdkmkncffaaGreatDoorRTakeM
namespace Go.Proofs.YtcbdpdkmkncffaaGreatDoor
open Go.RowKit

theorem own_kept {S : Nat → Prop} {w w' : World} {base : Nat} {e : TypeId} {k : Nat} {v : Value} {n : Nat} {xs : List Value} (h : w.ownsRow base e k v n xs) (ho : Only S w w') (hS : ∀ b, v.ownBlock = some b → ¬ S b) : w'.ownsRow base e k v n xs := by
  obtain ⟨h1, h2⟩ := h
  refine ⟨h1, ?_⟩
  rcases h2 with h2 | ⟨g, cap, cur, hv, hg, hh, r⟩
  · exact .inl h2
  · subst hv
    exact .inr ⟨g, cap, cur, rfl, hg, by rw [ho.block g (Array.getElem?_eq_some_iff.1 hh).1 (hS g rfl)]; exact hh, r⟩
theorem flat_at {α : Type} (f : α → List Value) (k : Nat) (hf : ∀ x, (f x).length = k) (l : List α) (j i : Nat) (hj : j < l.length) (hi : i < k) : (l.flatMap f)[j * k + i]? = (f l[j])[i]? := by
  induction l generalizing j with
  | nil => simp at hj
  | cons a t ih =>
    rw [List.flatMap_cons]
    cases j with
    | zero => rw [Nat.zero_mul, Nat.zero_add, List.getElem?_append_left (by rw [hf]; exact hi)]; rfl
    | succ j =>
      rw [List.getElem?_append_right (by rw [hf, Nat.succ_mul]; omega), hf]
      have e : (j + 1) * k + i - k = j * k + i := by rw [Nat.succ_mul]; omega
      rw [e]
      exact ih j (by simpa using hj)
theorem flat_len {α : Type} (f : α → List Value) (k : Nat) (hf : ∀ x, (f x).length = k) (l : List α) : (l.flatMap f).length = l.length * k := by
  induction l with
  | nil => simp
  | cons a t ih => rw [List.flatMap_cons, List.length_append, hf, ih, List.length_cons, Nat.succ_mul]; omega
/-- The cells of a row that is owned. -/
theorem own_cell {w : World} {base : Nat} {e : TypeId} {k : Nat} {n : Nat} {xs : List Value} {g cap : Nat} (h : w.ownsRow base e k (.slice (some ⟨g, 0, none⟩) n cap) n xs) (j : Nat) (u : Value) (hu : xs[j]? = some u) : w.cell? ⟨g, j, none⟩ = some u := by
  have h1 := h.cells (g := g) rfl j u hu
  rw [add_at, Nat.zero_add] at h1
  exact h1
theorem own_form {w : World} {base : Nat} {e : TypeId} {k : Nat} {v : Value} {n : Nat} {xs : List Value} (h : w.ownsRow base e k v n xs) : (v = .slice none 0 0 ∧ n = 0) ∨ ∃ g cap, v = .slice (some ⟨g, 0, none⟩) n cap ∧ base ≤ g ∧ g < w.heap.size ∧ n ≤ cap ∧ cap ≤ maxLen := by
  rcases h.2 with h2 | ⟨g, cap, cur, hv, hg, hh, h1, h2, _⟩
  · exact .inl h2
  · exact .inr ⟨g, cap, hv, hg, (Array.getElem?_eq_some_iff.1 hh).1, h1, h2⟩
def prc (p : Int × Int) : List Value := [.int .i64 p.1, .int .i64 p.2]
theorem own_zs {w : World} {base : Nat} {v : Value} {l : List Int} (h : w.ownsRow base 3 1 v l.length (l.map (Value.int .i64))) (hl : l.length ≤ 17592186043904) :
    ∃ B ao cp, v = .slice ao l.length cp ∧ Zs w B ao l ∧ Fit ao l.length cp ∧ (0 < l.length → base ≤ B) := by
  rcases own_form h with ⟨rfl, h0⟩ | ⟨g, cap, rfl, hb, hg, h1, h2⟩
  · have e : l = [] := List.eq_nil_of_length_eq_zero h0
    subst e
    exact ⟨0, none, 0, rfl, Zs.nil _ _ _, ⟨fun _ => rfl, by simp, by simp⟩, fun h => absurd h (by simp)⟩
  · refine ⟨g, some ⟨g, 0, none⟩, cap, rfl, ⟨fun _ => ⟨0, rfl, fun j hj => ?_⟩, fun _ => hg, hl⟩, ⟨(fun h => by cases h), h1, h2⟩, fun _ => hb⟩
    exact own_cell h (0 + j) _ (by simp [hj])
theorem own_prs {w : World} {base : Nat} {e : TypeId} {v : Value} {l : List (Int × Int)} (h : w.ownsRow base e 2 v l.length (l.flatMap prc)) (hl : l.length ≤ 17592186043904) :
    ∃ B ao cp, v = .slice ao l.length cp ∧ Prs w B ao l ∧ Fit ao l.length cp ∧ (0 < l.length → base ≤ B) := by
  rcases own_form h with ⟨rfl, h0⟩ | ⟨g, cap, rfl, hb, hg, h1, h2⟩
  · have e : l = [] := List.eq_nil_of_length_eq_zero h0
    subst e
    exact ⟨0, none, 0, rfl, Prs.nil _ _ _, ⟨fun _ => rfl, by simp, by simp⟩, fun h => absurd h (by simp)⟩
  · refine ⟨g, some ⟨g, 0, none⟩, cap, rfl, ⟨fun _ => ⟨0, rfl, fun j hj => ⟨?_, ?_⟩⟩, fun _ => hg, hl⟩, ⟨(fun h => by cases h), h1, h2⟩, fun _ => hb⟩
    · rw [Nat.zero_add]
      exact own_cell h (j * 2) _ (by have := flat_at prc 2 (fun _ => rfl) l j 0 hj (by omega); rw [Nat.add_zero] at this; rw [this]; rfl)
    · rw [Nat.zero_add]
      exact own_cell h (j * 2 + 1) _ (by rw [flat_at prc 2 (fun _ => rfl) l j 1 hj (by omega)]; rfl)
/-- What takeList answers: a list that it owns, and the Reader. -/
structure TlQ (w w' : World) (e : Ending) (r : Nat) (P : World → Value → Prop) (s : St) : Prop where
  ex : ∃ v, e = .returned v ∧ P w' v
  rs : Rs w' r s
  only : Only (fun k => k = r) w w'
theorem Tryz.infoInt : (Tryz.prog.info? 3).map (fun i => (i.zero, i.size, i.bytes)) = some (some (.int .i64 0), 1, 8) := by kernel_rfl
theorem append_ints (w : World) (ty : TypeId) (base : Nat) (v : Value) (l : List Int) (h : w.ownsRow base 3 1 v l.length (l.map (Value.int .i64))) (z : Int) (hroom : l.length ≤ 100000) (hbase : base ≤ w.heap.size) :
    ∃ v' w', (Builtin.append_ #[32, 32] ty #[v, .slice (some ⟨w.heap.size, 0, none⟩) 1 1]).run Tryz.prog (w.alloc (.cells #[.int .i64 z] 3)) = .ok v' w' ∧ w'.ownsRow base 3 1 v' (l ++ [z]).length ((l ++ [z]).map (Value.int .i64)) ∧ Only (fun k => base ≤ k) w w' := by
  obtain ⟨i0, hi, hz0, hz1, hz2⟩ := info_parts Tryz.infoInt
  have h' := own_kept h (onlyA w (.cells #[.int .i64 z] 3)) (fun _ _ h => h)
  obtain ⟨v', w', hr, h2, h3, _, _⟩ := run_append_own_at (P := Tryz.prog) _ base 32 ty 3 i0 (.int .i64 0) 1 8 Tryz.underlying32 hi hz0 hz1 hz2 rfl (by decide) v l.length _ h' ⟨w.heap.size, 0, none⟩ 1 1 [.int .i64 z] rfl
    (fun j u hu => by
      match j, hu with
      | 0, hu => simp at hu; rw [← hu, add_at]; simp) (by intro u hu; simp at hu; subst hu; rfl) (by unfold maxLen; omega) (by omega) (by simp; omega)
  refine ⟨v', w', hr, ?_, (Only.alloc (fun k => base ≤ k) w _).trans (Only.grown (S := fun k => base ≤ k) h3 (fun k hk => (World.ownsRow.lt h' k hk).1)) (fun _ _ h => h)⟩
  have e : l.length + 1 = (l ++ [z]).length := by simp
  rw [List.map_append, ← e]
  exact h2
set_option maxRecDepth 100000 in
set_option maxHeartbeats 1600000 in
theorem tli_any (w : World) (r : Nat) (s : St) (most : Int) (h : Rs w r s) (hm : 0 ≤ most) (hm2 : most ≤ 255) :
    Calls Tryz.prog 78 #[.pointer (some ⟨r, 0, none⟩), .int .i64 most, .func (.func 75) #[] #[]] w fun e w' => TlQ w w' e r (fun W v => W.ownsRow w.heap.size 3 1 v (rL (rN top) most s).1.length ((rL (rN top) most s).1.map (Value.int .i64)) ∧ (rL (rN top) most s).1.length ≤ 255) (rL (rN top) most s).2 := by
  have HS := hide h
  have hlt := h.lt
  obtain ⟨⟨n0, s1⟩, h1⟩ : ∃ a, rN most s = a := ⟨_, rfl⟩
  have hb := rN_bd most s
  have hle := rN_le most s hm
  rw [h1] at hb hle
  simp only at hb hle
  obtain ⟨n, rfl⟩ := Int.eq_ofNat_of_zero_le hb.1
  obtain ⟨⟨R, sR⟩, hT⟩ : ∃ a, rL (rN top) most s = a := ⟨_, rfl⟩
  have HT : Hid (takeL (rN top) n [] s1 = (R, sR)) := by
    unfold Hid
    rw [← hT]
    unfold rL
    rw [h1]
    simp only [Int.toNat_natCast]
  rw [hT]
  have H1 := hide h1
  have hn : n ≤ 255 := by omega
  clear h h1 hT hb hle
  go_enter Tryz.func78, Tryz.ntmps78
  go_wp2_with fail
  have q1 := rn_any w r s most HS.out
  rw [H1.out] at q1
  refine Calls.mono q1 ?_
  clear q1
  rintro e w1 ⟨rfl, hr1, ho1⟩
  have HR1 := hide hr1
  have HO1 := hide ho1
  clear hr1 ho1
  simp only
  go_wp2_with fail
  go_loopw [7, 12] (fun x y wr => ∃ (j : Nat) (acc : List Int) (s' : St), j ≤ n ∧ y = .int .i64 (j : Int) ∧ Hid (acc.length = j) ∧ Hid (wr.ownsRow w.heap.size 3 1 x acc.length (acc.map (Value.int .i64))) ∧ Hid (Rs wr r s') ∧ Hid (Only (fun k => k = r) w wr) ∧ Hid (takeL (rN top) (n - j) acc s' = (R, sR))) (fun _ y _ => n - (intOf y).toNat)
  case atStart => exact ⟨0, [], s1, by omega, rfl, rfl, World.ownsRow_nil _ _ _ _, HR1, HO1, HT⟩
  case round =>
    obtain ⟨j, acc, s', hj, rfl, HA, HW, HR, HO, HM⟩ := hrel
    by_cases hlt2 : j < n
    · obtain ⟨m, hm⟩ : ∃ m, n - j = m + 1 := ⟨n - j - 1, by omega⟩
      rw [hm] at HM
      have hj1 : (j : Int) < (n : Int) := by omega
      obtain ⟨⟨z, s2⟩, h2⟩ : ∃ a, rN top s' = a := ⟨_, rfl⟩
      have H2 := hide h2
      have HMM := hide hm
      clear h2 hm
      go_wp2_with fail
      have q2 := tn_any wr r s' HR.out
      rw [H2.out] at q2
      refine Calls.mono q2 ?_
      clear q2
      rintro e w2 ⟨rfl, hr2, ho2⟩
      have HR2 := hide hr2
      have HO2 : Hid (Only (fun k => k = r) w w2) := HO.out.trans ho2 (fun _ _ h => h)
      have HW2 := hide (own_kept HW.out ho2 (fun b hb e => by have := (World.ownsRow.lt HW.out b hb).1; omega))
      have c1 := hr2.c1
      clear hr2 ho2
      simp only at c1 ⊢
      go_wp2_with fail
      refine (rerr_any w2 r s2.2 c1).mono ?_
      rintro e w3 ⟨rfl, hw3⟩
      obtain rfl := hw3.symm
      by_cases hx : s2.2 = 0
      · have hx' : (s2.2 != 0) = false := by simp [hx]
        have HM2 : Hid (takeL (rN top) (n - (j + 1)) (acc ++ [z]) s2 = (R, sR)) := by
          unfold Hid
          rw [← HM.out, takeL_next (by rw [H2.out]; exact hx), H2.out]
          have : n - (j + 1) = m := by have := HMM.out; omega
          rw [this]
        have HAL := HA.out
        obtain ⟨v4, w4, r4, l4, o4⟩ := append_ints w2 32 w.heap.size _ acc HW2.out z (by omega) HO2.out.size
        have R4 := hide r4
        have L4 := hide l4
        have O4 : Hid (Only (fun k => k = r) w w4) := HO2.out.trans o4 (fun k hk e => by omega)
        have HR4 := hide (HR2.out.kept o4 (by omega))
        clear r4 l4 o4 hx HAL
        go_wp2_with (at_builtin; go_must (refine Lib.wpList_append_run _ rfl (.tmp 20) (.tmp 22) _ _ rfl _ _ rfl rfl _ _ R4.out ?_))
        go_roundw
        case rel => exact ⟨j + 1, acc ++ [z], s2, by omega, by go_num, by unfold Hid; rw [List.length_append, HA.out]; rfl, L4, HR4, O4, HM2⟩
        case measure => simp [intOf]; omega
      · have hx' : (s2.2 != 0) = true := by simpa using hx
        have HM2 : Hid (([], s2) = (R, sR)) := by
          unfold Hid
          rw [← HM.out, takeL_stop (by rw [H2.out]; exact hx), H2.out]
        clear hx
        go_wp2_with fail
        go_ret
        have hm2 := HM2.out
        simp only [Prod.mk.injEq] at hm2
        obtain ⟨rfl, rfl⟩ := hm2
        exact ⟨⟨_, rfl, World.ownsRow_nil _ _ _ _, by simp⟩, HR2.out, HO2.out⟩
    · have e0 : n - j = 0 := by omega
      have HF : Hid ((acc, s') = (R, sR)) := by unfold Hid; rw [← HM.out, e0]; rfl
      go_wp2_with fail
      go_ret
      have hf := HF.out
      simp only [Prod.mk.injEq] at hf
      obtain ⟨rfl, rfl⟩ := hf
      have := HA.out
      exact ⟨⟨_, rfl, HW.out, by omega⟩, HR.out, HO.out⟩
end Go.Proofs.YtcbdpdkmkncffaaGreatDoor
