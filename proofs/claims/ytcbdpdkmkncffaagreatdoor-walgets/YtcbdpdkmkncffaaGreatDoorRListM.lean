/- What takeList does with images. -/
import Derived.Test.YtcbdpdkmkncffaaGreatDoorRListP
namespace Go.Proofs.YtcbdpdkmkncffaaGreatDoor
open Go.RowKit

/-- An image, and where its page's items lie. -/
abbrev Lm := Im × (Nat × Option Addr × Nat)
def imc (z : Lm) : List Value := [.int .i64 z.1.page, .int .i64 z.1.body.lsn, .int .i64 z.1.body.kind, .int .i64 z.1.body.level, .int .i64 z.1.body.right, .string z.1.body.high, .slice z.2.2.1 z.1.body.items.length z.2.2.2]
structure LmAt (w : World) (base : Nat) (v : Value) (z : Lm) : Prop where
  strs : Strs w z.2.1 z.2.2.1 z.1.body.items
  fit : Fit z.2.2.1 z.1.body.items.length z.2.2.2
  ge : 0 < z.1.body.items.length → base ≤ z.2.1
  ne : 0 < z.1.body.items.length → v.ownBlock ≠ some z.2.1
  high : z.1.body.high.size ≤ 140737488355328
  lsn : z.1.body.lsn < 9223372036854775808
/-- Images that the value v owns. -/
structure Li (w : World) (base : Nat) (v : Value) (l : List Lm) : Prop where
  own : w.ownsRow base 79 7 v l.length (l.flatMap imc)
  each : ∀ z ∈ l, LmAt w base v z
theorem Li.kept {S : Nat → Prop} {w w' : World} {base : Nat} {v : Value} {l : List Lm} (h : Li w base v l) (ho : Only S w w') (hS : ∀ k, base ≤ k → ¬ S k) : Li w' base v l :=
  ⟨own_kept h.own ho (fun b hb => hS b (World.ownsRow.lt h.own b hb).1), fun z hz => by
    obtain ⟨h1, h2, h3, h4, h5, h6⟩ := h.each z hz
    exact ⟨h1.kept ho (fun h0 => hS _ (h3 h0)), h2, h3, h4, h5, h6⟩⟩
theorem Li.nil (w : World) (base : Nat) : Li w base (.slice none 0 0) [] := ⟨World.ownsRow_nil _ _ _ _, fun z hz => by cases hz⟩
theorem Li.ims {w : World} {base : Nat} {v : Value} {l : List Lm} (h : Li w base v l) (hl : l.length ≤ 17592186043904) :
    ∃ B ao cp, v = .slice ao (l.map (·.1)).length cp ∧ Ims w (fun d => base ≤ d) B ao (l.map (·.1)) ∧ Fit ao (l.map (·.1)).length cp ∧ (0 < l.length → base ≤ B) := by
  have hlen : (l.map (·.1)).length = l.length := by simp
  rcases own_form h.own with ⟨rfl, h0⟩ | ⟨g, cap, rfl, hb, hg, h1, h2⟩
  · have e : l = [] := List.eq_nil_of_length_eq_zero h0
    subst e
    exact ⟨0, none, 0, rfl, Ims.nil _ _ _ _, ⟨fun _ => rfl, by simp, by simp⟩, fun h => absurd h (by simp)⟩
  · refine ⟨g, some ⟨g, 0, none⟩, cap, by rw [hlen], ⟨fun _ => ⟨0, rfl, fun j hj => ?_⟩, fun _ => hg, by rw [hlen]; exact hl⟩, ⟨(fun h => by cases h), by rw [hlen]; exact h1, h2⟩, fun _ => hb⟩
    have hj' : j < l.length := by rw [hlen] at hj; exact hj
    have hz : (l.map (·.1))[j] = l[j].1 := by simp
    have he := h.each l[j] (List.getElem_mem hj')
    have hc : ∀ i u, i < 7 → (imc l[j])[i]? = some u → w.cell? ⟨g, j * 7 + i, none⟩ = some u := fun i u hi hu =>
      own_cell h.own (j * 7 + i) u (by rw [flat_at imc 7 (fun _ => rfl) l j i hj' hi]; exact hu)
    rw [hz, Nat.zero_add]
    exact ⟨l[j].2.1, l[j].2.2.1, l[j].2.2.2, ⟨hc 0 _ (by omega) rfl, hc 1 _ (by omega) rfl, hc 2 _ (by omega) rfl, hc 3 _ (by omega) rfl, hc 4 _ (by omega) rfl, hc 5 _ (by omega) rfl, hc 6 _ (by omega) rfl, he.strs, he.fit, he.high, he.lsn⟩, he.ge⟩
theorem Tryz.infoImage : (Tryz.prog.info? 79).map (fun i => (i.zero, i.size, i.bytes)) = some (some (.agg #[.int .i64 0, .int .i64 0, .int .i64 0, .int .i64 0, .int .i64 0, .string ⟨#[]⟩, .slice none 0 0]), 7, 80) := by kernel_rfl
theorem append_image (w : World) (ty : TypeId) (base : Nat) (v : Value) (l : List Lm) (h : Li w base v l) (z : Lm) (hz : LmAt w base v z) (hroom : l.length ≤ 100000) (hbase : base ≤ w.heap.size) :
    ∃ v' w', (Builtin.append_ #[33, 33] ty #[v, .slice (some ⟨w.heap.size, 0, none⟩) 1 1]).run Tryz.prog (w.alloc (.cells #[.int .i64 z.1.page, .int .i64 z.1.body.lsn, .int .i64 z.1.body.kind, .int .i64 z.1.body.level, .int .i64 z.1.body.right, .string z.1.body.high, .slice z.2.2.1 z.1.body.items.length z.2.2.2] 79)) = .ok v' w' ∧ Li w' base v' (l ++ [z]) ∧ Only (fun k => base ≤ k) w w' := by
  obtain ⟨i0, hi, hz0, hz1, hz2⟩ := info_parts Tryz.infoImage
  have hA := onlyA w (.cells #[.int .i64 z.1.page, .int .i64 z.1.body.lsn, .int .i64 z.1.body.kind, .int .i64 z.1.body.level, .int .i64 z.1.body.right, .string z.1.body.high, .slice z.2.2.1 z.1.body.items.length z.2.2.2] 79)
  have h' := own_kept h.own hA (fun _ _ h => h)
  obtain ⟨v', w', hr, h2, h3, _, h5⟩ := run_append_own_at (P := Tryz.prog) _ base 33 ty 79 i0 (.agg #[.int .i64 0, .int .i64 0, .int .i64 0, .int .i64 0, .int .i64 0, .string ⟨#[]⟩, .slice none 0 0]) 7 80 Tryz.underlying33 hi hz0 hz1 hz2 rfl (by decide) v l.length _ h' ⟨w.heap.size, 0, none⟩ 1 1 (imc z) rfl
    (fun j u hu => by
      match j, hu with
      | 0, hu => simp [imc] at hu; rw [← hu, add_at]; simp
      | 1, hu => simp [imc] at hu; rw [← hu, add_at]; simp
      | 2, hu => simp [imc] at hu; rw [← hu, add_at]; simp
      | 3, hu => simp [imc] at hu; rw [← hu, add_at]; simp
      | 4, hu => simp [imc] at hu; rw [← hu, add_at]; simp
      | 5, hu => simp [imc] at hu; rw [← hu, add_at]; simp
      | 6, hu => simp [imc] at hu; rw [← hu, add_at]; simp) (by intro u hu; simp [imc] at hu; rcases hu with rfl | rfl | rfl | rfl | rfl | rfl | rfl <;> rfl) (by unfold maxLen; omega) (by omega) (by simp; omega)
  have hg : Only (fun k => v.ownBlock = some k) (w.alloc (.cells #[.int .i64 z.1.page, .int .i64 z.1.body.lsn, .int .i64 z.1.body.kind, .int .i64 z.1.body.level, .int .i64 z.1.body.right, .string z.1.body.high, .slice z.2.2.1 z.1.body.items.length z.2.2.2] 79)) w' := Only.grown (S := fun k => v.ownBlock = some k) h3 (fun k hk => hk)
  have hsz : (w.alloc (.cells #[.int .i64 z.1.page, .int .i64 z.1.body.lsn, .int .i64 z.1.body.kind, .int .i64 z.1.body.level, .int .i64 z.1.body.right, .string z.1.body.high, .slice z.2.2.1 z.1.body.items.length z.2.2.2] 79)).heap.size = w.heap.size + 1 := by simp
  have one : ∀ x : Lm, LmAt w base v x → LmAt w' base v' x := fun x hx => by
    obtain ⟨k1, k2, k3, k4, k5, k6⟩ := hx
    refine ⟨(k1.more hA).kept hg (fun h0 => k4 h0), k2, k3, fun h0 => ?_, k5, k6⟩
    rcases h5 with e | e
    · rw [e]; exact k4 h0
    · rw [e, hsz]
      intro e2
      injection e2 with e2
      have := k1.lt h0
      omega
  refine ⟨v', w', hr, ⟨?_, fun x hx => ?_⟩, (Only.alloc (fun k => base ≤ k) w _).trans (Only.grown (S := fun k => base ≤ k) h3 (fun k hk => (World.ownsRow.lt h' k hk).1)) (fun _ _ h => h)⟩
  · have e : l.length + 1 = (l ++ [z]).length := by simp
    have e2 : (l ++ [z]).flatMap imc = l.flatMap imc ++ imc z := by simp
    rw [e2, ← e]
    exact h2
  · rcases List.mem_append.1 hx with hx | hx
    · exact one x (h.each x hx)
    · simp at hx; subst hx; exact one x hz
set_option maxRecDepth 100000 in
set_option maxHeartbeats 1600000 in
theorem tlimage_any (w : World) (r : Nat) (s : St) (most : Int) (h : Rs w r s) (hm : 0 ≤ most) (hm2 : most ≤ 4) :
    Calls Tryz.prog 79 #[.pointer (some ⟨r, 0, none⟩), .int .i64 most, .func (.func 80) #[] #[]] w fun e w' => TlQ w w' e r (fun W v => ∃ L : List Lm, L.map (·.1) = (rL rIm most s).1 ∧ Li W w.heap.size v L ∧ L.length ≤ 4) (rL rIm most s).2 := by
  have HS := hide h
  have hlt := h.lt
  obtain ⟨⟨n0, s1⟩, h1⟩ : ∃ a, rN most s = a := ⟨_, rfl⟩
  have hb := rN_bd most s
  have hle := rN_le most s hm
  rw [h1] at hb hle
  simp only at hb hle
  obtain ⟨n, rfl⟩ := Int.eq_ofNat_of_zero_le hb.1
  obtain ⟨⟨R, sR⟩, hT⟩ : ∃ a, rL rIm most s = a := ⟨_, rfl⟩
  have HT : Hid (takeL rIm n [] s1 = (R, sR)) := by
    unfold Hid
    rw [← hT]
    unfold rL
    rw [h1]
    simp only [Int.toNat_natCast]
  rw [hT]
  have H1 := hide h1
  have hn : n ≤ 4 := by omega
  clear h h1 hT hb hle
  go_enter Tryz.func79, Tryz.ntmps79
  go_wp2_with fail
  have q1 := rn_any w r s most HS.out
  rw [H1.out] at q1
  refine Calls.mono q1 ?_
  clear q1
  rintro e w1 ⟨rfl, hr1, ho1⟩
  have HR1 := hide hr1
  have HO1 := hide ho1
  clear hr1 ho1
  simp only
  go_wp2_with fail
  go_loopw [7, 12] (fun x y wr => ∃ (j : Nat) (acc : List Lm) (s' : St), j ≤ n ∧ y = .int .i64 (j : Int) ∧ Hid (acc.length = j) ∧ Hid (Li wr w.heap.size x acc) ∧ Hid (Rs wr r s') ∧ Hid (Only (fun k => k = r) w wr) ∧ Hid (takeL rIm (n - j) (acc.map (·.1)) s' = (R, sR))) (fun _ y _ => n - (intOf y).toNat)
  case atStart => exact ⟨0, [], s1, by omega, rfl, rfl, Li.nil _ _, HR1, HO1, HT⟩
  case round =>
    obtain ⟨j, acc, s', hj, rfl, HA, HW, HR, HO, HM⟩ := hrel
    by_cases hlt2 : j < n
    · obtain ⟨m, hm⟩ : ∃ m, n - j = m + 1 := ⟨n - j - 1, by omega⟩
      rw [hm] at HM
      have hj1 : (j : Int) < (n : Int) := by omega
      obtain ⟨⟨iz, s2⟩, h2⟩ : ∃ a, rIm s' = a := ⟨_, rfl⟩
      have H2 := hide h2
      have HMM := hide hm
      have hwr := HO.out.size
      clear h2 hm
      go_wp2_with fail
      have q2 := tm_any wr r s' HR.out
      rw [H2.out] at q2
      refine Calls.mono q2 ?_
      clear q2
      rintro e w2 hq
      obtain ⟨D, a, c, rfl, hst, hft, hD⟩ := hq.ex
      have hr2 := hq.rs
      have ho2 := hq.only
      have hls := hq.lsn
      have hhi := hq.high
      obtain ⟨z, hz⟩ : ∃ z : Lm, z = (iz, (D, a, c)) := ⟨_, rfl⟩
      have e1 : iz = z.1 := by rw [hz]
      have e2 : D = z.2.1 := by rw [hz]
      have e3 : a = z.2.2.1 := by rw [hz]
      have e4 : c = z.2.2.2 := by rw [hz]
      simp only at hst hft hD hls hhi
      subst e1 e2 e3 e4
      clear hz hq
      have hOA := onlyA w2 (.cells #[.int .i64 z.1.page, .int .i64 z.1.body.lsn, .int .i64 z.1.body.kind, .int .i64 z.1.body.level, .int .i64 z.1.body.right, .string z.1.body.high, .slice z.2.2.1 z.1.body.items.length z.2.2.2] 79)
      have hd0 : (w2.alloc (.cells #[.int .i64 z.1.page, .int .i64 z.1.body.lsn, .int .i64 z.1.body.kind, .int .i64 z.1.body.level, .int .i64 z.1.body.right, .string z.1.body.high, .slice z.2.2.1 z.1.body.items.length z.2.2.2] 79)).cell? ⟨w2.heap.size, 0, none⟩ = some (.int .i64 z.1.page) := by simp
      have hd1 : (w2.alloc (.cells #[.int .i64 z.1.page, .int .i64 z.1.body.lsn, .int .i64 z.1.body.kind, .int .i64 z.1.body.level, .int .i64 z.1.body.right, .string z.1.body.high, .slice z.2.2.1 z.1.body.items.length z.2.2.2] 79)).cell? ⟨w2.heap.size, 1, none⟩ = some (.int .i64 z.1.body.lsn) := by simp
      have hd2 : (w2.alloc (.cells #[.int .i64 z.1.page, .int .i64 z.1.body.lsn, .int .i64 z.1.body.kind, .int .i64 z.1.body.level, .int .i64 z.1.body.right, .string z.1.body.high, .slice z.2.2.1 z.1.body.items.length z.2.2.2] 79)).cell? ⟨w2.heap.size, 2, none⟩ = some (.int .i64 z.1.body.kind) := by simp
      have hd3 : (w2.alloc (.cells #[.int .i64 z.1.page, .int .i64 z.1.body.lsn, .int .i64 z.1.body.kind, .int .i64 z.1.body.level, .int .i64 z.1.body.right, .string z.1.body.high, .slice z.2.2.1 z.1.body.items.length z.2.2.2] 79)).cell? ⟨w2.heap.size, 3, none⟩ = some (.int .i64 z.1.body.level) := by simp
      have hd4 : (w2.alloc (.cells #[.int .i64 z.1.page, .int .i64 z.1.body.lsn, .int .i64 z.1.body.kind, .int .i64 z.1.body.level, .int .i64 z.1.body.right, .string z.1.body.high, .slice z.2.2.1 z.1.body.items.length z.2.2.2] 79)).cell? ⟨w2.heap.size, 4, none⟩ = some (.int .i64 z.1.body.right) := by simp
      have hd5 : (w2.alloc (.cells #[.int .i64 z.1.page, .int .i64 z.1.body.lsn, .int .i64 z.1.body.kind, .int .i64 z.1.body.level, .int .i64 z.1.body.right, .string z.1.body.high, .slice z.2.2.1 z.1.body.items.length z.2.2.2] 79)).cell? ⟨w2.heap.size, 5, none⟩ = some (.string z.1.body.high) := by simp
      have hd6 : (w2.alloc (.cells #[.int .i64 z.1.page, .int .i64 z.1.body.lsn, .int .i64 z.1.body.kind, .int .i64 z.1.body.level, .int .i64 z.1.body.right, .string z.1.body.high, .slice z.2.2.1 z.1.body.items.length z.2.2.2] 79)).cell? ⟨w2.heap.size, 6, none⟩ = some (.slice z.2.2.1 z.1.body.items.length z.2.2.2) := by simp
      obtain ⟨W2, hW2⟩ : ∃ W2, w2.alloc (.cells #[.int .i64 z.1.page, .int .i64 z.1.body.lsn, .int .i64 z.1.body.kind, .int .i64 z.1.body.level, .int .i64 z.1.body.right, .string z.1.body.high, .slice z.2.2.1 z.1.body.items.length z.2.2.2] 79) = W2 := ⟨_, rfl⟩
      rw [hW2] at hOA hd0 hd1 hd2 hd3 hd4 hd5 hd6
      have HZ : Hid (∀ v : Value, (∀ b, v.ownBlock = some b → b < wr.heap.size) → LmAt W2 w.heap.size v z) := fun v hv => ⟨hst.more hOA, hft, fun h0 => by have := hD h0; omega, fun h0 e => by have h1 := hD h0; have h2 := hv _ e; omega, hhi, hls⟩
      clear hst hft hD hls hhi hwr
      have HR2 := hide (hr2.kept hOA (fun h => h))
      have HO2 : Hid (Only (fun k => k = r) w W2) := (HO.out.trans ho2 (fun _ _ h => h)).trans hOA (fun _ _ h => h.elim)
      have HW2 := hide ((HW.out.kept ho2 (fun k hk e => by omega)).kept hOA (fun _ _ h => h))
      have HVL : Hid (∀ b, Value.ownBlock _ = some b → b < wr.heap.size) := fun b hb => (World.ownsRow.lt HW.out.own b hb).2
      have c1 := HR2.out.c1
      have HWE := hide hW2
      clear hr2 ho2 hOA hW2
      simp only at c1 ⊢
      go_wp2_with fail
      rw [HWE.out]
      refine (rerr_any W2 r s2.2 c1).mono ?_
      rintro e w3 ⟨rfl, hw3⟩
      obtain rfl := hw3.symm
      by_cases hx : s2.2 = 0
      · have hx' : (s2.2 != 0) = false := by simp [hx]
        have HM2 : Hid (takeL rIm (n - (j + 1)) ((acc ++ [z]).map (·.1)) s2 = (R, sR)) := by
          unfold Hid
          rw [← HM.out, takeL_next (by rw [H2.out]; exact hx), H2.out, List.map_append]
          have : n - (j + 1) = m := by have := HMM.out; omega
          rw [this]
          rfl
        have HAL := HA.out
        obtain ⟨v4, w4, r4, l4, o4⟩ := append_image W2 33 w.heap.size _ acc HW2.out z (HZ.out _ HVL.out) (by omega) HO2.out.size
        have R4 := hide r4
        have L4 := hide l4
        have O4 : Hid (Only (fun k => k = r) w w4) := HO2.out.trans o4 (fun k hk e => by omega)
        have HR4 := hide (HR2.out.kept o4 (by omega))
        clear r4 l4 o4 hx HAL
        go_wp2_with (at_builtin; go_must (refine Lib.wpList_append_run _ rfl (.tmp 20) (.tmp 22) _ _ rfl _ _ rfl rfl _ _ R4.out ?_))
        go_roundw
        case rel => exact ⟨j + 1, acc ++ [z], s2, by omega, by go_num, by unfold Hid; rw [List.length_append, HA.out]; rfl, L4, HR4, O4, HM2⟩
        case measure => simp [intOf]; omega
      · have hx' : (s2.2 != 0) = true := by simpa using hx
        have HM2 : Hid (([], s2) = (R, sR)) := by
          unfold Hid
          rw [← HM.out, takeL_stop (by rw [H2.out]; exact hx), H2.out]
        clear hx
        go_wp2_with fail
        go_ret
        have hm2 := HM2.out
        simp only [Prod.mk.injEq] at hm2
        obtain ⟨rfl, rfl⟩ := hm2
        exact ⟨⟨_, rfl, [], rfl, Li.nil _ _, by simp⟩, HR2.out, HO2.out⟩
    · have e0 : n - j = 0 := by omega
      have HF : Hid ((acc.map (·.1), s') = (R, sR)) := by unfold Hid; rw [← HM.out, e0]; rfl
      go_wp2_with fail
      go_ret
      have hf := HF.out
      simp only [Prod.mk.injEq] at hf
      obtain ⟨rfl, rfl⟩ := hf
      have := HA.out
      exact ⟨⟨_, rfl, acc, rfl, HW.out, by omega⟩, HR.out, HO.out⟩
end Go.Proofs.YtcbdpdkmkncffaaGreatDoor
