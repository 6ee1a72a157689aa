/- What within, Sound and isControl do, the code's and the document's. -/
import Derived.Test.YtpogphaflhfmbaaGPure
namespace Go.Proofs.Ytpogphaflhfmbaa
open Go.RowKit

theorem within_any (n a b : Int) (w : World) : Calls Try.prog 24 #[.int .i64 n, .int .i64 a, .int .i64 b] w fun e w' => e = .returned (.bool (decide (Wi n a b))) ∧ w' = w := by
  by_cases h1 : a ≤ n
  · go_enter Try.func24, Try.ntmps24
    go_wp2
    go_ret
    exact ⟨ret_bool (by simp [Wi, h1]), rfl⟩
  · go_enter Try.func24, Try.ntmps24
    go_wp2
    go_ret
    exact ⟨ret_bool (by unfold Wi; exact (decide_eq_false (fun h => by have := h.1; omega)).symm), rfl⟩

theorem rwithin_any (n a b : Int) (w : World) : Calls Try.prog 22 #[.int .i64 n, .int .i64 a, .int .i64 b] w fun e w' => e = .returned (.bool (decide (Wi n a b))) ∧ w' = w := by
  by_cases h1 : a ≤ n
  · go_enter Try.func22, Try.ntmps22
    go_wp2
    go_ret
    exact ⟨ret_bool (by simp [Wi, h1]), rfl⟩
  · go_enter Try.func22, Try.ntmps22
    go_wp2
    go_ret
    exact ⟨ret_bool (by unfold Wi; exact (decide_eq_false (fun h => by have := h.1; omega)).symm), rfl⟩

set_option maxRecDepth 100000 in
set_option maxHeartbeats 1600000 in
theorem sound_any (f m l p : Int) (w : World) : Calls Try.prog 11 #[.agg #[.int .i64 f, .int .i64 m, .int .i64 l, .int .i64 p]] w fun e w' => e = .returned (.bool (decide (Snd f m l p))) ∧ Only (fun _ => False) w w' := by
  have HF := hide (fun W => within_any f 4 64 W)
  have HM := hide (fun W => within_any m 16 1024 W)
  have HL := hide (fun W => within_any l 160 4096 W)
  have HP := hide (fun W => within_any p 4 4096 W)
  by_cases h1 : Wi f 4 64
  · by_cases h2 : Wi m 16 1024
    · by_cases h3 : m % 2 = 0
      · by_cases h4 : Wi l 160 4096
        · by_cases h5 : Wi p 4 4096
          · have hr : decide (Snd f m l p) = true := by simp [Snd, h1, h2, h3, h4, h5]
            rw [hr]
            simp only [decide_eq_true h1] at HF
            simp only [decide_eq_true h2] at HM
            simp only [decide_eq_true h4] at HL
            simp only [decide_eq_true h5] at HP
            have ht : m.tmod 2 = m % 2 := tmod2 (by have := h2.1; omega)
            have h6 : (m % 2 == 0) = true := by simpa using h3
            clear hr h1 h2 h3 h4 h5
            go_enter Try.func11, Try.ntmps11
            go_wp2_with fail
            refine (HF.out _).mono ?_
            rintro e w1 ⟨rfl, hw⟩
            obtain rfl := hw.symm
            clear hw
            go_wp2_with fail
            refine (HM.out _).mono ?_
            rintro e w1 ⟨rfl, hw⟩
            obtain rfl := hw.symm
            clear hw
            go_wp2_with fail
            refine (HL.out _).mono ?_
            rintro e w1 ⟨rfl, hw⟩
            obtain rfl := hw.symm
            clear hw
            go_wp2_with fail
            refine (HP.out _).mono ?_
            rintro e w1 ⟨rfl, hw⟩
            obtain rfl := hw.symm
            clear hw
            go_wp2_with fail
            go_ret
            exact ⟨rfl, onlyA _ _⟩
          · have hr : decide (Snd f m l p) = false := by simp [Snd, h1, h2, h3, h4, h5]
            rw [hr]
            simp only [decide_eq_true h1] at HF
            simp only [decide_eq_true h2] at HM
            simp only [decide_eq_true h4] at HL
            simp only [decide_eq_false h5] at HP
            have ht : m.tmod 2 = m % 2 := tmod2 (by have := h2.1; omega)
            have h6 : (m % 2 == 0) = true := by simpa using h3
            clear hr h1 h2 h3 h4 h5
            go_enter Try.func11, Try.ntmps11
            go_wp2_with fail
            refine (HF.out _).mono ?_
            rintro e w1 ⟨rfl, hw⟩
            obtain rfl := hw.symm
            clear hw
            go_wp2_with fail
            refine (HM.out _).mono ?_
            rintro e w1 ⟨rfl, hw⟩
            obtain rfl := hw.symm
            clear hw
            go_wp2_with fail
            refine (HL.out _).mono ?_
            rintro e w1 ⟨rfl, hw⟩
            obtain rfl := hw.symm
            clear hw
            go_wp2_with fail
            refine (HP.out _).mono ?_
            rintro e w1 ⟨rfl, hw⟩
            obtain rfl := hw.symm
            clear hw
            go_wp2_with fail
            go_ret
            exact ⟨rfl, onlyA _ _⟩
        · have hr : decide (Snd f m l p) = false := by simp [Snd, h1, h2, h3, h4]
          rw [hr]
          simp only [decide_eq_true h1] at HF
          simp only [decide_eq_true h2] at HM
          simp only [decide_eq_false h4] at HL
          have ht : m.tmod 2 = m % 2 := tmod2 (by have := h2.1; omega)
          have h6 : (m % 2 == 0) = true := by simpa using h3
          clear hr h1 h2 h3 h4
          go_enter Try.func11, Try.ntmps11
          go_wp2_with fail
          refine (HF.out _).mono ?_
          rintro e w1 ⟨rfl, hw⟩
          obtain rfl := hw.symm
          clear hw
          go_wp2_with fail
          refine (HM.out _).mono ?_
          rintro e w1 ⟨rfl, hw⟩
          obtain rfl := hw.symm
          clear hw
          go_wp2_with fail
          refine (HL.out _).mono ?_
          rintro e w1 ⟨rfl, hw⟩
          obtain rfl := hw.symm
          clear hw
          go_wp2_with fail
          go_ret
          exact ⟨rfl, onlyA _ _⟩
      · have hr : decide (Snd f m l p) = false := by simp [Snd, h1, h2, h3]
        rw [hr]
        simp only [decide_eq_true h1] at HF
        simp only [decide_eq_true h2] at HM
        have ht : m.tmod 2 = m % 2 := tmod2 (by have := h2.1; omega)
        have h6 : (m % 2 == 0) = false := by simpa using h3
        clear hr h1 h2 h3
        go_enter Try.func11, Try.ntmps11
        go_wp2_with fail
        refine (HF.out _).mono ?_
        rintro e w1 ⟨rfl, hw⟩
        obtain rfl := hw.symm
        clear hw
        go_wp2_with fail
        refine (HM.out _).mono ?_
        rintro e w1 ⟨rfl, hw⟩
        obtain rfl := hw.symm
        clear hw
        go_wp2_with fail
        go_ret
        exact ⟨rfl, onlyA _ _⟩
    · have hr : decide (Snd f m l p) = false := by simp [Snd, h1, h2]
      rw [hr]
      simp only [decide_eq_true h1] at HF
      simp only [decide_eq_false h2] at HM
      clear hr h1 h2
      go_enter Try.func11, Try.ntmps11
      go_wp2_with fail
      refine (HF.out _).mono ?_
      rintro e w1 ⟨rfl, hw⟩
      obtain rfl := hw.symm
      clear hw
      go_wp2_with fail
      refine (HM.out _).mono ?_
      rintro e w1 ⟨rfl, hw⟩
      obtain rfl := hw.symm
      clear hw
      go_wp2_with fail
      go_ret
      exact ⟨rfl, onlyA _ _⟩
  · have hr : decide (Snd f m l p) = false := by simp [Snd, h1]
    rw [hr]
    simp only [decide_eq_false h1] at HF
    clear hr h1
    go_enter Try.func11, Try.ntmps11
    go_wp2_with fail
    refine (HF.out _).mono ?_
    rintro e w1 ⟨rfl, hw⟩
    obtain rfl := hw.symm
    clear hw
    go_wp2_with fail
    go_ret
    exact ⟨rfl, onlyA _ _⟩

set_option maxRecDepth 100000 in
set_option maxHeartbeats 1600000 in
theorem rsound_any (f m l p : Int) (w : World) : Calls Try.prog 12 #[.agg #[.int .i64 f, .int .i64 m, .int .i64 l, .int .i64 p]] w fun e w' => e = .returned (.bool (decide (Snd f m l p))) ∧ Only (fun _ => False) w w' := by
  have HF := hide (fun W => rwithin_any f 4 64 W)
  have HM := hide (fun W => rwithin_any m 16 1024 W)
  have HL := hide (fun W => rwithin_any l 160 4096 W)
  have HP := hide (fun W => rwithin_any p 4 4096 W)
  by_cases h1 : Wi f 4 64
  · by_cases h2 : Wi m 16 1024
    · by_cases h3 : m % 2 = 0
      · by_cases h4 : Wi l 160 4096
        · by_cases h5 : Wi p 4 4096
          · have hr : decide (Snd f m l p) = true := by simp [Snd, h1, h2, h3, h4, h5]
            rw [hr]
            simp only [decide_eq_true h1] at HF
            simp only [decide_eq_true h2] at HM
            simp only [decide_eq_true h4] at HL
            simp only [decide_eq_true h5] at HP
            have ht : m.tmod 2 = m % 2 := tmod2 (by have := h2.1; omega)
            have h6 : (m % 2 == 0) = true := by simpa using h3
            clear hr h1 h2 h3 h4 h5
            go_enter Try.func12, Try.ntmps12
            go_wp2_with fail
            refine (HF.out _).mono ?_
            rintro e w1 ⟨rfl, hw⟩
            obtain rfl := hw.symm
            clear hw
            go_wp2_with fail
            refine (HM.out _).mono ?_
            rintro e w1 ⟨rfl, hw⟩
            obtain rfl := hw.symm
            clear hw
            go_wp2_with fail
            refine (HL.out _).mono ?_
            rintro e w1 ⟨rfl, hw⟩
            obtain rfl := hw.symm
            clear hw
            go_wp2_with fail
            refine (HP.out _).mono ?_
            rintro e w1 ⟨rfl, hw⟩
            obtain rfl := hw.symm
            clear hw
            go_wp2_with fail
            go_ret
            exact ⟨rfl, onlyA _ _⟩
          · have hr : decide (Snd f m l p) = false := by simp [Snd, h1, h2, h3, h4, h5]
            rw [hr]
            simp only [decide_eq_true h1] at HF
            simp only [decide_eq_true h2] at HM
            simp only [decide_eq_true h4] at HL
            simp only [decide_eq_false h5] at HP
            have ht : m.tmod 2 = m % 2 := tmod2 (by have := h2.1; omega)
            have h6 : (m % 2 == 0) = true := by simpa using h3
            clear hr h1 h2 h3 h4 h5
            go_enter Try.func12, Try.ntmps12
            go_wp2_with fail
            refine (HF.out _).mono ?_
            rintro e w1 ⟨rfl, hw⟩
            obtain rfl := hw.symm
            clear hw
            go_wp2_with fail
            refine (HM.out _).mono ?_
            rintro e w1 ⟨rfl, hw⟩
            obtain rfl := hw.symm
            clear hw
            go_wp2_with fail
            refine (HL.out _).mono ?_
            rintro e w1 ⟨rfl, hw⟩
            obtain rfl := hw.symm
            clear hw
            go_wp2_with fail
            refine (HP.out _).mono ?_
            rintro e w1 ⟨rfl, hw⟩
            obtain rfl := hw.symm
            clear hw
            go_wp2_with fail
            go_ret
            exact ⟨rfl, onlyA _ _⟩
        · have hr : decide (Snd f m l p) = false := by simp [Snd, h1, h2, h3, h4]
          rw [hr]
          simp only [decide_eq_true h1] at HF
          simp only [decide_eq_true h2] at HM
          simp only [decide_eq_false h4] at HL
          have ht : m.tmod 2 = m % 2 := tmod2 (by have := h2.1; omega)
          have h6 : (m % 2 == 0) = true := by simpa using h3
          clear hr h1 h2 h3 h4
          go_enter Try.func12, Try.ntmps12
          go_wp2_with fail
          refine (HF.out _).mono ?_
          rintro e w1 ⟨rfl, hw⟩
          obtain rfl := hw.symm
          clear hw
          go_wp2_with fail
          refine (HM.out _).mono ?_
          rintro e w1 ⟨rfl, hw⟩
          obtain rfl := hw.symm
          clear hw
          go_wp2_with fail
          refine (HL.out _).mono ?_
          rintro e w1 ⟨rfl, hw⟩
          obtain rfl := hw.symm
          clear hw
          go_wp2_with fail
          go_ret
          exact ⟨rfl, onlyA _ _⟩
      · have hr : decide (Snd f m l p) = false := by simp [Snd, h1, h2, h3]
        rw [hr]
        simp only [decide_eq_true h1] at HF
        simp only [decide_eq_true h2] at HM
        have ht : m.tmod 2 = m % 2 := tmod2 (by have := h2.1; omega)
        have h6 : (m % 2 == 0) = false := by simpa using h3
        clear hr h1 h2 h3
        go_enter Try.func12, Try.ntmps12
        go_wp2_with fail
        refine (HF.out _).mono ?_
        rintro e w1 ⟨rfl, hw⟩
        obtain rfl := hw.symm
        clear hw
        go_wp2_with fail
        refine (HM.out _).mono ?_
        rintro e w1 ⟨rfl, hw⟩
        obtain rfl := hw.symm
        clear hw
        go_wp2_with fail
        go_ret
        exact ⟨rfl, onlyA _ _⟩
    · have hr : decide (Snd f m l p) = false := by simp [Snd, h1, h2]
      rw [hr]
      simp only [decide_eq_true h1] at HF
      simp only [decide_eq_false h2] at HM
      clear hr h1 h2
      go_enter Try.func12, Try.ntmps12
      go_wp2_with fail
      refine (HF.out _).mono ?_
      rintro e w1 ⟨rfl, hw⟩
      obtain rfl := hw.symm
      clear hw
      go_wp2_with fail
      refine (HM.out _).mono ?_
      rintro e w1 ⟨rfl, hw⟩
      obtain rfl := hw.symm
      clear hw
      go_wp2_with fail
      go_ret
      exact ⟨rfl, onlyA _ _⟩
  · have hr : decide (Snd f m l p) = false := by simp [Snd, h1]
    rw [hr]
    simp only [decide_eq_false h1] at HF
    clear hr h1
    go_enter Try.func12, Try.ntmps12
    go_wp2_with fail
    refine (HF.out _).mono ?_
    rintro e w1 ⟨rfl, hw⟩
    obtain rfl := hw.symm
    clear hw
    go_wp2_with fail
    go_ret
    exact ⟨rfl, onlyA _ _⟩

/-- A control block in block b, cell by cell. -/
structure Cb (w : World) (b : Nat) (c : Ct) : Prop where
  c0 : w.cell? ⟨b, 0, none⟩ = some (.int .i64 c.f)
  c1 : w.cell? ⟨b, 1, none⟩ = some (.int .i64 c.m)
  c2 : w.cell? ⟨b, 2, none⟩ = some (.int .i64 c.l)
  c3 : w.cell? ⟨b, 3, none⟩ = some (.int .i64 c.p)
  c4 : w.cell? ⟨b, 4, none⟩ = some (.int .i64 c.n)
  c5 : w.cell? ⟨b, 5, none⟩ = some (.int .i64 c.s)
  c6 : w.cell? ⟨b, 6, none⟩ = some (.int .i64 c.k)
  f0 : w.frozen? ⟨b, 0, none⟩ = false
  f1 : w.frozen? ⟨b, 1, none⟩ = false
  f2 : w.frozen? ⟨b, 2, none⟩ = false
  f3 : w.frozen? ⟨b, 3, none⟩ = false
  f4 : w.frozen? ⟨b, 4, none⟩ = false
  f5 : w.frozen? ⟨b, 5, none⟩ = false
  f6 : w.frozen? ⟨b, 6, none⟩ = false
  lt : b < w.heap.size
theorem Cb.kept {S : Nat → Prop} {w w' : World} {b : Nat} {c : Ct} (h : Cb w b c) (ho : Only S w w') (hS : ¬ S b) : Cb w' b c :=
  ⟨(ho.cell (p := ⟨b, 0, none⟩) h.lt hS).trans h.c0, (ho.cell (p := ⟨b, 1, none⟩) h.lt hS).trans h.c1, (ho.cell (p := ⟨b, 2, none⟩) h.lt hS).trans h.c2, (ho.cell (p := ⟨b, 3, none⟩) h.lt hS).trans h.c3, (ho.cell (p := ⟨b, 4, none⟩) h.lt hS).trans h.c4, (ho.cell (p := ⟨b, 5, none⟩) h.lt hS).trans h.c5, (ho.cell (p := ⟨b, 6, none⟩) h.lt hS).trans h.c6,
   (ho.frozen (p := ⟨b, 0, none⟩) h.lt hS).trans h.f0, (ho.frozen (p := ⟨b, 1, none⟩) h.lt hS).trans h.f1, (ho.frozen (p := ⟨b, 2, none⟩) h.lt hS).trans h.f2, (ho.frozen (p := ⟨b, 3, none⟩) h.lt hS).trans h.f3, (ho.frozen (p := ⟨b, 4, none⟩) h.lt hS).trans h.f4, (ho.frozen (p := ⟨b, 5, none⟩) h.lt hS).trans h.f5, (ho.frozen (p := ⟨b, 6, none⟩) h.lt hS).trans h.f6, Nat.lt_of_lt_of_le h.lt ho.size⟩
theorem Cb.more {w w' : World} {b : Nat} {c : Ct} (h : Cb w b c) (ho : Only (fun _ => False) w w') : Cb w' b c := h.kept ho (fun h => h)
theorem Cb.new (w : World) (c : Ct) : Cb (w.alloc (.cells #[.int .i64 c.f, .int .i64 c.m, .int .i64 c.l, .int .i64 c.p, .int .i64 c.n, .int .i64 c.s, .int .i64 c.k] 25)) w.heap.size c :=
  ⟨by simp, by simp, by simp, by simp, by simp, by simp, by simp, by simp, by simp, by simp, by simp, by simp, by simp, by simp, by simp⟩
set_option maxRecDepth 100000 in
set_option maxHeartbeats 1600000 in
theorem isControl_any (c : Ct) (w : World) : Calls Try.prog 20 #[c.agg] w fun e w' => e = .returned (.bool (decide c.ok)) ∧ Only (fun _ => False) w w' := by
  have HS := hide (fun W => sound_any c.f c.m c.l c.p W)
  have HN := hide (fun W => within_any c.n 1 4294967295 W)
  have HT := hide (fun W => within_any c.s 1 281474976710655 W)
  have HK := hide (fun W => within_any c.k 0 281474976710655 W)
  have HC : Hid (∀ W, Only (fun _ => False) (w.alloc (.cells #[.int .i64 c.f, .int .i64 c.m, .int .i64 c.l, .int .i64 c.p, .int .i64 c.n, .int .i64 c.s, .int .i64 c.k] 25)) W → Cb W w.heap.size c) := fun W h => (Cb.new w c).more h
  by_cases h1 : Snd c.f c.m c.l c.p
  · by_cases h2 : Wi c.n 1 4294967295
    · by_cases h3 : Wi c.s 1 281474976710655
      · by_cases h4 : Wi c.k 0 281474976710655
        · have hr : decide c.ok = true := by simp [Ct.ok, h1, h2, h3, h4]
          rw [hr]
          simp only [decide_eq_true h1] at HS
          simp only [decide_eq_true h2] at HN
          simp only [decide_eq_true h3] at HT
          simp only [decide_eq_true h4] at HK
          clear hr h1 h2 h3 h4
          obtain ⟨f, m, l, p, n, s, k⟩ := c
          unfold Ct.agg
          simp only at HS HN HT HK HC ⊢
          go_enter Try.func20, Try.ntmps20
          go_wp2_with fail
          refine (HS.out _).mono ?_
          rintro e w1 ⟨rfl, ho1⟩
          have HO := hide (o2 (onlyA _ _) ho1)
          obtain ⟨c0, c1, c2, c3, c4, c5, c6, _, _, _, _, _, _, _, _⟩ := HC.out w1 ho1
          clear ho1
          go_wp2_with fail
          refine (HN.out _).mono ?_
          rintro e w2 ⟨rfl, hw⟩
          obtain rfl := hw.symm
          clear hw
          go_wp2_with fail
          refine (HT.out _).mono ?_
          rintro e w2 ⟨rfl, hw⟩
          obtain rfl := hw.symm
          clear hw
          go_wp2_with fail
          refine (HK.out _).mono ?_
          rintro e w2 ⟨rfl, hw⟩
          obtain rfl := hw.symm
          clear hw
          go_wp2_with fail
          go_ret
          exact ⟨rfl, HO.out⟩
        · have hr : decide c.ok = false := by simp [Ct.ok, h1, h2, h3, h4]
          rw [hr]
          simp only [decide_eq_true h1] at HS
          simp only [decide_eq_true h2] at HN
          simp only [decide_eq_true h3] at HT
          simp only [decide_eq_false h4] at HK
          clear hr h1 h2 h3 h4
          obtain ⟨f, m, l, p, n, s, k⟩ := c
          unfold Ct.agg
          simp only at HS HN HT HK HC ⊢
          go_enter Try.func20, Try.ntmps20
          go_wp2_with fail
          refine (HS.out _).mono ?_
          rintro e w1 ⟨rfl, ho1⟩
          have HO := hide (o2 (onlyA _ _) ho1)
          obtain ⟨c0, c1, c2, c3, c4, c5, c6, _, _, _, _, _, _, _, _⟩ := HC.out w1 ho1
          clear ho1
          go_wp2_with fail
          refine (HN.out _).mono ?_
          rintro e w2 ⟨rfl, hw⟩
          obtain rfl := hw.symm
          clear hw
          go_wp2_with fail
          refine (HT.out _).mono ?_
          rintro e w2 ⟨rfl, hw⟩
          obtain rfl := hw.symm
          clear hw
          go_wp2_with fail
          refine (HK.out _).mono ?_
          rintro e w2 ⟨rfl, hw⟩
          obtain rfl := hw.symm
          clear hw
          go_wp2_with fail
          go_ret
          exact ⟨rfl, HO.out⟩
      · have hr : decide c.ok = false := by simp [Ct.ok, h1, h2, h3]
        rw [hr]
        simp only [decide_eq_true h1] at HS
        simp only [decide_eq_true h2] at HN
        simp only [decide_eq_false h3] at HT
        clear hr h1 h2 h3
        obtain ⟨f, m, l, p, n, s, k⟩ := c
        unfold Ct.agg
        simp only at HS HN HT HK HC ⊢
        go_enter Try.func20, Try.ntmps20
        go_wp2_with fail
        refine (HS.out _).mono ?_
        rintro e w1 ⟨rfl, ho1⟩
        have HO := hide (o2 (onlyA _ _) ho1)
        obtain ⟨c0, c1, c2, c3, c4, c5, c6, _, _, _, _, _, _, _, _⟩ := HC.out w1 ho1
        clear ho1
        go_wp2_with fail
        refine (HN.out _).mono ?_
        rintro e w2 ⟨rfl, hw⟩
        obtain rfl := hw.symm
        clear hw
        go_wp2_with fail
        refine (HT.out _).mono ?_
        rintro e w2 ⟨rfl, hw⟩
        obtain rfl := hw.symm
        clear hw
        go_wp2_with fail
        go_ret
        exact ⟨rfl, HO.out⟩
    · have hr : decide c.ok = false := by simp [Ct.ok, h1, h2]
      rw [hr]
      simp only [decide_eq_true h1] at HS
      simp only [decide_eq_false h2] at HN
      clear hr h1 h2
      obtain ⟨f, m, l, p, n, s, k⟩ := c
      unfold Ct.agg
      simp only at HS HN HT HK HC ⊢
      go_enter Try.func20, Try.ntmps20
      go_wp2_with fail
      refine (HS.out _).mono ?_
      rintro e w1 ⟨rfl, ho1⟩
      have HO := hide (o2 (onlyA _ _) ho1)
      obtain ⟨c0, c1, c2, c3, c4, c5, c6, _, _, _, _, _, _, _, _⟩ := HC.out w1 ho1
      clear ho1
      go_wp2_with fail
      refine (HN.out _).mono ?_
      rintro e w2 ⟨rfl, hw⟩
      obtain rfl := hw.symm
      clear hw
      go_wp2_with fail
      go_ret
      exact ⟨rfl, HO.out⟩
  · have hr : decide c.ok = false := by simp [Ct.ok, h1]
    rw [hr]
    simp only [decide_eq_false h1] at HS
    clear hr h1
    obtain ⟨f, m, l, p, n, s, k⟩ := c
    unfold Ct.agg
    simp only at HS HN HT HK HC ⊢
    go_enter Try.func20, Try.ntmps20
    go_wp2_with fail
    refine (HS.out _).mono ?_
    rintro e w1 ⟨rfl, ho1⟩
    have HO := hide (o2 (onlyA _ _) ho1)
    obtain ⟨c0, c1, c2, c3, c4, c5, c6, _, _, _, _, _, _, _, _⟩ := HC.out w1 ho1
    clear ho1
    go_wp2_with fail
    go_ret
    exact ⟨rfl, HO.out⟩

end Go.Proofs.Ytpogphaflhfmbaa
