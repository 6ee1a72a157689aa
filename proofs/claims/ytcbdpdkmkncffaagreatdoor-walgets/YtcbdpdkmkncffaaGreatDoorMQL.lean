/- The records of WalGets' law, got one by one. -/
import Derived.Test.YtcbdpdkmkncffaaGreatDoorMEG
import Derived.Test.YtcbdpdkmkncffaaGreatDoorMGet
import Derived.Test.YtcbdpdkmkncffaaGreatDoorMB
import Derived.Test.YtcbdpdkmkncffaaGreatDoorMCT
import Derived.Test.YtcbdpdkmkncffaaGreatDoorMZS
namespace Go.Proofs.YtcbdpdkmkncffaaGreatDoor
open Go.RowKit

theorem LogOw.placesZ {W W' : World} {l d : Nat} {G : Lg} {base : Nat} {v7 v8 v9 : Value} (h : LogOw W l d G base v7 v8) (Z : List Int) (ho : Only (fun k => some k = v8.ownBlock) W W') (hp : W'.ownsRow base 3 1 v9 Z.length (Z.map (Value.int .i64))) (hb : ∀ k, v9.ownBlock = some k → v8.ownBlock = some k ∨ W.heap.size ≤ k) :
    LogOw (W'.setCell ⟨l, 8, none⟩ v9) l d { G with places := Z } base v7 v9 ∧ Only (fun k => k = l ∨ some k = v8.ownBlock) W (W'.setCell ⟨l, 8, none⟩ v9) := by
  have hl : ¬ (some l = v8.ownBlock) := fun e => h.n2 e.symm
  have h7 : ∀ k, v7.ownBlock = some k → ¬ (some k = v8.ownBlock) := fun k e e2 => h.n3 k e e2.symm
  have kc : ∀ (j : Nat) (v : Value), W.cell? ⟨l, j, none⟩ = some v → W'.cell? ⟨l, j, none⟩ = some v := fun j v hj => (ho.cell (p := ⟨l, j, none⟩) h.lt hl).trans hj
  have k : ∀ (j : Nat) (v : Value), j ≠ 8 → W.cell? ⟨l, j, none⟩ = some v → (W'.setCell ⟨l, 8, none⟩ v9).cell? ⟨l, j, none⟩ = some v := fun j v hj hc =>
    (World.cell?_setCell_other _ _ _ _ (by intro e; injection e with _ e; exact hj e.symm)).trans (kc _ _ hc)
  have o2' : Only (fun i => i = l) W' (W'.setCell ⟨l, 8, none⟩ v9) := Only.setCell (S := fun i => i = l) _ _ _ rfl
  have n2 : v9.ownBlock ≠ some l := fun e => by
    rcases hb l e with e | e
    · exact h.n2 e
    · have := h.lt; omega
  refine ⟨⟨k _ _ (by decide) h.c0, k _ _ (by decide) h.c1, k _ _ (by decide) h.c2, k _ _ (by decide) h.c3, k _ _ (by decide) h.c4, k _ _ (by decide) h.c5, k _ _ (by decide) h.c6, k _ _ (by decide) h.c7, World.cell?_setCell_same _ _ _ (kc _ _ h.c8), fun j => ?_, ?_, (h.row.kept ho h7).kept o2' (fun k e e2 => ?_), own_only hp o2' (fun k e e2 => ?_), h.n1, n2, fun k e e2 => ?_⟩, (ho.mono (T := fun k => k = l ∨ some k = v8.ownBlock) (fun _ _ h => .inr h)).trans o2' (fun _ _ h => .inl h)⟩
  · have := (ho.frozen (p := ⟨l, j, none⟩) h.lt hl).trans (h.fz j)
    simpa using this
  · have := Nat.lt_of_lt_of_le h.lt ho.size
    simpa using this
  · subst e2; exact h.n1 e
  · subst e2; exact n2 e
  · rcases hb k e2 with e3 | e3
    · exact h.n3 k e e3
    · have := h.row.lt k e; omega
theorem LogOw.streamZ {W W' : World} {l d : Nat} {G : Lg} {base : Nat} {v7 v8 v9 : Value} (h : LogOw W l d G base v7 v8) (E : List UInt8) (ho : Only (fun k => some k = v7.ownBlock) W W') (hp : W'.ownsRow base 5 1 v9 E.length (cells (E))) (hb : ∀ k, v9.ownBlock = some k → v7.ownBlock = some k ∨ W.heap.size ≤ k) :
    LogOw (W'.setCell ⟨l, 7, none⟩ v9) l d { G with stream := E } base v9 v8 ∧ Only (fun k => k = l ∨ some k = v7.ownBlock) W (W'.setCell ⟨l, 7, none⟩ v9) := by
  have hl : ¬ (some l = v7.ownBlock) := fun e => h.n1 e.symm
  have h8 : ∀ k, v8.ownBlock = some k → ¬ (some k = v7.ownBlock) := fun k e e2 => h.n3 k e2.symm e
  have kc : ∀ (j : Nat) (v : Value), W.cell? ⟨l, j, none⟩ = some v → W'.cell? ⟨l, j, none⟩ = some v := fun j v hj => (ho.cell (p := ⟨l, j, none⟩) h.lt hl).trans hj
  have k : ∀ (j : Nat) (v : Value), j ≠ 7 → W.cell? ⟨l, j, none⟩ = some v → (W'.setCell ⟨l, 7, none⟩ v9).cell? ⟨l, j, none⟩ = some v := fun j v hj hc =>
    (World.cell?_setCell_other _ _ _ _ (by intro e; injection e with _ e; exact hj e.symm)).trans (kc _ _ hc)
  have o2' : Only (fun i => i = l) W' (W'.setCell ⟨l, 7, none⟩ v9) := Only.setCell (S := fun i => i = l) _ _ _ rfl
  have n1 : v9.ownBlock ≠ some l := fun e => by
    rcases hb l e with e | e
    · exact h.n1 e
    · have := h.lt; omega
  have hr : Row W' base v9 v9.ownBlock (E) := ⟨hp, rfl⟩
  refine ⟨⟨k _ _ (by decide) h.c0, k _ _ (by decide) h.c1, k _ _ (by decide) h.c2, k _ _ (by decide) h.c3, k _ _ (by decide) h.c4, k _ _ (by decide) h.c5, k _ _ (by decide) h.c6, World.cell?_setCell_same _ _ _ (kc _ _ h.c7), k _ _ (by decide) h.c8, fun j => ?_, ?_, hr.kept o2' (fun k e e2 => ?_), own_only (own_only h.pl ho h8) o2' (fun k e e2 => ?_), n1, h.n2, fun k e e2 => ?_⟩, (ho.mono (T := fun k => k = l ∨ some k = v7.ownBlock) (fun _ _ h => .inr h)).trans o2' (fun _ _ h => .inl h)⟩
  · have := (ho.frozen (p := ⟨l, j, none⟩) h.lt hl).trans (h.fz j)
    simpa using this
  · have := Nat.lt_of_lt_of_le h.lt ho.size
    simpa using this
  · subst e2; exact n1 e
  · subst e2; exact h.n2 e
  · rcases hb k e with e3 | e3
    · exact h.n3 k e3 e2
    · have := (World.ownsRow.lt h.pl k e2).2; omega
theorem LogOw.startZ {W : World} {l d : Nat} {G : Lg} {base : Nat} {v7 v8 : Value} (h : LogOw W l d G base v7 v8) (t : Nat) :
    LogOw (W.setCell ⟨l, 3, none⟩ (.int .i64 (t : Int))) l d { G with start := t } base v7 v8 ∧ Only (fun k => k = l) W (W.setCell ⟨l, 3, none⟩ (.int .i64 (t : Int))) := by
  have k : ∀ (j : Nat) (v : Value), j ≠ 3 → W.cell? ⟨l, j, none⟩ = some v → (W.setCell ⟨l, 3, none⟩ (.int .i64 (t : Int))).cell? ⟨l, j, none⟩ = some v := fun j v hj hc =>
    (World.cell?_setCell_other _ _ _ _ (by intro e; injection e with _ e; exact hj e.symm)).trans hc
  have o2' : Only (fun i => i = l) W (W.setCell ⟨l, 3, none⟩ (.int .i64 (t : Int))) := Only.setCell (S := fun i => i = l) _ _ _ rfl
  refine ⟨⟨k _ _ (by decide) h.c0, k _ _ (by decide) h.c1, k _ _ (by decide) h.c2, World.cell?_setCell_same _ _ _ h.c3, k _ _ (by decide) h.c4, k _ _ (by decide) h.c5, k _ _ (by decide) h.c6, k _ _ (by decide) h.c7, k _ _ (by decide) h.c8, fun j => by simpa using h.fz j, by simpa using h.lt, h.row.kept o2' (fun k e e2 => ?_), own_only h.pl o2' (fun k e e2 => ?_), h.n1, h.n2, h.n3⟩, o2'⟩
  · subst e2; exact h.n1 e
  · subst e2; exact h.n2 e
theorem wrap_small {n : Int} (h : 0 ≤ n) (k : n < 1099511627776) : IntKind.i64.wrap n = n := by rw [IntKind.wrap_i64]; omega
/-- How many bytes go. -/
def Lg.gone (G : Lg) (x : Nat) : Nat := ((x - 1) / 54 - (G.start - 1) / 54) * 54
def Lg.cut (G : Lg) (x k : Nat) : Lg := { G with start := x, stream := G.stream.drop (G.gone x), places := G.places.drop k }
set_option maxRecDepth 100000 in
set_option maxHeartbeats 3200000 in
theorem recycle_ok (w : World) (l d : Nat) (G : Lg) (base : Nat) (v7 v8 : Value) (h : LogOw w l d G base v7 v8) (hs : G.places.Pairwise (· ≤ ·)) (hn : G.places.length ≤ 1000000000) (x k : Nat) (hx1 : 1 ≤ G.start) (hx2 : G.start ≤ x) (hx3 : x ≤ G.flushed) (hx4 : G.flushed < 1099511627776) (hk : G.places.countP (· < (x : Int)) = k) (hc : G.places.contains (x : Int) = true) (hkl : k ≤ G.places.length) (hg : G.gone x ≤ G.stream.length) (h0 : 0 < G.stream.length) :
    Calls Tryz.prog 18 #[.pointer (some ⟨l, 0, none⟩), .int .i64 (x : Int)] w fun e w' => e = .returned (.int .i64 0) ∧ ∃ v7' v8', LogOw w' l d (G.cut x k) base v7' v8' ∧ v7'.ownBlock = v7.ownBlock ∧ v8'.ownBlock = v8.ownBlock ∧ Only (fun i => i = l ∨ some i = v7.ownBlock ∨ some i = v8.ownBlock) w w' := by
  have c8 := h.c8
  have HQ := hide (search_any w base v8 G.places (x : Int) h.pl hs hn)
  rw [hk, hc] at HQ
  have HLOG := hide h
  have CX := hide (fun W => blockOf_any x W (by omega) (by omega))
  have CS := hide (fun W => blockOf_any G.start W hx1 (by omega))
  obtain ⟨A, hA⟩ : ∃ A, (x - 1) / 54 = A := ⟨_, rfl⟩
  obtain ⟨B, hB⟩ : ∃ B, (G.start - 1) / 54 = B := ⟨_, rfl⟩
  obtain ⟨D, hD⟩ : ∃ D, G.gone x = D := ⟨_, rfl⟩
  obtain ⟨C, hC⟩ : ∃ C, A - B = C := ⟨_, rfl⟩
  have hAB : B ≤ A := by omega
  have hDC : C * 54 = D := by rw [← hD, Lg.gone, hA, hB, hC]
  have q1 : (A : Int) - (B : Int) = (C : Int) := by omega
  have q2 : (C : Int) * 54 = (D : Int) := by omega
  have q3 : (A : Int) < 1099511627776 := by omega
  have q4 : (C : Int) < 1099511627776 := by omega
  have q5 : (D : Int) < 1099511627776 := by omega
  simp only [hA] at CX
  simp only [hB] at CS
  rw [hD] at hg
  have HD := hide hD
  have HG := hide hg
  have H0 := hide h0
  have HKL := hide hkl
  have x3 : ¬ ((G.flushed : Int) < (x : Int)) := by omega
  have HQQ := hide (And.intro q1 (And.intro q2 (And.intro q3 (And.intro q4 q5))))
  clear h hs hn hk hc hA hB hD hC hAB hDC hx1 hx2 hx3 hx4 hkl hg h0 q1 q2 q3 q4 q5
  go_enter Tryz.func18, Tryz.ntmps18
  go_wp2_with fail
  refine HQ.out.mono ?_
  rintro e w1 ⟨rfl, ho1⟩
  have HO1 := hide ho1
  have HL1 := hide (HLOG.out.more ho1)
  have c5 := (HLOG.out.more ho1).c5
  clear ho1 c8
  go_upto_region 6 with fail
  clear c5
  go_cut [7] (fun t wc => t = .int .i64 (D : Int) ∧ Hid (Only (fun _ => False) w1 wc))
  case first =>
    obtain ⟨q1, q2, q3, q4, q5⟩ := HQQ.out
    have q6 : IntKind.i64.wrap (C : Int) = (C : Int) := wrap_small (by omega) (by omega)
    have q7 : IntKind.i64.wrap (D : Int) = (D : Int) := wrap_small (by omega) (by omega)
    refine wp_region_noPanic ?_
    refine wp_region_held_drew (S := fun W => Only (fun _ => False) w1 W) (by kernel_rfl) (Only.drew _ w1) (fun hHeld => ?_)
    refine wpAnyH_take (i := 0) (oi := { dst := some 37, op := Op.move (Operand.tmp 1), type := 3, pos := "wal.go:212", after := #[], guard := none }) (v := .int .i64 (x : Int)) rfl (by kernel_rfl) (by kernel_rfl) (by kernel_rfl) (fun _ _ _ h => h) (Or.inl ⟨by rfl, fun w' hSw => by clear hSw; go_simp⟩) (by assumption) ?_
    simp only [Act.put, List.setIfInBounds_toArray, List.set_cons_zero, List.set_cons_succ]
    refine wpAnyH_take (i := 2) (oi := { dst := some 39, op := Op.move (Operand.tmp 0), type := 27, pos := "wal.go:212", after := #[], guard := none }) (v := .pointer (some ⟨l, 0, none⟩)) rfl (by kernel_rfl) (by kernel_rfl) (by kernel_rfl) (fun _ _ _ h => h) (Or.inl ⟨by rfl, fun w' hSw => by clear hSw; go_simp⟩) (by assumption) ?_
    simp only [Act.put, List.setIfInBounds_toArray, List.set_cons_zero, List.set_cons_succ]
    refine wpAnyH_take (i := 3) (oi := { dst := some 40, op := Op.nilCheck (Operand.tmp 39), type := 0, pos := "wal.go:212", after := #[{ on := 2, ground := Ground.data }], guard := none }) (v := .pointer (some ⟨l, 0, none⟩)) rfl (by kernel_rfl) (by kernel_rfl) (by kernel_rfl) (fun _ _ _ h => h) (Or.inl ⟨by rfl, fun w' hSw => by clear hSw; go_simp⟩) (by assumption) ?_
    simp only [Act.put, List.setIfInBounds_toArray, List.set_cons_zero, List.set_cons_succ]
    refine wpAnyH_take (i := 4) (oi := { dst := some 41, op := Op.fieldAddr 62 (Operand.tmp 40) 3, type := 0, pos := "wal.go:212", after := #[{ on := 3, ground := Ground.data }], guard := none }) (v := .pointer (some ⟨l, 3, none⟩)) rfl (by kernel_rfl) (by kernel_rfl) (by kernel_rfl) (fun _ _ _ h => h) (Or.inl ⟨by rfl, fun w' hSw => by clear hSw; go_simp⟩) (by assumption) ?_
    simp only [Act.put, List.setIfInBounds_toArray, List.set_cons_zero, List.set_cons_succ]
    refine wpAnyH_take (i := 5) (oi := { dst := some 42, op := Op.load 3 (Operand.tmp 41), type := 3, pos := "wal.go:212", after := #[{ on := 4, ground := Ground.data }], guard := none }) (v := .int .i64 (G.start : Int)) rfl (by kernel_rfl) (by kernel_rfl) (by kernel_rfl) (fun _ _ _ h => h) (yieldsIf_load_cell (by rfl) 3 _ rfl _ rfl (fun W hW => (HL1.out.more hW).c3) (fun W hc => ld_int hc)) (by assumption) ?_
    simp only [Act.put, List.setIfInBounds_toArray, List.set_cons_zero, List.set_cons_succ]
    refine wpAnyH_ready (rs := [1]) (by kernel_rfl) (by simp) ?_
    refine AllReadyH.cons (o := { dst := some 38, op := Op.call { callee := Callee.value (Operand.func 30), args := #[Operand.tmp 37], argTypes := #[3] }, type := 3, pos := "wal.go:212", after := #[{ on := 0, ground := Ground.data }], guard := none }) rfl (fun K hK => ?_) (AllReadyH.nil)
    go_simp
    refine (CX.out _).mono ?_
    rintro e x1 ⟨rfl, hw⟩
    have HS1 : Hid (Only (fun _ => False) w1 x1) := by rw [hw]; first | exact Only.drew _ w1
    clear hw
    refine hK.out _ _ (HS1.out) (fun hHeld => ?_)
    clear hK K
    try simp only [Act.put, List.setIfInBounds_toArray, List.set_cons_zero, List.set_cons_succ]
    refine wpAnyH_ready (rs := [6]) (by kernel_rfl) (by simp) ?_
    refine AllReadyH.cons (o := { dst := some 43, op := Op.call { callee := Callee.value (Operand.func 30), args := #[Operand.tmp 42], argTypes := #[3] }, type := 3, pos := "wal.go:212", after := #[{ on := 5, ground := Ground.data }, { on := 1, ground := Ground.chain }], guard := none }) rfl (fun K hK => ?_) (AllReadyH.nil)
    go_simp
    refine (CS.out _).mono ?_
    rintro e x2 ⟨rfl, hw⟩
    have HS2 : Hid (Only (fun _ => False) w1 x2) := by rw [hw]; first | exact o2 HS1.out (Only.drew _ _) | exact HS1.out
    clear hw
    refine hK.out _ _ (HS2.out) (fun hHeld => ?_)
    clear hK K
    try simp only [Act.put, List.setIfInBounds_toArray, List.set_cons_zero, List.set_cons_succ]
    refine wpAnyH_take (i := 7) (oi := { dst := some 44, op := Op.binOp BinOp.sub 3 (Operand.tmp 38) (Operand.tmp 43) 3, type := 3, pos := "wal.go:212", after := #[{ on := 1, ground := Ground.data }, { on := 6, ground := Ground.data }], guard := none }) (v := .int .i64 (C : Int)) rfl (by kernel_rfl) (by kernel_rfl) (by kernel_rfl) (fun _ _ _ h => h) (Or.inl ⟨by rfl, fun w' hSw => by clear hSw; go_simp⟩) (by assumption) ?_
    simp only [Act.put, List.setIfInBounds_toArray, List.set_cons_zero, List.set_cons_succ]
    refine wpAnyH_take (i := 8) (oi := { dst := some 45, op := Op.binOp BinOp.mul 3 (Operand.tmp 44) (Operand.const (Value.int IntKind.i64 54)) 3, type := 3, pos := "wal.go:212", after := #[{ on := 7, ground := Ground.data }], guard := none }) (v := .int .i64 (D : Int)) rfl (by kernel_rfl) (by kernel_rfl) (by kernel_rfl) (fun _ _ _ h => h) (Or.inl ⟨by rfl, fun w' hSw => by clear hSw; go_simp⟩) (by assumption) ?_
    simp only [Act.put, List.setIfInBounds_toArray, List.set_cons_zero, List.set_cons_succ]
    refine wpAnyH_take (i := 9) (oi := { dst := some 7, op := Op.assign (Operand.tmp 45), type := 3, pos := "wal.go:212", after := #[{ on := 8, ground := Ground.data }, { on := 6, ground := Ground.chain }, { on := 0, ground := Ground.phase }, { on := 1, ground := Ground.phase }, { on := 2, ground := Ground.phase }, { on := 3, ground := Ground.phase }, { on := 4, ground := Ground.phase }, { on := 5, ground := Ground.phase }, { on := 6, ground := Ground.phase }, { on := 7, ground := Ground.phase }, { on := 8, ground := Ground.phase }], guard := none }) (v := .int .i64 (D : Int)) rfl (by kernel_rfl) (by kernel_rfl) (by kernel_rfl) (fun _ _ _ h => h) (Or.inl ⟨by rfl, fun w' hSw => by clear hSw; go_simp⟩) (by assumption) ?_
    simp only [Act.put, List.setIfInBounds_toArray, List.set_cons_zero, List.set_cons_succ]
    refine wpAnyH_done (by kernel_rfl) ?_ _
    refine NoPanic.normal ?_
    go_wp2_with fail
    go_meet
    exact ⟨rfl, HS2⟩
  case rest =>
    obtain ⟨rfl, HS⟩ := hcut
    have HL2 := hide (HL1.out.more HS.out)
    have HO2 := hide (o2 HO1.out HS.out)
    clear HL1 HO1 HS HQQ CX CS x3
    have c7 := HL2.out.c7
    have CB := hide (del_byte wc base v7 G.stream HL2.out.row.own H0.out D HG.out)
    go_wp2_with fail
    refine CB.out.mono ?_
    rintro e w3 ⟨v9, rfl, hr3, ho3, hb3⟩
    obtain ⟨ao9, ln9, cp9, rfl⟩ := own_slice hr3
    have hcl := (ho3.cell (p := ⟨l, 7, none⟩) HL2.out.lt (fun e => HL2.out.n1 e.symm)).trans c7
    have hfl := (ho3.frozen (p := ⟨l, 7, none⟩) HL2.out.lt (fun e => HL2.out.n1 e.symm)).trans (HL2.out.fz 7)
    have q := HL2.out.streamZ (G.stream.drop D) ho3 hr3 (fun k e => .inl (hb3 ▸ e))
    have HL3 := hide q.1
    have HO3 := hide q.2
    have HB3 := hide hb3
    clear q hr3 ho3 hb3 c7 CB
    go_upto_region 8 with fail
    obtain ⟨W3, hW3⟩ : ∃ W, w3.setCell ⟨l, 7, none⟩ (.slice ao9 ln9 cp9) = W := ⟨_, rfl⟩
    rw [hW3] at HL3 HO3 ⊢
    clear hW3 hcl hfl
    have c8 := HL3.out.c8
    have CI := hide (del_int W3 base v8 G.places HL3.out.pl k HKL.out)
    go_wp2_with fail
    refine CI.out.mono ?_
    rintro e w4 ⟨v10, rfl, hr4, ho4, hb4⟩
    obtain ⟨ao10, ln10, cp10, rfl⟩ := own_slice hr4
    have hcl := (ho4.cell (p := ⟨l, 8, none⟩) HL3.out.lt (fun e => HL3.out.n2 e.symm)).trans c8
    have hfl := (ho4.frozen (p := ⟨l, 8, none⟩) HL3.out.lt (fun e => HL3.out.n2 e.symm)).trans (HL3.out.fz 8)
    have q := HL3.out.placesZ (G.places.drop k) ho4 hr4 (fun k e => .inl (hb4 ▸ e))
    have HL4 := hide q.1
    have HO4 := hide q.2
    have HB4 := hide hb4
    clear q hr4 ho4 hb4 c8 CI
    go_upto_region 9 with fail
    obtain ⟨W4, hW4⟩ : ∃ W, w4.setCell ⟨l, 8, none⟩ (.slice ao10 ln10 cp10) = W := ⟨_, rfl⟩
    rw [hW4] at HL4 HO4 ⊢
    clear hW4 hcl hfl
    have c3 := HL4.out.c3
    have f3 := HL4.out.fz 3
    have q := HL4.out.startZ x
    have HL5 := hide q.1
    have HO5 := hide q.2
    clear q
    go_wp2_with fail
    go_ret
    refine ⟨rfl, _, _, ?_, HB3.out, HB4.out, ?_⟩
    · have := HL5.out
      unfold Lg.cut
      rw [HD.out]
      exact this
    · refine ((HO2.out.mono (T := fun i => i = l ∨ some i = v7.ownBlock ∨ some i = v8.ownBlock) (fun _ _ h => h.elim)).trans HO3.out (fun i _ e => ?_)).trans (HO4.out.trans HO5.out (fun i _ e => .inl e)) (fun i _ e => ?_)
      · rcases e with e | e
        · exact .inl e
        · exact .inr (.inl e)
      · rcases e with e | e
        · exact .inl e
        · exact .inr (.inr e)
/-- What stands behind a cut. -/
theorem cut_facts {G : Lg} {pre : List UInt8} {rs : List Rc} (hst : G.stream = pre ++ encR rs) (hpre : pre.length = (G.start - 1) % 54) (hpl : G.places = plc G.start rs rs.length) (htl : G.tail = tk G.start rs rs.length) (hC : Chn G.start rs) (h1 : 1 ≤ G.start) (k : Nat) (hk : k < rs.length) :
    G.gone (tk G.start rs k) ≤ G.stream.length ∧ ∃ pre', (G.cut (tk G.start rs k) k).stream = pre' ++ encR (rs.drop k) ∧ pre'.length = (tk G.start rs k - 1) % 54 ∧ (G.cut (tk G.start rs k) k).places = plc (tk G.start rs k) (rs.drop k) (rs.drop k).length ∧ G.tail = tk (tk G.start rs k) (rs.drop k) (rs.drop k).length ∧ Chn (tk G.start rs k) (rs.drop k) := by
  have ht : ∀ j, tk (tk G.start rs k) (rs.drop k) j = tk G.start rs (k + j) := fun j => by
    unfold tk
    rw [List.take_add, encR_app, List.length_append]
    omega
  have hle := tk_le G.start rs 0 k (Nat.zero_le _)
  have hE : encR rs = encR (rs.take k) ++ encR (rs.drop k) := by rw [← encR_app, List.take_append_drop]
  have hx : tk G.start rs k = G.start + (encR (rs.take k)).length := rfl
  obtain ⟨x, hxx⟩ : ∃ x, tk G.start rs k = x := ⟨_, rfl⟩
  have hgo : G.gone x ≤ pre.length + (encR (rs.take k)).length := by unfold Lg.gone; omega
  rw [hxx] at ht ⊢
  refine ⟨by rw [hst, hE, List.length_append, List.length_append]; omega, (pre ++ encR (rs.take k)).drop (G.gone x), ?_, ?_, ?_, ?_, ?_⟩
  · show G.stream.drop (G.gone x) = _
    rw [hst, hE, ← List.append_assoc, List.drop_append_of_le_length (by rw [List.length_append]; exact hgo)]
  · rw [List.length_drop, List.length_append]
    unfold Lg.gone
    omega
  · show G.places.drop k = _
    rw [hpl]
    unfold plc
    rw [← List.map_drop]
    apply List.ext_getElem?
    intro j
    by_cases hj : j < rs.length - k
    · simp [hj, ht]
    · rw [List.getElem?_eq_none (by simp; omega), List.getElem?_eq_none (by simp; omega)]
  · rw [ht, List.length_drop, htl]
    congr 1
    omega
  · refine ⟨fun i hi => ?_⟩
    rw [List.length_drop] at hi
    have := hC.each (k + i) (by omega)
    rw [ht, List.getElem_drop]
    exact this
end Go.Proofs.YtcbdpdkmkncffaaGreatDoor

namespace Go.Proofs.YtcbdpdkmkncffaaGreatDoor
open Go.RowKit

set_option maxRecDepth 100000 in
set_option maxHeartbeats 800000 in
theorem flush_done (w : World) (l d : Nat) (G : Lg) (B : Nat) (ao : Option Addr) (cp : Nat) (v8 : Value) (h : LogAt w l d G B ao cp v8) (at_ : Int) (h1 : ¬ at_ < (G.flushed : Int)) (h2 : G.flushed = G.tail) :
    Calls Tryz.prog 17 #[.pointer (some ⟨l, 0, none⟩), .int .i64 at_] w fun e w' => e = .returned (.int .i64 0) ∧ Only (fun _ => False) w w' := by
  have HL := hide h
  have b1 : (G.flushed : Int) ≤ at_ := by omega
  have b2 : ((G.flushed : Int) == (G.tail : Int)) = true := by rw [h2]; simp
  have d1 : decide (at_ < (G.flushed : Int)) = false := by simpa using h1
  clear h h2
  go_enter Tryz.func17, Tryz.ntmps17
  go_upto_region 3 with fail
  refine wp_region_noPanic ?_
  refine wp_region_held_drew (S := fun W => LogAt W l d G B ao cp v8) (by kernel_rfl) (HL.out.more (Only.drew _ _)) (fun hHeld => ?_)
  refine wpAnyH_take (i := 0) (oi := { dst := some 10, op := Op.move (Operand.tmp 1), type := 3, pos := "wal.go:168", after := #[], guard := none }) (v := .int .i64 at_) rfl (by kernel_rfl) (by kernel_rfl) (by kernel_rfl) (fun _ _ _ h => h) (Or.inl ⟨by rfl, fun w' hSw => by clear hSw; go_simp⟩) (by assumption) ?_
  simp only [Act.put, List.setIfInBounds_toArray, List.set_cons_zero, List.set_cons_succ]
  refine wpAnyH_take (i := 1) (oi := { dst := some 11, op := Op.move (Operand.tmp 0), type := 27, pos := "wal.go:168", after := #[], guard := none }) (v := .pointer (some ⟨l, 0, none⟩)) rfl (by kernel_rfl) (by kernel_rfl) (by kernel_rfl) (fun _ _ _ h => h) (Or.inl ⟨by rfl, fun w' hSw => by clear hSw; go_simp⟩) (by assumption) ?_
  simp only [Act.put, List.setIfInBounds_toArray, List.set_cons_zero, List.set_cons_succ]
  refine wpAnyH_take (i := 2) (oi := { dst := some 12, op := Op.nilCheck (Operand.tmp 11), type := 0, pos := "wal.go:168", after := #[{ on := 1, ground := Ground.data }], guard := none }) (v := .pointer (some ⟨l, 0, none⟩)) rfl (by kernel_rfl) (by kernel_rfl) (by kernel_rfl) (fun _ _ _ h => h) (Or.inl ⟨by rfl, fun w' hSw => by clear hSw; go_simp⟩) (by assumption) ?_
  simp only [Act.put, List.setIfInBounds_toArray, List.set_cons_zero, List.set_cons_succ]
  refine wpAnyH_take (i := 3) (oi := { dst := some 13, op := Op.fieldAddr 62 (Operand.tmp 12) 5, type := 0, pos := "wal.go:168", after := #[{ on := 2, ground := Ground.data }], guard := none }) (v := .pointer (some ⟨l, 5, none⟩)) rfl (by kernel_rfl) (by kernel_rfl) (by kernel_rfl) (fun _ _ _ h => h) (Or.inl ⟨by rfl, fun w' hSw => by clear hSw; go_simp⟩) (by assumption) ?_
  simp only [Act.put, List.setIfInBounds_toArray, List.set_cons_zero, List.set_cons_succ]
  refine wpAnyH_take (i := 4) (oi := { dst := some 14, op := Op.load 3 (Operand.tmp 13), type := 3, pos := "wal.go:168", after := #[{ on := 3, ground := Ground.data }], guard := none }) (v := .int .i64 (G.flushed : Int)) rfl (by kernel_rfl) (by kernel_rfl) (by kernel_rfl) (fun _ _ _ h => h) (yieldsIf_load_cell (by rfl) 3 _ rfl _ rfl (fun W hW => hW.c5) (fun W hc => ld_int hc)) (by assumption) ?_
  simp only [Act.put, List.setIfInBounds_toArray, List.set_cons_zero, List.set_cons_succ]
  refine wpAnyH_take (i := 5) (oi := { dst := some 15, op := Op.binOp BinOp.lss 3 (Operand.tmp 10) (Operand.tmp 14) 3, type := 4, pos := "wal.go:168", after := #[{ on := 0, ground := Ground.data }, { on := 4, ground := Ground.data }], guard := none }) (v := .bool false) rfl (by kernel_rfl) (by kernel_rfl) (by kernel_rfl) (fun _ _ _ h => h) (Or.inl ⟨by rfl, fun w' hSw => by clear hSw; go_simp⟩) (by assumption) ?_
  simp only [Act.put, List.setIfInBounds_toArray, List.set_cons_zero, List.set_cons_succ]
  refine wpAnyH_take (i := 6) (oi := { dst := some 16, op := Op.move (Operand.tmp 15), type := 4, pos := "wal.go:168", after := #[{ on := 5, ground := Ground.data }], guard := none }) (v := .bool false) rfl (by kernel_rfl) (by kernel_rfl) (by kernel_rfl) (fun _ _ _ h => h) (Or.inl ⟨by rfl, fun w' hSw => by clear hSw; go_simp⟩) (by assumption) ?_
  simp only [Act.put, List.setIfInBounds_toArray, List.set_cons_zero, List.set_cons_succ]
  refine wpAnyH_take (i := 7) (oi := { dst := some 17, op := Op.move (Operand.tmp 0), type := 27, pos := "wal.go:168", after := #[{ on := 6, ground := Ground.guard }], guard := some (6, false) }) (v := .pointer (some ⟨l, 0, none⟩)) rfl (by kernel_rfl) (by kernel_rfl) (by kernel_rfl) (fun _ _ _ h => h) (Or.inl ⟨by rfl, fun w' hSw => by clear hSw; go_simp⟩) (by assumption) ?_
  simp only [Act.put, List.setIfInBounds_toArray, List.set_cons_zero, List.set_cons_succ]
  refine wpAnyH_take (i := 11) (oi := { dst := some 21, op := Op.move (Operand.tmp 0), type := 27, pos := "wal.go:168", after := #[{ on := 6, ground := Ground.guard }], guard := some (6, false) }) (v := .pointer (some ⟨l, 0, none⟩)) rfl (by kernel_rfl) (by kernel_rfl) (by kernel_rfl) (fun _ _ _ h => h) (Or.inl ⟨by rfl, fun w' hSw => by clear hSw; go_simp⟩) (by assumption) ?_
  simp only [Act.put, List.setIfInBounds_toArray, List.set_cons_zero, List.set_cons_succ]
  refine wpAnyH_take (i := 8) (oi := { dst := some 18, op := Op.nilCheck (Operand.tmp 17), type := 0, pos := "wal.go:168", after := #[{ on := 7, ground := Ground.data }, { on := 6, ground := Ground.guard }], guard := some (6, false) }) (v := .pointer (some ⟨l, 0, none⟩)) rfl (by kernel_rfl) (by kernel_rfl) (by kernel_rfl) (fun _ _ _ h => h) (Or.inl ⟨by rfl, fun w' hSw => by clear hSw; go_simp⟩) (by assumption) ?_
  simp only [Act.put, List.setIfInBounds_toArray, List.set_cons_zero, List.set_cons_succ]
  refine wpAnyH_take (i := 12) (oi := { dst := some 22, op := Op.nilCheck (Operand.tmp 21), type := 0, pos := "wal.go:168", after := #[{ on := 11, ground := Ground.data }, { on := 6, ground := Ground.guard }], guard := some (6, false) }) (v := .pointer (some ⟨l, 0, none⟩)) rfl (by kernel_rfl) (by kernel_rfl) (by kernel_rfl) (fun _ _ _ h => h) (Or.inl ⟨by rfl, fun w' hSw => by clear hSw; go_simp⟩) (by assumption) ?_
  simp only [Act.put, List.setIfInBounds_toArray, List.set_cons_zero, List.set_cons_succ]
  refine wpAnyH_take (i := 9) (oi := { dst := some 19, op := Op.fieldAddr 62 (Operand.tmp 18) 5, type := 0, pos := "wal.go:168", after := #[{ on := 8, ground := Ground.data }, { on := 6, ground := Ground.guard }], guard := some (6, false) }) (v := .pointer (some ⟨l, 5, none⟩)) rfl (by kernel_rfl) (by kernel_rfl) (by kernel_rfl) (fun _ _ _ h => h) (Or.inl ⟨by rfl, fun w' hSw => by clear hSw; go_simp⟩) (by assumption) ?_
  simp only [Act.put, List.setIfInBounds_toArray, List.set_cons_zero, List.set_cons_succ]
  refine wpAnyH_take (i := 13) (oi := { dst := some 23, op := Op.fieldAddr 62 (Operand.tmp 22) 4, type := 0, pos := "wal.go:168", after := #[{ on := 12, ground := Ground.data }, { on := 6, ground := Ground.guard }], guard := some (6, false) }) (v := .pointer (some ⟨l, 4, none⟩)) rfl (by kernel_rfl) (by kernel_rfl) (by kernel_rfl) (fun _ _ _ h => h) (Or.inl ⟨by rfl, fun w' hSw => by clear hSw; go_simp⟩) (by assumption) ?_
  simp only [Act.put, List.setIfInBounds_toArray, List.set_cons_zero, List.set_cons_succ]
  refine wpAnyH_take (i := 10) (oi := { dst := some 20, op := Op.load 3 (Operand.tmp 19), type := 3, pos := "wal.go:168", after := #[{ on := 9, ground := Ground.data }, { on := 6, ground := Ground.guard }], guard := some (6, false) }) (v := .int .i64 (G.flushed : Int)) rfl (by kernel_rfl) (by kernel_rfl) (by kernel_rfl) (fun _ _ _ h => h) (yieldsIf_load_cell (by rfl) 3 _ rfl _ rfl (fun W hW => hW.c5) (fun W hc => ld_int hc)) (by assumption) ?_
  simp only [Act.put, List.setIfInBounds_toArray, List.set_cons_zero, List.set_cons_succ]
  refine wpAnyH_take (i := 14) (oi := { dst := some 24, op := Op.load 3 (Operand.tmp 23), type := 3, pos := "wal.go:168", after := #[{ on := 13, ground := Ground.data }, { on := 6, ground := Ground.guard }], guard := some (6, false) }) (v := .int .i64 (G.tail : Int)) rfl (by kernel_rfl) (by kernel_rfl) (by kernel_rfl) (fun _ _ _ h => h) (yieldsIf_load_cell (by rfl) 3 _ rfl _ rfl (fun W hW => hW.c4) (fun W hc => ld_int hc)) (by assumption) ?_
  simp only [Act.put, List.setIfInBounds_toArray, List.set_cons_zero, List.set_cons_succ]
  refine wpAnyH_take (i := 15) (oi := { dst := some 25, op := Op.binOp BinOp.eql 3 (Operand.tmp 20) (Operand.tmp 24) 3, type := 4, pos := "wal.go:168", after := #[{ on := 10, ground := Ground.data }, { on := 14, ground := Ground.data }, { on := 6, ground := Ground.guard }], guard := some (6, false) }) (v := .bool true) rfl (by kernel_rfl) (by kernel_rfl) (by kernel_rfl) (fun _ _ _ h => h) (Or.inl ⟨by rfl, fun w' hSw => by clear hSw; go_simp⟩) (by assumption) ?_
  simp only [Act.put, List.setIfInBounds_toArray, List.set_cons_zero, List.set_cons_succ]
  refine wpAnyH_take (i := 16) (oi := { dst := some 26, op := Op.pick (Operand.tmp 16) (Operand.const (Value.bool true)) (Operand.tmp 25), type := 4, pos := "wal.go:168", after := #[{ on := 6, ground := Ground.data }, { on := 15, ground := Ground.data }], guard := none }) (v := .bool true) rfl (by kernel_rfl) (by kernel_rfl) (by kernel_rfl) (fun _ _ _ h => h) (Or.inl ⟨by rfl, fun w' hSw => by clear hSw; go_simp⟩) (by assumption) ?_
  simp only [Act.put, List.setIfInBounds_toArray, List.set_cons_zero, List.set_cons_succ]
  refine wpAnyH_done (by kernel_rfl) ?_ _
  refine NoPanic.normal ?_
  go_wp2_with fail
  go_ret
  exact ⟨rfl, Only.drew _ _⟩
end Go.Proofs.YtcbdpdkmkncffaaGreatDoor

namespace Go.Proofs.YtcbdpdkmkncffaaGreatDoor
open Go.RowKit

set_option maxRecDepth 100000 in
theorem append_bad (w : World) (l d : Nat) (G : Lg) (base : Nat) (v7 v8 : Value) (h : LogOw w l d G base v7 v8) (r : Rc) (L : Loc) (hr : RcAt w r L) (hv : ¬ (r.at_ G.tail).valid) :
    Calls Tryz.prog 10 #[.pointer (some ⟨l, 0, none⟩), .agg (r.cells L)] w fun e w' =>
      (∃ c, c ≠ 0 ∧ (r.at_ G.tail).Out ([], c) ∧ e = .returned (.tuple #[.int .i64 0, .int .i64 c])) ∧ Only (fun _ => False) w w' := by
  have hrq : RcAt w (r.at_ (G.tail : Int)) L := hr.at_ _
  have hQ : Calls Tryz.prog 25 #[.agg ((r.at_ (G.tail : Int)).cells L)] (w.alloc (.cells ((r.at_ (G.tail : Int)).cells L) 37)) fun e w' => (∃ c, c ≠ 0 ∧ (r.at_ (G.tail : Int)).Out ([], c) ∧ e = .returned (.tuple #[.string ⟨#[]⟩, .int .i64 c])) ∧ Only (fun _ => False) w w' :=
    (rencode_any _ _ L (hrq.go (onlyA w _))).mono (fun e w' hx => ⟨hx.bad hv, o2 (onlyA w _) hx.only⟩)
  have HQ := hide hQ
  have c4 := h.c4
  have c4' : ∀ o, (w.alloc o).cell? ⟨l, 4, none⟩ = some (.int .i64 (G.tail : Int)) := fun o => (h.more (onlyA w _)).c4
  clear h hr hrq hQ hv
  go_enter Tryz.func10, Tryz.ntmps10
  go_wp2_with fail
  refine Calls.mono HQ.out ?_
  rintro e w2 ⟨⟨c, hc, hout, rfl⟩, ho2⟩
  have HO2 := hide ho2
  have HOUT := hide hout
  clear ho2 hout c4 c4'
  go_wp2_with fail
  go_ret2
  exact ⟨⟨c, hc, HOUT.out, rfl⟩, HO2.out⟩
set_option maxRecDepth 100000 in
theorem append_full (w : World) (l d : Nat) (G : Lg) (base : Nat) (v7 v8 : Value) (h : LogOw w l d G base v7 v8) (ok : G.Ok) (r : Rc) (L : Loc) (hr : RcAt w r L) (hv : (r.at_ G.tail).valid) (hroom : G.room < (r.at_ G.tail).enc.length) :
    Calls Tryz.prog 10 #[.pointer (some ⟨l, 0, none⟩), .agg (r.cells L)] w fun e w' => e = .returned (.tuple #[.int .i64 0, .int .i64 50]) ∧ Only (fun _ => False) w w' := by
  have hrq : RcAt w (r.at_ (G.tail : Int)) L := hr.at_ _
  have hQ : Calls Tryz.prog 25 #[.agg ((r.at_ (G.tail : Int)).cells L)] (w.alloc (.cells ((r.at_ (G.tail : Int)).cells L) 37)) fun e w' => e = .returned (.tuple #[.string (str (r.at_ (G.tail : Int)).enc), .int .i64 0]) ∧ Only (fun _ => False) w w' :=
    (rencode_any _ _ L (hrq.go (onlyA w _))).mono (fun e w' hx => ⟨hx.ok hv, o2 (onlyA w _) hx.only⟩)
  have HQ := hide hQ
  obtain ⟨N, hN⟩ : ∃ N, str (r.at_ (G.tail : Int)).enc = N := ⟨_, rfl⟩
  have hNs : N.size = (r.at_ (G.tail : Int)).enc.length := by rw [← hN, str_size]
  rw [hN] at HQ
  have c4 := h.c4
  have c4' : ∀ o, (w.alloc o).cell? ⟨l, 4, none⟩ = some (.int .i64 (G.tail : Int)) := fun o => (h.more (onlyA w _)).c4
  have HL := hide h
  have HRM := hide (fun W (hW : LogOw W l d G base v7 v8) => hW.room_ ok)
  obtain ⟨rm, hrm⟩ : ∃ rm, G.room = rm := ⟨_, rfl⟩
  rw [hrm] at HRM hroom
  have i1 : (rm : Int) < (N.size : Int) := by omega
  clear h hr hrq hQ hv hN hNs hrm hroom ok
  go_enter Tryz.func10, Tryz.ntmps10
  go_wp2_with fail
  refine Calls.mono HQ.out ?_
  rintro e w2 ⟨rfl, ho2⟩
  have HL2 := hide (HL.out.more ho2)
  have HO2 := hide ho2
  clear ho2 c4 c4'
  go_wp2_with fail
  refine (HRM.out _ HL2.out).mono ?_
  rintro e w3 ⟨rfl, ho3⟩
  have HO3 := hide (o2 HO2.out ho3)
  clear ho3
  go_wp2_with fail
  go_ret2
  exact ⟨rfl, HO3.out⟩
end Go.Proofs.YtcbdpdkmkncffaaGreatDoor

namespace Go.Proofs.YtcbdpdkmkncffaaGreatDoor
open Go.RowKit

theorem tk_ge (start : Nat) (rs : List Rc) : ∀ i, i ≤ rs.length → start + i ≤ tk start rs i
  | 0, _ => by simp [tk]
  | i + 1, h => by
    have h1 := tk_ge start rs i (by omega)
    have h2 := tk_next start rs i (by omega)
    have h3 : 0 < (rs[i]'(by omega)).enc.length := by rw [renc_len]; omega
    omega
theorem tk_app (start : Nat) (rs : List Rc) (x : Rc) (i : Nat) (h : i ≤ rs.length) : tk start (rs ++ [x]) i = tk start rs i := by
  unfold tk
  rw [List.take_append_of_le_length h]
theorem tk_all (start : Nat) (rs : List Rc) : tk start rs rs.length = start + (encR rs).length := by
  unfold tk
  rw [List.take_length]
theorem plc_app (start : Nat) (rs : List Rc) (x : Rc) : plc start (rs ++ [x]) (rs ++ [x]).length = plc start rs rs.length ++ [(tk start rs rs.length : Int)] := by
  rw [List.length_append]
  show plc start (rs ++ [x]) (rs.length + 1) = _
  rw [plc_next, tk_app start rs x _ (Nat.le_refl _)]
  congr 1
  unfold plc
  apply List.map_congr_left
  intro j hj
  rw [tk_app start rs x j (by have := List.mem_range.1 hj; omega)]
theorem chn_app {start : Nat} {rs : List Rc} {x : Rc} (h : Chn start rs) (h1 : x.valid) (h2 : ∀ im ∈ x.images, im.body.lsn < 9223372036854775808) (h3 : x.lsn = (tk start rs rs.length : Int)) : Chn start (rs ++ [x]) := by
  refine ⟨fun i hi => ?_⟩
  rw [List.length_append] at hi
  by_cases e : i < rs.length
  · have := h.each i e
    rw [List.getElem_append_left e, tk_app start rs x i (by omega)]
    exact this
  · have e2 : i = rs.length := by simp at hi; omega
    subst e2
    rw [tk_app start rs x _ (Nat.le_refl _)]
    simp
    exact ⟨h1, h2, h3⟩
/-- A log of two hundred sectors, made since w: what lasts F, its records rs, the list of those that the law keeps ra. -/
structure WqG (w W : World) (l : Nat) (v11 : Value) (F : Nat) (rs ra : List Rc) (d g m base : Nat) (D : Dk) (G : Lg) (v7 v8 : Value) (acc : List Lr) : Prop where
  aw : Aw w W l d g m base D G v7 v8
  wk : ∃ f, D.Wk 200 f
  frm : G.frm = 0
  n : G.n = 200
  st : G.start = 1
  rsv : G.reserved = 0
  fl : G.flushed = F
  f1 : 1 ≤ F
  f2 : F ≤ G.tail
  str : G.stream = encR rs
  pl : G.places = plc 1 rs rs.length
  tl : G.tail = tk 1 rs rs.length
  chn : Chn 1 rs
  tb : G.tail ≤ 10693
  ow : Ow W base v11 acc
  om : acc.map (fun z => z.1) = ra
  oa : ∀ z ∈ acc, RcAt w z.1 z.2
  s7 : ∀ k, v11.ownBlock = some k → v7.ownBlock ≠ some k
  s8 : ∀ k, v11.ownBlock = some k → v8.ownBlock ≠ some k
def Wq (w W : World) (l : Nat) (v11 : Value) (F : Nat) (rs ra : List Rc) : Prop := ∃ d g m base D G v7 v8 acc, WqG w W l v11 F rs ra d g m base D G v7 v8 acc
theorem WqG.more {w W W' : World} {l : Nat} {v11 : Value} {F : Nat} {rs ra : List Rc} {d g m base : Nat} {D : Dk} {G : Lg} {v7 v8 : Value} {acc : List Lr} (h : WqG w W l v11 F rs ra d g m base D G v7 v8 acc) (ho : Only (fun _ => False) W W') : WqG w W' l v11 F rs ra d g m base D G v7 v8 acc :=
  ⟨h.aw.more ho, h.wk, h.frm, h.n, h.st, h.rsv, h.fl, h.f1, h.f2, h.str, h.pl, h.tl, h.chn, h.tb, h.ow.more ho, h.om, h.oa, h.s7, h.s8⟩
theorem Wq.more {w W W' : World} {l : Nat} {v11 : Value} {F : Nat} {rs ra : List Rc} (h : Wq w W l v11 F rs ra) (ho : Only (fun _ => False) W W') : Wq w W' l v11 F rs ra := by
  obtain ⟨d, g, m, base, D, G, v7, v8, acc, h⟩ := h
  exact ⟨d, g, m, base, D, G, v7, v8, acc, h.more ho⟩
theorem Wq.only {w W : World} {l : Nat} {v11 : Value} {F : Nat} {rs ra : List Rc} (h : Wq w W l v11 F rs ra) : Only (fun _ => False) w W := by
  obtain ⟨d, g, m, base, D, G, v7, v8, acc, h⟩ := h
  exact h.aw.only
theorem WqG.slen {w W : World} {l : Nat} {v11 : Value} {F : Nat} {rs ra : List Rc} {d g m base : Nat} {D : Dk} {G : Lg} {v7 v8 : Value} {acc : List Lr} (h : WqG w W l v11 F rs ra d g m base D G v7 v8 acc) : G.tail = 1 + G.stream.length ∧ rs.length + 1 ≤ G.tail ∧ G.places.length = rs.length := by
  have h1 := h.tl
  have h2 := tk_ge 1 rs rs.length (Nat.le_refl _)
  have h3 := tk_all 1 rs
  rw [h.str, h.pl, plc_len]
  omega
theorem WqG.ok {w W : World} {l : Nat} {v11 : Value} {F : Nat} {rs ra : List Rc} {d g m base : Nat} {D : Dk} {G : Lg} {v7 v8 : Value} {acc : List Lr} (h : WqG w W l v11 F rs ra d g m base D G v7 v8 acc) : G.Ok := by
  have h1 := h.slen
  have a1 := h.frm
  have a2 := h.n
  have a3 := h.st
  have a4 := h.rsv
  have a5 := h.fl
  have a6 := h.f1
  have a7 := h.f2
  have a8 := h.tb
  exact ⟨by omega, by omega, by omega, by omega, by omega, by omega, by omega, by omega, by omega⟩
theorem wq_new (w : World) : Calls Tryz.prog 6 #[.int .i64 200] w fun e w' => ∃ d g m, e = .returned (.tuple #[.pointer (some ⟨d, 0, none⟩), .int .i64 0]) ∧ Dsk w' d g m (Dk.new 200) ∧ Only (fun _ => False) w w' ∧ w.heap.size ≤ d ∧ w.heap.size ≤ g ∧ w.heap.size ≤ m ∧ d < w'.heap.size ∧ g < w'.heap.size ∧ m < w'.heap.size := by
  refine (new_ok w 200 (by omega) (by omega)).mono ?_
  rintro e w' ⟨he, hD, ho⟩
  have := hD.lt
  exact ⟨_, _, _, he, hD, ho, by omega, by omega, by omega, by omega, by omega, by omega⟩
theorem wq_format {w W : World} {d g m : Nat} (hD : Dsk W d g m (Dk.new 200)) (ho : Only (fun _ => False) w W) (hd : w.heap.size ≤ d) (hg : w.heap.size ≤ g) (hm : w.heap.size ≤ m) (h1 : d < W.heap.size) (h2 : g < W.heap.size) (h3 : m < W.heap.size) :
    Calls Tryz.prog 7 #[.pointer (some ⟨d, 0, none⟩), .int .i64 0, .int .i64 200] W fun e w' => ∃ l, e = .returned (.tuple #[.pointer (some ⟨l, 0, none⟩), .int .i64 0]) ∧ Wq w w' l (.slice none 0 0) 1 [] [] := by
  obtain ⟨hx, hy⟩ := (Dk.Wk.new 200).write 0 200 (List.replicate (200 * 64) 0) (by rw [List.length_replicate]) (by omega)
  have hf : fitsB (Dk.new 200).old.length ((0 : Nat) : Int) ((200 : Nat) : Int) = true := by
    rw [(Dk.Wk.new 200).len]
    rfl
  refine Calls.mono (format_ok W d g m (Dk.new 200) hD 0 200 hf hx hy.sync.1) ?_
  rintro e w' ⟨l, he, hD', hL, hl, ho'⟩
  have s1 := ho.size
  have s2 := ho'.size
  refine ⟨l, he, d, g, m, w'.heap.size, _, Lg.new 0 200, _, _, [], ⟨hL.owned, hD', ?_, hd, hg, hm, by omega, by omega, by omega, by omega, hL.lt, ?_, Nat.le_refl _⟩, ⟨_, hy.sync.2⟩, rfl, rfl, rfl, rfl, rfl, Nat.le_refl _, Nat.le_refl _, rfl, rfl, rfl, ⟨fun i hi => absurd hi (by simp)⟩, by decide, Ow.nil _ _, rfl, fun _ h => (by cases h), fun k e => (by cases e), fun k e => (by cases e)⟩
  · refine ho.trans ho' ?_
    rintro i hi (e | e | e) <;> omega
  · rintro (e | e | e) <;> omega
theorem images_lsn {w : World} {r : Rc} {L : Loc} (h : RcAt w r L) : ∀ im ∈ r.images, im.body.lsn < 9223372036854775808 := by
  obtain ⟨T, hi⟩ := h.images
  exact hi.lsn
/-- The same, beside a block b that is none of theirs. -/
def Wqb (w W : World) (l : Nat) (v11 : Value) (F : Nat) (rs ra : List Rc) (b : Nat) : Prop := b < W.heap.size ∧ ∃ d g m base D G v7 v8 acc, WqG w W l v11 F rs ra d g m base D G v7 v8 acc ∧ v7.ownBlock ≠ some b ∧ v8.ownBlock ≠ some b ∧ v11.ownBlock ≠ some b ∧ base ≤ b
theorem Wq.box {w W W1 : World} {l : Nat} {v11 : Value} {F : Nat} {rs ra : List Rc} (h : Wq w W l v11 F rs ra) (ho : Only (fun _ => False) W W1) (hb : W.heap.size < W1.heap.size) : Wqb w W1 l v11 F rs ra W.heap.size := by
  obtain ⟨d, g, m, base, D, G, v7, v8, acc, h⟩ := h
  refine ⟨hb, d, g, m, base, D, G, v7, v8, acc, h.more ho, fun e => ?_, fun e => ?_, fun e => ?_, h.aw.bb⟩
  · have := (h.aw.log.row.lt _ e).2; omega
  · have := (World.ownsRow.lt h.aw.log.pl _ e).2; omega
  · have := (World.ownsRow.lt h.ow _ e).2; omega
theorem Wqb.more {w W W' : World} {l : Nat} {v11 : Value} {F : Nat} {rs ra : List Rc} {b : Nat} (h : Wqb w W l v11 F rs ra b) (ho : Only (fun _ => False) W W') : Wqb w W' l v11 F rs ra b := by
  obtain ⟨hb, d, g, m, base, D, G, v7, v8, acc, h, h1⟩ := h
  exact ⟨Nat.lt_of_lt_of_le hb ho.size, d, g, m, base, D, G, v7, v8, acc, h.more ho, h1⟩
theorem Wqb.wq {w W : World} {l : Nat} {v11 : Value} {F : Nat} {rs ra : List Rc} {b : Nat} (h : Wqb w W l v11 F rs ra b) : Wq w W l v11 F rs ra := by
  obtain ⟨hb, d, g, m, base, D, G, v7, v8, acc, h, h1⟩ := h
  exact ⟨d, g, m, base, D, G, v7, v8, acc, h⟩
theorem Wqb.set {w W W' : World} {l : Nat} {v11 : Value} {F : Nat} {rs ra : List Rc} {b : Nat} (h : Wqb w W l v11 F rs ra b) (ho : Only (fun k => k = b) W W') : Wqb w W' l v11 F rs ra b := by
  obtain ⟨hb, d, g, m, base, D, G, v7, v8, acc, h, h7, h8, h11, hbb⟩ := h
  have b1 := h.aw.bd
  have b2 := h.aw.bg
  have b3 := h.aw.bm
  have b4 := h.aw.bl
  have b5 := h.aw.hl
  refine ⟨Nat.lt_of_lt_of_le hb ho.size, d, g, m, base, D, G, v7, v8, acc, ⟨⟨h.aw.log.kept ho (by omega) (fun k e q => by subst q; exact h7 e) (fun k e q => by subst q; exact h8 e), h.aw.dsk.kept ho (by omega) (by omega) (by omega), h.aw.only.trans ho (fun i hi e => by omega), h.aw.hd, h.aw.hg, h.aw.hm, h.aw.hl, b1, b2, b3, b4, h.aw.nl, Nat.le_trans h.aw.bb ho.size⟩, h.wk, h.frm, h.n, h.st, h.rsv, h.fl, h.f1, h.f2, h.str, h.pl, h.tl, h.chn, h.tb, own_kept h.ow ho (fun k e q => by subst q; exact h11 e), h.om, h.oa, h.s7, h.s8⟩, h7, h8, h11, hbb⟩
theorem wqb_append {w W : World} {l : Nat} {v11 : Value} {F : Nat} {rs ra : List Rc} {b : Nat} (h : Wqb w W l v11 F rs ra b) (r : Rc) (L : Loc) (hr : RcAt W r L) : Calls Tryz.prog 10 #[.pointer (some ⟨l, 0, none⟩), .agg (r.cells L)] W fun e w' =>
    (∃ T : Nat, e = .returned (.tuple #[.int .i64 (T : Int), .int .i64 0]) ∧ Wqb w w' l v11 F (rs ++ [r.at_ (T : Int)]) ra b ∧ Only (fun k => k ≠ b) W w') ∨ (∃ c, (c == 0) = false ∧ e = .returned (.tuple #[.int .i64 0, .int .i64 c]) ∧ Wqb w w' l v11 F rs ra b ∧ Only (fun k => k ≠ b) W w') := by
  have hcopy := h
  obtain ⟨hbs, d, g, m, base, D, G, v7, v8, acc, h, h7, h8, h11, hbb⟩ := h
  have hsl := h.slen
  have htb := h.tb
  by_cases hv : (r.at_ G.tail).valid
  · by_cases hroom : (r.at_ G.tail).enc.length ≤ G.room
    · refine (append_ok W l d G base v7 v8 h.aw.log h.ok h.aw.bb r L hr hv hroom (by omega)).mono ?_
      rintro e w' ⟨he, v7', v8', hlo, ho, hb7, hb8⟩
      have hrm : G.room = 54 * 198 - (G.tail - 1) - 0 := by unfold Lg.room; rw [h.n, h.st, h.rsv]
      obtain ⟨E, hE⟩ : ∃ E, (r.at_ G.tail).enc = E := ⟨_, rfl⟩
      rw [hE] at hlo hroom
      have b2 := h.aw.bl
      have no : ∀ k, k < base → k ≠ l → ¬ (k = l ∨ some k = v7.ownBlock ∨ some k = v8.ownBlock) := by
        rintro k hk hkl (e | e | e)
        · exact hkl e
        · have := h.aw.log.hi7 k e.symm; omega
        · have := h.aw.log.hi8 k e.symm; omega
      have nl := h.aw.nl
      have a1 := h.f2
      have hlt := World.ownsRow.lt h.ow
      unfold own at nl
      refine .inl ⟨G.tail, he, ⟨Nat.lt_of_lt_of_le hbs ho.size, d, g, m, base, D, G.app E, v7', v8', acc, ⟨⟨hlo, ?_, ?_, h.aw.hd, h.aw.hg, h.aw.hm, h.aw.hl, h.aw.bd, h.aw.bg, h.aw.bm, h.aw.bl, h.aw.nl, Nat.le_trans h.aw.bb ho.size⟩, h.wk, h.frm, h.n, h.st, h.rsv, h.fl, h.f1, ?_, ?_, ?_, ?_, ?_, ?_, own_kept h.ow ho (fun k e q => ?_), h.om, h.oa, fun k e e2 => ?_, fun k e e2 => ?_⟩, fun e => ?_, fun e => ?_, h11, hbb⟩, ho.mono (fun k _ q e => ?_)⟩
      · exact h.aw.dsk.kept ho (no _ h.aw.bd (fun e => nl (.inl e.symm))) (no _ h.aw.bg (fun e => nl (.inr (.inl e.symm)))) (no _ h.aw.bm (fun e => nl (.inr (.inr e.symm))))
      · refine h.aw.only.trans ho ?_
        have b1 := h.aw.hl
        rintro i hi (e | e | e)
        · omega
        · have := h.aw.log.hi7 i e.symm; omega
        · have := h.aw.log.hi8 i e.symm; omega
      · show F ≤ G.tail + E.length
        omega
      · show G.stream ++ E = _
        rw [encR_snoc, h.str, hE]
      · show G.places ++ [(G.tail : Int)] = _
        rw [plc_app, h.pl, ← h.tl]
      · show G.tail + E.length = _
        rw [tk_all, encR_snoc, List.length_append, ← Nat.add_assoc, ← tk_all 1 rs, ← h.tl, hE]
      · exact chn_app h.chn hv (images_lsn (hr.at_ _)) (by rw [← h.tl]; rfl)
      · show G.tail + E.length ≤ _
        omega
      · have hk := hlt k e
        rcases q with q | q | q
        · omega
        · exact h.s7 k e q.symm
        · exact h.s8 k e q.symm
      · have hk := hlt k e
        rcases hb7 k e2 with q | q
        · exact h.s7 k e q
        · omega
      · have hk := hlt k e
        rcases hb8 k e2 with q | q
        · exact h.s8 k e q
        · omega
      · rcases hb7 b e with q | q
        · exact h7 q
        · omega
      · rcases hb8 b e with q | q
        · exact h8 q
        · omega
      · subst e
        rcases q with q | q | q
        · omega
        · exact h7 q.symm
        · exact h8 q.symm
    · refine (append_full W l d G base v7 v8 h.aw.log h.ok r L hr hv (by omega)).mono ?_
      rintro e w' ⟨he, ho⟩
      exact .inr ⟨50, rfl, he, hcopy.more ho, ho.mono (fun _ _ h => h.elim)⟩
  · refine (append_bad W l d G base v7 v8 h.aw.log r L hr hv).mono ?_
    rintro e w' ⟨⟨c, hc, -, he⟩, ho⟩
    exact .inr ⟨c, by simpa using hc, he, hcopy.more ho, ho.mono (fun _ _ h => h.elim)⟩
/-- One more record in the list that the law keeps. -/
theorem wq_list {w W : World} {l : Nat} {v11 : Value} {F : Nat} {rs ra : List Rc} (h : Wq w W l v11 F rs ra) (z : Lr) (hz : RcAt w z.1 z.2) (hra : ra.length ≤ 20000) :
    ∃ v' w', (Builtin.append_ #[49, 49] 49 #[v11, .slice (some ⟨W.heap.size, 0, none⟩) 1 1]).run Tryz.prog (W.alloc (.cells (z.1.cells z.2) 37)) = .ok v' w' ∧ Wq w w' l v' F rs (ra ++ [z.1]) := by
  obtain ⟨d, g, m, base, D, G, v7, v8, acc, h⟩ := h
  have hal : acc.length = ra.length := by rw [← h.om]; simp
  obtain ⟨v', w', hr, how, ho, hb⟩ := append_rec2 W 49 base v11 acc h.ow z (by omega) h.aw.bb
  have hlt := World.ownsRow.lt h.ow
  have b2 := h.aw.bl
  have no : ∀ k, k < base → ¬ (some k = v11.ownBlock) := fun k hk e => by have := (hlt k e.symm).1; omega
  refine ⟨v', w', hr, d, g, m, base, D, G, v7, v8, acc ++ [z], ⟨h.aw.log.kept ho (no _ b2) (fun k e q => h.s7 k q.symm e) (fun k e q => h.s8 k q.symm e), h.aw.dsk.kept ho (no _ h.aw.bd) (no _ h.aw.bg) (no _ h.aw.bm), h.aw.only.trans ho (fun i hi e => ?_), h.aw.hd, h.aw.hg, h.aw.hm, h.aw.hl, h.aw.bd, h.aw.bg, h.aw.bm, h.aw.bl, h.aw.nl, Nat.le_trans h.aw.bb ho.size⟩, h.wk, h.frm, h.n, h.st, h.rsv, h.fl, h.f1, h.f2, h.str, h.pl, h.tl, h.chn, h.tb, how, by rw [List.map_append, h.om]; rfl, fun y hy => ?_, fun k e e2 => ?_, fun k e e2 => ?_⟩
  · have := (hlt i e.symm).1
    have := h.aw.hl
    omega
  · rcases List.mem_append.1 hy with hy | hy
    · exact h.oa y hy
    · simp at hy; subst hy; exact hz
  · rcases hb with hb | hb
    · exact h.s7 k (hb.symm.trans e) e2
    · rw [hb] at e
      injection e with e
      have := (h.aw.log.row.lt k e2).2
      omega
  · rcases hb with hb | hb
    · exact h.s8 k (hb.symm.trans e) e2
    · rw [hb] at e
      injection e with e
      have := (World.ownsRow.lt h.aw.log.pl k e2).2
      omega
/-- A record's box, its place set. -/
theorem range_lsn {w : World} {b : Nat} {r : Rc} {L : Loc} (h : w.rangeAt b 0 (r.cl L)) (t : Int) : (w.setCell ⟨b, 0, none⟩ (.int .i64 t)).rangeAt b 0 ((r.at_ t).cl L) := by
  intro j v hv
  rw [Nat.zero_add]
  by_cases e : j = 0
  · subst e
    have h0 := h 0 (.int .i64 r.lsn) rfl
    rw [Nat.zero_add] at h0
    have : v = .int .i64 t := by injection hv with hv; exact hv.symm
    rw [this]
    exact World.cell?_setCell_same _ _ _ h0
  · have hv2 : (r.cl L)[j]? = some v := by
      obtain ⟨j, rfl⟩ : ∃ i, j = i + 1 := ⟨j - 1, by omega⟩
      exact hv
    have h1 := h j v hv2
    rw [Nat.zero_add] at h1
    exact (World.cell?_setCell_other _ _ _ _ (by intro e2; injection e2 with _ e3; exact e e3.symm)).trans h1
theorem wq_tail {w W : World} {l : Nat} {v11 : Value} {F : Nat} {rs ra : List Rc} (h : Wq w W l v11 F rs ra) : Calls Tryz.prog 9 #[.pointer (some ⟨l, 0, none⟩)] W fun e w' => e = .returned (.int .i64 ((tk 1 rs rs.length : Nat) : Int)) ∧ w' = W := by
  obtain ⟨d, g, m, base, D, G, v7, v8, acc, h⟩ := h
  obtain ⟨B, ao, cp, -, hL, -⟩ := h.aw.log.at_
  have := tail_any W l d G B ao cp v8 hL
  rwa [h.tl] at this
theorem wq_flushed {w W : World} {l : Nat} {v11 : Value} {F : Nat} {rs ra : List Rc} (h : Wq w W l v11 F rs ra) : Calls Tryz.prog 19 #[.pointer (some ⟨l, 0, none⟩)] W fun e w' => e = .returned (.int .i64 (F : Int)) ∧ w' = W := by
  obtain ⟨d, g, m, base, D, G, v7, v8, acc, h⟩ := h
  obtain ⟨B, ao, cp, -, hL, -⟩ := h.aw.log.at_
  have := flushed_any W l d G B ao cp v8 hL
  rwa [h.fl] at this
theorem wq_flush {w W : World} {l : Nat} {v11 : Value} {F : Nat} {rs ra : List Rc} (h : Wq w W l v11 F rs ra) : Calls Tryz.prog 17 #[.pointer (some ⟨l, 0, none⟩), .int .i64 ((tk 1 rs rs.length : Nat) : Int)] W fun e w' => e = .returned (.int .i64 0) ∧ ∃ F', Wq w w' l v11 F' rs ra := by
  obtain ⟨d, g, m, base, D, G, v7, v8, acc, h⟩ := h
  obtain ⟨B, ao, cp, hv, hL, hB⟩ := h.aw.log.at_
  have a1 := h.f1
  have a2 := h.f2
  have a3 := h.fl
  have a4 := h.tb
  have a5 := h.tl
  by_cases he : G.flushed = G.tail
  · refine (flush_done W l d G B ao cp v8 hL _ (by rw [← a5]; omega) he).mono ?_
    rintro e w' ⟨h1, ho⟩
    exact ⟨h1, F, _, _, _, _, _, _, _, _, _, h.more ho⟩
  · obtain ⟨f, hwk⟩ := h.wk
    obtain ⟨g1, g2, f', g3⟩ := flush_live G (by rw [h.n]; omega) 200 (by rw [h.n, h.frm]; omega) D f hwk
    have hBb : 0 < G.stream.length → base ≤ B := fun h0 => h.aw.log.hi7 B (hB h0)
    have b1 := h.aw.bd
    have b2 := h.aw.bg
    have b3 := h.aw.bm
    have b4 := h.aw.bl
    refine (flush_any W l d g m D h.aw.dsk G B ao cp v8 hL h.aw.nl (fun h0 => ?_) (fun h0 => ?_) h.ok (by omega) (by rw [h.st]; omega) _ (by rw [← a5]; omega) he).mono ?_
    · have := hBb h0
      rintro (e | e | e) <;> omega
    · have := hBb h0
      omega
    · rintro e w' ⟨h1, hd', hL', ho⟩
      rw [g1] at h1
      rw [g2] at hL'
      have no : ∀ k, base ≤ k → ¬ (own d g m k ∨ k = l) := by
        rintro k hk ((e | e | e) | e) <;> omega
      have h7 : ∀ k, v7.ownBlock = some k → ¬ (own d g m k ∨ k = l) := fun k e => no k (h.aw.log.hi7 k e)
      have h8 : ∀ k, v8.ownBlock = some k → ¬ (own d g m k ∨ k = l) := fun k e => no k (h.aw.log.hi8 k e)
      have c7 := hL'.c7
      rw [show (.slice ao ({ G with flushed := G.tail } : Lg).stream.length cp : Value) = v7 from hv.symm] at c7
      refine ⟨h1, G.tail, d, g, m, base, _, { G with flushed := G.tail }, v7, v8, acc, ⟨⟨hL'.c0, hL'.c1, hL'.c2, hL'.c3, hL'.c4, hL'.c5, hL'.c6, c7, hL'.c8, hL'.fz, hL'.lt, h.aw.log.row.kept ho h7, own_only h.aw.log.pl ho h8, h.aw.log.n1, h.aw.log.n2, h.aw.log.n3⟩, hd', h.aw.only.trans ho ?_, h.aw.hd, h.aw.hg, h.aw.hm, h.aw.hl, b1, b2, b3, b4, h.aw.nl, Nat.le_trans h.aw.bb ho.size⟩, ⟨f', g3⟩, h.frm, h.n, h.st, h.rsv, rfl, by omega, Nat.le_refl _, h.str, h.pl, h.tl, h.chn, h.tb, own_kept h.ow ho (fun k e => no k (World.ownsRow.lt h.ow k e).1), h.om, h.oa, h.s7, h.s8⟩
      have c1 := h.aw.hd
      have c2 := h.aw.hg
      have c3 := h.aw.hm
      have c4 := h.aw.hl
      rintro i hi ((e | e | e) | e) <;> omega
end Go.Proofs.YtcbdpdkmkncffaaGreatDoor

namespace Go.Proofs.YtcbdpdkmkncffaaGreatDoor
open Go.RowKit

theorem wqb_app {w W : World} {l : Nat} {v11 : Value} {F : Nat} {rs ra : List Rc} {b : Nat} (h : Wqb w W l v11 F rs ra b) (r : Rc) (L : Loc) (hr : RcAt W r L) : Calls Tryz.prog 10 #[.pointer (some ⟨l, 0, none⟩), .agg (r.cells L)] W fun e w' =>
    ∃ (T c : Int) (rs' : List Rc), e = .returned (.tuple #[.int .i64 T, .int .i64 c]) ∧ Wqb w w' l v11 F rs' ra b ∧ Only (fun k => k ≠ b) W w' ∧ ((c = 0 ∧ rs' = rs ++ [r.at_ T]) ∨ ((c == 0) = false ∧ rs' = rs)) := by
  refine (wqb_append h r L hr).mono ?_
  rintro e w' (⟨T, he, hx, ho⟩ | ⟨c, hc, he, hx, ho⟩)
  · exact ⟨T, 0, _, he, hx, ho, .inl ⟨rfl, rfl⟩⟩
  · exact ⟨0, c, _, he, hx, ho, .inr ⟨hc, rfl⟩⟩
/-- A log from its start on, and the list of its records. -/
structure PqG (w W : World) (l : Nat) (v11 : Value) (rs : List Rc) (d base : Nat) (G : Lg) (v7 v8 : Value) (pre : List UInt8) (B : Nat) (ao : Option Addr) (cp : Nat) (acc : List Lr) : Prop where
  log : LogOw W l d G base v7 v8
  ok : G.Ok
  str : G.stream = pre ++ encR rs
  hpre : pre.length = (G.start - 1) % 54
  pl : G.places = plc G.start rs rs.length
  tl : G.tail = tk G.start rs rs.length
  chn : Chn G.start rs
  big : G.tail ≤ 1000000
  only : Only (fun _ => False) w W
  val : v11 = .slice ao rs.length cp
  at_ : ∀ j (h : j < acc.length), ∃ o, ao = some ⟨B, o, none⟩ ∧ W.rangeAt B (o + j * 16) (rcl acc[j])
  om : acc.map (fun z => z.1) = rs
  oa : ∀ z ∈ acc, RcAt w z.1 z.2
def Pq (w W : World) (l : Nat) (v11 : Value) (rs : List Rc) : Prop := ∃ d base G v7 v8 pre B ao cp acc, PqG w W l v11 rs d base G v7 v8 pre B ao cp acc
theorem Pq.more {w W W' : World} {l : Nat} {v11 : Value} {rs : List Rc} (h : Pq w W l v11 rs) (ho : Only (fun _ => False) W W') : Pq w W' l v11 rs := by
  obtain ⟨d, base, G, v7, v8, pre, B, ao, cp, acc, h⟩ := h
  refine ⟨d, base, G, v7, v8, pre, B, ao, cp, acc, h.log.more ho, h.ok, h.str, h.hpre, h.pl, h.tl, h.chn, h.big, o2 h.only ho, h.val, fun j hj => ?_, h.om, h.oa⟩
  obtain ⟨o, e, hr⟩ := h.at_ j hj
  exact ⟨o, e, range_go hr ho (fun h => h)⟩
theorem Pq.only {w W : World} {l : Nat} {v11 : Value} {rs : List Rc} (h : Pq w W l v11 rs) : Only (fun _ => False) w W := by
  obtain ⟨d, base, G, v7, v8, pre, B, ao, cp, acc, h⟩ := h
  exact h.only
/-- The list that the law keeps. -/
theorem Wq.form {w W : World} {l : Nat} {v11 : Value} {F : Nat} {rs ra : List Rc} (h : Wq w W l v11 F rs ra) : ra.length ≤ 10693 → (v11 = .slice none 0 0 ∧ ra = []) ∨ ∃ g cap, v11 = .slice (some ⟨g, 0, none⟩) ra.length cap ∧ ra.length ≤ cap ∧ cap ≤ maxLen := by
  intro hl
  obtain ⟨d, g, m, base, D, G, v7, v8, acc, h⟩ := h
  have hal : acc.length = ra.length := by rw [← h.om]; simp
  rcases own_form h.ow with ⟨rfl, h0⟩ | ⟨q, cap, rfl, hb, hg, h1, h2⟩
  · refine .inl ⟨rfl, ?_⟩
    exact List.eq_nil_of_length_eq_zero (by omega)
  · exact .inr ⟨q, cap, by rw [hal], by omega, h2⟩
theorem Wq.len {w W : World} {l : Nat} {v11 : Value} {F : Nat} {rs ra : List Rc} (h : Wq w W l v11 F rs ra) : rs.length ≤ 10693 ∧ F ≤ 10693 ∧ tk 1 rs rs.length ≤ 10693 ∧ ∀ i (hi : i < rs.length), rs[i].lsn = (tk 1 rs i : Int) := by
  obtain ⟨d, g, m, base, D, G, v7, v8, acc, h⟩ := h
  have h1 := h.slen
  have h2 := h.tb
  have h3 := h.f2
  have h4 := h.tl
  exact ⟨by omega, by omega, by omega, fun i hi => (h.chn.each i hi).2.2⟩
/-- A record of the list, where it lies. -/
theorem Wq.at_ {w W : World} {l g cap : Nat} {F : Nat} {rs ra : List Rc} {n : Nat} (h : Wq w W l (.slice (some ⟨g, 0, none⟩) n cap) F rs ra) (i : Nat) (hi : i < ra.length) : ∃ L, W.rangeAt g (i * 16) (rcl (ra[i], L)) := by
  obtain ⟨d, g', m, base, D, G, v7, v8, acc, h⟩ := h
  have hal : acc.length = ra.length := by rw [← h.om]; simp
  rcases h.ow.form with ⟨e, e2⟩ | ⟨q, cap', hv, hb, hr⟩
  · cases e
  · injection hv with hv1
    injection hv1 with hv1
    injection hv1 with hv1
    subst hv1
    have := hr i (by omega)
    have e : ra[i] = acc[i].1 := by
      have : ra[i]? = (acc.map (fun z => z.1))[i]? := by rw [h.om]
      rw [List.getElem?_eq_getElem hi, List.getElem?_map, List.getElem?_eq_getElem (by omega)] at this
      injection this
    rw [e]
    exact ⟨acc[i].2, this⟩
theorem wq_pq {w W : World} {l : Nat} {v11 : Value} {F : Nat} {rs : List Rc} (h : Wq w W l v11 F rs rs) : Pq w W l v11 rs := by
  obtain ⟨d, g, m, base, D, G, v7, v8, acc, h⟩ := h
  have hal : acc.length = rs.length := by rw [← h.om]; simp
  have h4 := h.tb
  have h5 := h.st
  rcases h.ow.form with ⟨e, e2⟩ | ⟨q, cap, hv, hb, hr⟩
  · have hn : rs.length = 0 := by rw [← hal, e2]; rfl
    refine ⟨d, base, G, v7, v8, [], 0, none, 0, acc, h.aw.log, h.ok, by rw [h.str]; rfl, by rw [h5]; rfl, by rw [h5]; exact h.pl, by rw [h5]; exact h.tl, by rw [h5]; exact h.chn, by omega, h.aw.only, by rw [hn]; exact e, fun j hj => by omega, h.om, h.oa⟩
  · refine ⟨d, base, G, v7, v8, [], q, some ⟨q, 0, none⟩, cap, acc, h.aw.log, h.ok, by rw [h.str]; rfl, by rw [h5]; rfl, by rw [h5]; exact h.pl, by rw [h5]; exact h.tl, by rw [h5]; exact h.chn, by omega, h.aw.only, by rw [← hal]; exact hv, fun j hj => ⟨0, rfl, by rw [Nat.zero_add]; exact hr j hj⟩, h.om, h.oa⟩
theorem wq_recycle_no {w W : World} {l : Nat} {v11 : Value} {F : Nat} {rs ra : List Rc} (h : Wq w W l v11 F rs ra) (x : Int) (hx : (F : Int) < x) : Calls Tryz.prog 18 #[.pointer (some ⟨l, 0, none⟩), .int .i64 x] W fun e w' => e = .returned (.int .i64 51) ∧ Wq w w' l v11 F rs ra := by
  obtain ⟨d, g, m, base, D, G, v7, v8, acc, h⟩ := h
  have hsl := h.slen
  have htb := h.tb
  refine (recycle_early W l d G base v7 v8 h.aw.log (by rw [h.pl]; exact plc_sorted _ _ _) (by omega) x (by rw [h.fl]; exact hx)).mono ?_
  rintro e w' ⟨he, ho⟩
  exact ⟨he, _, _, _, _, _, _, _, _, _, h.more ho⟩
theorem wq_recycle_ok {w W : World} {l g cap : Nat} {F : Nat} {rs : List Rc} (h : Wq w W l (.slice (some ⟨g, 0, none⟩) rs.length cap) F rs rs) (k : Nat) (hk : k < rs.length) (hx : tk 1 rs k ≤ F) :
    Calls Tryz.prog 18 #[.pointer (some ⟨l, 0, none⟩), .int .i64 ((tk 1 rs k : Nat) : Int)] W fun e w' => e = .returned (.int .i64 0) ∧ Pq w w' l (.slice (some ⟨g, k * 16, none⟩) (rs.length - k) (cap - k)) (rs.drop k) := by
  obtain ⟨d, g', m, base, D, G, v7, v8, acc, h⟩ := h
  have hsl := h.slen
  have htb := h.tb
  have hst := h.st
  have hal : acc.length = rs.length := by rw [← h.om]; simp
  have hge := tk_ge 1 rs k (by omega)
  have hpl : G.places = plc G.start rs rs.length := by rw [hst]; exact h.pl
  obtain ⟨c1, pre', c2, c3, c4, c5, c6⟩ := cut_facts (G := G) (pre := []) (rs := rs) (by rw [h.str]; rfl) (by rw [hst]; rfl) hpl (by rw [hst]; exact h.tl) (by rw [hst]; exact h.chn) (by omega) k hk
  rw [hst] at c1 c2 c3 c4 c5 c6
  have h0 : 0 < G.stream.length := by omega
  have hf := h.fl
  have hf2 := h.f2
  refine (recycle_ok W l d G base v7 v8 h.aw.log (by rw [h.pl]; exact plc_sorted _ _ _) (by omega) (tk 1 rs k) k (by omega) (by omega) (by omega) (by omega) (by rw [h.pl]; exact plc_count 1 rs k rs.length (Nat.le_refl _) (by omega)) (by rw [h.pl]; exact plc_has 1 rs k rs.length hk) (by omega) c1 h0).mono ?_
  rintro e w' ⟨he, v7', v8', hlo, hb7, hb8, ho⟩
  have hle := tk_le 1 rs k rs.length (by omega)
  have htl := h.tl
  have a1 := h.frm
  have a2 := h.n
  have a4 := h.rsv
  have hlt := World.ownsRow.lt h.ow
  have b2 := h.aw.bl
  have b3 := h.aw.hl
  have how := own_kept h.ow ho (fun i e q => by
    have hi := hlt i e
    rcases q with q | q | q
    · omega
    · exact h.s7 i e q.symm
    · exact h.s8 i e q.symm)
  have hcl : (G.cut (tk 1 rs k) k).stream.length ≤ G.stream.length := by
    show (G.stream.drop _).length ≤ _
    rw [List.length_drop]; omega
  refine ⟨he, d, base, G.cut (tk 1 rs k) k, v7', v8', pre', g, some ⟨g, k * 16, none⟩, cap - k, acc.drop k, hlo, ⟨?_, ?_, ?_, ?_, ?_, ?_, ?_, ?_, ?_⟩, c2, c3, c4, c5, c6, ?_, ?_, by rw [List.length_drop], fun j hj => ?_, by rw [List.map_drop, h.om], fun z hz => h.oa z (List.mem_of_mem_drop hz)⟩
  · show 1 ≤ tk 1 rs k; omega
  · show tk 1 rs k ≤ G.tail; omega
  · show G.tail < _; omega
  · show G.flushed ≤ G.tail; omega
  · show 4 ≤ G.n; omega
  · show G.n ≤ _; omega
  · show G.frm ≤ _; omega
  · show G.reserved ≤ _; omega
  · omega
  · show G.tail ≤ _; omega
  · refine h.aw.only.trans ho ?_
    rintro i hi (e | e | e)
    · omega
    · have := h.aw.log.hi7 i e.symm; omega
    · have := h.aw.log.hi8 i e.symm; omega
  · rw [List.length_drop] at hj
    refine ⟨k * 16, rfl, ?_⟩
    rcases Ow.form (l := acc) how with ⟨e, e2⟩ | ⟨q, cap', hv, hb, hr⟩
    · cases e
    · injection hv with hv1
      injection hv1 with hv1
      injection hv1 with hv1
      subst hv1
      have := hr (k + j) (by omega)
      rw [List.getElem_drop, show k * 16 + j * 16 = (k + j) * 16 by omega]
      exact this
theorem Pq.at_ {w W : World} {l : Nat} {v11 : Value} {rs : List Rc} (h : Pq w W l v11 rs) (i : Nat) (hi : i < rs.length) : ∃ B o cp L, v11 = .slice (some ⟨B, o, none⟩) rs.length cp ∧ W.rangeAt B (o + i * 16) (rcl (rs[i], L)) ∧ RcAt w rs[i] L := by
  obtain ⟨d, base, G, v7, v8, pre, B, ao, cp, acc, h⟩ := h
  have hal : acc.length = rs.length := by rw [← h.om]; simp
  obtain ⟨o, e, hr⟩ := h.at_ i (by omega)
  have e2 : rs[i] = acc[i].1 := by
    have : rs[i]? = (acc.map (fun z => z.1))[i]? := by rw [h.om]
    rw [List.getElem?_eq_getElem hi, List.getElem?_map, List.getElem?_eq_getElem (by omega)] at this
    injection this
  have hv := h.val
  rw [e] at hv
  rw [e2]
  exact ⟨B, o, cp, acc[i].2, hv, hr, h.oa _ (List.getElem_mem _)⟩
theorem pq_get {w W : World} {l : Nat} {v11 : Value} {rs : List Rc} (h : Pq w W l v11 rs) (i : Nat) (hi : i < rs.length) : Calls Tryz.prog 16 #[.pointer (some ⟨l, 0, none⟩), .int .i64 rs[i].lsn] W fun e w' => ∃ L, e = .returned (.tuple #[.agg (rs[i].cells L), .int .i64 0]) ∧ RcAt w' rs[i] L ∧ Only (fun _ => False) W w' := by
  obtain ⟨d, base, G, v7, v8, pre, B, ao, cp, acc, h⟩ := h
  rw [(h.chn.each i hi).2.2]
  exact get_ok W l d G base v7 v8 h.log h.ok pre rs h.str h.hpre h.pl h.tl h.chn h.big i hi
theorem pq_getx {w W : World} {l : Nat} {v11 : Value} {rs : List Rc} (h : Pq w W l v11 rs) (x : Int) : Calls Tryz.prog 16 #[.pointer (some ⟨l, 0, none⟩), .int .i64 x] W fun e w' => (∃ (r : Rc) (L : Loc), e = .returned (.tuple #[.agg (r.cells L), .int .i64 0]) ∧ x ∈ rs.map (fun r => r.lsn) ∧ Only (fun _ => False) W w') ∨ (∃ (r : Rc) (L : Loc), e = .returned (.tuple #[.agg (r.cells L), .int .i64 51]) ∧ x ∉ rs.map (fun r => r.lsn) ∧ Only (fun _ => False) W w') := by
  by_cases hx : x ∈ rs.map (fun r => r.lsn)
  · obtain ⟨r, hr, rfl⟩ := List.mem_map.1 hx
    obtain ⟨i, hi, rfl⟩ := List.getElem_of_mem hr
    refine (pq_get h i hi).mono ?_
    rintro e w' ⟨L, he, -, ho⟩
    exact .inl ⟨_, L, he, hx, ho⟩
  · obtain ⟨d, base, G, v7, v8, pre, B, ao, cp, acc, h⟩ := h
    have hnx : x ∉ G.places := fun hp => by
      rw [h.pl] at hp
      unfold plc at hp
      obtain ⟨j, hj, rfl⟩ := List.mem_map.1 hp
      have hj' := List.mem_range.1 hj
      exact hx (List.mem_map.2 ⟨rs[j], List.getElem_mem hj', (h.chn.each j hj').2.2⟩)
    have hlen : G.places.length ≤ 1000000000 := by
      rw [h.pl, plc_len]
      have h1 := tk_ge G.start rs rs.length (Nat.le_refl _)
      have h2 := h.tl
      have h3 := h.big
      omega
    refine (get_gone W l d G base v7 v8 h.log (by rw [h.pl]; exact plc_sorted _ _ _) hlen x hnx).mono ?_
    rintro e w' ⟨he, ho⟩
    exact .inr ⟨_, _, he, hx, ho⟩
theorem Wq.slice_ {w W : World} {l : Nat} {v11 : Value} {F : Nat} {rs ra : List Rc} (h : Wq w W l v11 F rs ra) (hl : ra.length ≤ 10693) : ∃ aX cX, v11 = .slice aX ra.length cX ∧ (0 < ra.length → ∃ g, aX = some ⟨g, 0, none⟩ ∧ ra.length ≤ cX ∧ cX ≤ maxLen) := by
  rcases h.form hl with ⟨rfl, rfl⟩ | ⟨g, cap, rfl, h1, h2⟩
  · exact ⟨none, 0, rfl, fun h => absurd h (by simp)⟩
  · exact ⟨_, _, rfl, fun _ => ⟨g, rfl, h1, h2⟩⟩
theorem Pq.slice_ {w W : World} {l : Nat} {v11 : Value} {rs : List Rc} (h : Pq w W l v11 rs) : ∃ aX cX, v11 = .slice aX rs.length cX ∧ rs.length ≤ 1000000 := by
  obtain ⟨d, base, G, v7, v8, pre, B, ao, cp, acc, h⟩ := h
  have h1 := tk_ge G.start rs rs.length (Nat.le_refl _)
  have h2 := h.tl
  have h3 := h.big
  exact ⟨_, _, h.val, by omega⟩
/-- Which record a number picks. -/
theorem pick_idx (t : Int) (n : Nat) (h : 0 < n) (hb : n ≤ 10693) : ∃ (R : Int) (k : Nat), t.tmod (n : Int) = R ∧ (R + (n : Int)).tmod (n : Int) = (k : Int) ∧ k < n ∧ -10693 < R ∧ R < 10693 := by
  have h0 : (0 : Int) < (n : Int) := by omega
  have he : 0 ≤ t % (n : Int) ∧ t % (n : Int) < (n : Int) := ⟨Int.emod_nonneg t (by omega), Int.emod_lt_of_pos t h0⟩
  have h1 : t.tmod (n : Int) = t % (n : Int) - ↑(if 0 ≤ t ∨ (n : Int) ∣ t then 0 else (n : Int).natAbs) := Int.tmod_eq_emod
  have h2 : t.tmod (n : Int) = t % (n : Int) ∨ t.tmod (n : Int) = t % (n : Int) - (n : Int) ∧ 0 < t % (n : Int) := by
    by_cases hc : 0 ≤ t ∨ (n : Int) ∣ t
    · rw [if_pos hc] at h1
      exact .inl (by omega)
    · rw [if_neg hc] at h1
      have h3 : ¬ t % (n : Int) = 0 := fun e => hc (.inr (Int.dvd_of_emod_eq_zero e))
      exact .inr ⟨by omega, by omega⟩
  have h4 : -(n : Int) < t.tmod (n : Int) ∧ t.tmod (n : Int) < (n : Int) := by
    rcases h2 with e | ⟨e, _⟩ <;> rw [e] <;> omega
  refine ⟨_, (t % (n : Int)).toNat, rfl, ?_, by omega, by omega, by omega⟩
  rw [Int.tmod_eq_emod_of_nonneg (show 0 ≤ t.tmod (n : Int) + (n : Int) by omega), show (((t % (n : Int)).toNat : Nat) : Int) = t % (n : Int) by omega]
  rcases h2 with e | ⟨e, _⟩ <;> rw [e]
  · rw [Int.add_emod_right]; exact Int.emod_eq_of_lt he.1 he.2
  · rw [Int.sub_add_cancel]; exact Int.emod_eq_of_lt he.1 he.2
end Go.Proofs.YtcbdpdkmkncffaaGreatDoor
