/- Layout, of the code and of the document, and the law's small configuration. -/
import Derived.Test.YtpogphaflhfmbaaGWalkA
namespace Go.Proofs.Ytpogphaflhfmbaa
open Go.RowKit

/-- Three numbers in block b. -/
structure Lb (w : World) (b : Nat) (x y z : Int) : Prop where
  c0 : w.cell? ⟨b, 0, none⟩ = some (.int .i64 x)
  c1 : w.cell? ⟨b, 1, none⟩ = some (.int .i64 y)
  c2 : w.cell? ⟨b, 2, none⟩ = some (.int .i64 z)
  f0 : w.frozen? ⟨b, 0, none⟩ = false
  f1 : w.frozen? ⟨b, 1, none⟩ = false
  f2 : w.frozen? ⟨b, 2, none⟩ = false
  lt : b < w.heap.size
theorem Lb.kept {S : Nat → Prop} {w w' : World} {b : Nat} {x y z : Int} (h : Lb w b x y z) (ho : Only S w w') (hS : ¬ S b) : Lb w' b x y z :=
  ⟨(ho.cell (p := ⟨b, 0, none⟩) h.lt hS).trans h.c0, (ho.cell (p := ⟨b, 1, none⟩) h.lt hS).trans h.c1, (ho.cell (p := ⟨b, 2, none⟩) h.lt hS).trans h.c2,
   (ho.frozen (p := ⟨b, 0, none⟩) h.lt hS).trans h.f0, (ho.frozen (p := ⟨b, 1, none⟩) h.lt hS).trans h.f1, (ho.frozen (p := ⟨b, 2, none⟩) h.lt hS).trans h.f2, Nat.lt_of_lt_of_le h.lt ho.size⟩
theorem Lb.more {w w' : World} {b : Nat} {x y z : Int} (h : Lb w b x y z) (ho : Only (fun _ => False) w w') : Lb w' b x y z := h.kept ho (fun h => h)
theorem Lb.new (w : World) (x y z : Int) : Lb (w.alloc (.cells #[.int .i64 x, .int .i64 y, .int .i64 z] 31)) w.heap.size x y z :=
  ⟨by simp, by simp, by simp, by simp, by simp, by simp, by simp⟩
def layV (x y z : Int) : Value := .agg #[.int .i64 x, .int .i64 y, .int .i64 z]
theorem load_lb {w : World} {b : Nat} {x y z : Int} (h : Lb w b x y z) : (loadVar 31 ⟨b, 0, none⟩).run Try.prog w = .ok (layV x y z) w := by
  have c0 := h.c0
  have c1 := h.c1
  have c2 := h.c2
  simp [loadVar, go_sem, c0, c1, c2, layV]
theorem results_lb {fn : Func} {p u : Tmp} (h : fn.results = #[.cell p 31, .tmp u]) {tmps : Array Value} {w : World} {b : Nat} {x y z : Int} (hp : tmps.getD p undef = .pointer (some ⟨b, 0, none⟩)) (hP : Lb w b x y z) :
    (results fn tmps).run Try.prog w = .ok (.tuple #[layV x y z, tmps.getD u undef]) w := by
  have e : (asAddr (.pointer (some ⟨b, 0, none⟩))).run Try.prog w = .ok ⟨b, 0, none⟩ w := rfl
  rw [results_cell_tmp h, hp, e]
  simp only [Result.andThen, load_lb hP]
theorem othG (W : World) (b i j : Nat) (v x : Value) (hij : i ≠ j) (hx : W.cell? ⟨b, j, none⟩ = some x) : (W.setCell ⟨b, i, none⟩ v).cell? ⟨b, j, none⟩ = some x :=
  (World.cell?_setCell_other _ _ _ _ (by intro e; injection e; omega)).trans hx
theorem Lb.all {w : World} {b : Nat} {u v t : Int} (h : Lb w b u v t) (x y z : Int) : Lb (((w.setCell ⟨b, 0, none⟩ (.int .i64 x)).setCell ⟨b, 1, none⟩ (.int .i64 y)).setCell ⟨b, 2, none⟩ (.int .i64 z)) b x y z :=
  ⟨othG _ _ _ _ _ _ (by omega) (othG _ _ _ _ _ _ (by omega) (World.cell?_setCell_same _ _ _ h.c0)), othG _ _ _ _ _ _ (by omega) (World.cell?_setCell_same _ _ _ (othG _ _ _ _ _ _ (by omega) h.c1)), World.cell?_setCell_same _ _ _ (othG _ _ _ _ _ _ (by omega) (othG _ _ _ _ _ _ (by omega) h.c2)), by simpa using h.f0, by simpa using h.f1, by simpa using h.f2, by simpa using h.lt⟩
theorem Only.triG (w : World) (b : Nat) (v0 v1 v2 : Value) : Only (fun k => k = b) w (((w.setCell ⟨b, 0, none⟩ v0).setCell ⟨b, 1, none⟩ v1).setCell ⟨b, 2, none⟩ v2) := by
  have st : ∀ (W : World) (i : Nat) (v : Value), Only (fun k => k = b) W (W.setCell ⟨b, i, none⟩ v) := fun W i v => Only.setCell W ⟨b, i, none⟩ v rfl
  exact ((st _ 0 _).trans (st _ 1 _) (fun _ _ h => h)).trans (st _ 2 _) (fun _ _ h => h)
/-- What Layout answers. -/
def outL (f m l p : Int) : Value := if Snd f m l p then .tuple #[layV 2 (2 + l) (2 + l + 8 * p), .int .i64 0] else .tuple #[layV 0 0 0, .int .i64 1]
theorem newer {w w' : World} (b : Nat) (h : Only (fun k => k = b) w w') {w0 : World} (h0 : Only (fun _ => False) w0 w) (hb : w0.heap.size ≤ b) : Only (fun _ => False) w0 w' :=
  h0.trans h (fun i hi e => by omega)
set_option maxRecDepth 100000 in
set_option maxHeartbeats 1600000 in
theorem layout_any (f m l p : Int) (w : World) : Calls Try.prog 9 #[.agg #[.int .i64 f, .int .i64 m, .int .i64 l, .int .i64 p]] w fun e w' => e = .returned (outL f m l p) ∧ Only (fun _ => False) w w' := by
  have HS := hide (fun W => sound_any f m l p W)
  have HC : Hid (∀ W, Only (fun _ => False) ((w.alloc (.cells #[.int .i64 f, .int .i64 m, .int .i64 l, .int .i64 p] 23)).alloc (.cells #[.int .i64 0, .int .i64 0, .int .i64 0] 31)) W → Lb W (w.heap.size + 1) 0 0 0) := fun W h => by
    have := (Lb.new (w.alloc (.cells #[.int .i64 f, .int .i64 m, .int .i64 l, .int .i64 p] 23)) 0 0 0).more h
    rwa [World.size_alloc] at this
  have HX : Hid (∀ W, Only (fun _ => False) ((w.alloc (.cells #[.int .i64 f, .int .i64 m, .int .i64 l, .int .i64 p] 23)).alloc (.cells #[.int .i64 0, .int .i64 0, .int .i64 0] 31)) W → W.cell? ⟨w.heap.size, 2, none⟩ = some (.int .i64 l) ∧ W.cell? ⟨w.heap.size, 3, none⟩ = some (.int .i64 p)) := fun W h => by
    constructor
    · exact (h.cell (p := ⟨w.heap.size, 2, none⟩) (by simp; omega) (fun h => h)).trans (by simp)
    · exact (h.cell (p := ⟨w.heap.size, 3, none⟩) (by simp; omega) (fun h => h)).trans (by simp)
  have HO := hide (o2 (onlyA w (.cells #[.int .i64 f, .int .i64 m, .int .i64 l, .int .i64 p] 23)) (onlyA _ (.cells #[.int .i64 0, .int .i64 0, .int .i64 0] 31)))
  have hlt : w.heap.size ≤ w.heap.size + 1 := by omega
  by_cases h : Snd f m l p
  · have hr : outL f m l p = .tuple #[layV 2 (2 + l) (2 + l + 8 * p), .int .i64 0] := if_pos h
    rw [hr]
    simp only [decide_eq_true h] at HS
    have hb : 160 ≤ l ∧ l ≤ 4096 ∧ 4 ≤ p ∧ p ≤ 4096 := ⟨h.2.2.2.1.1, h.2.2.2.1.2, h.2.2.2.2.1, h.2.2.2.2.2⟩
    obtain ⟨b0, b1, b2, b3⟩ := hb
    clear hr h
    go_enter Try.func9, Try.ntmps9
    go_wp2_with fail
    refine (HS.out _).mono ?_
    rintro e w1 ⟨rfl, ho1⟩
    have HL := hide (HC.out w1 ho1)
    obtain ⟨x2, x3⟩ := HX.out w1 ho1
    have HO1 := hide (o2 HO.out ho1)
    obtain ⟨c0, c1, c2, f0, f1, f2, _⟩ := HL.out
    clear ho1
    go_wp2_with fail
    refine bodyPost_ret (results_lb rfl rfl (HL.out.all 2 (2 + l) (2 + l + 8 * p))) rfl ?_
    exact ⟨rfl, newer (w.heap.size + 1) (Only.triG _ _ _ _ _) HO1.out hlt⟩
  · have hr : outL f m l p = .tuple #[layV 0 0 0, .int .i64 1] := if_neg h
    rw [hr]
    simp only [decide_eq_false h] at HS
    clear hr h
    go_enter Try.func9, Try.ntmps9
    go_wp2_with fail
    refine (HS.out _).mono ?_
    rintro e w1 ⟨rfl, ho1⟩
    have HL := hide (HC.out w1 ho1)
    have HO1 := hide (o2 HO.out ho1)
    obtain ⟨c0, c1, c2, f0, f1, f2, _⟩ := HL.out
    clear ho1
    go_wp2_with fail
    refine bodyPost_ret (results_lb rfl rfl (HL.out.all 0 0 0)) rfl ?_
    exact ⟨rfl, newer (w.heap.size + 1) (Only.triG _ _ _ _ _) HO1.out hlt⟩
set_option maxRecDepth 100000 in
set_option maxHeartbeats 1600000 in
theorem rlayout_any (f m l p : Int) (w : World) : Calls Try.prog 10 #[.agg #[.int .i64 f, .int .i64 m, .int .i64 l, .int .i64 p]] w fun e w' => e = .returned (outL f m l p) ∧ Only (fun _ => False) w w' := by
  have HS := hide (fun W => rsound_any f m l p W)
  have HC : Hid (∀ W, Only (fun _ => False) ((w.alloc (.cells #[.int .i64 f, .int .i64 m, .int .i64 l, .int .i64 p] 23)).alloc (.cells #[.int .i64 0, .int .i64 0, .int .i64 0] 31)) W → Lb W (w.heap.size + 1) 0 0 0) := fun W h => by
    have := (Lb.new (w.alloc (.cells #[.int .i64 f, .int .i64 m, .int .i64 l, .int .i64 p] 23)) 0 0 0).more h
    rwa [World.size_alloc] at this
  have HX : Hid (∀ W, Only (fun _ => False) ((w.alloc (.cells #[.int .i64 f, .int .i64 m, .int .i64 l, .int .i64 p] 23)).alloc (.cells #[.int .i64 0, .int .i64 0, .int .i64 0] 31)) W → W.cell? ⟨w.heap.size, 2, none⟩ = some (.int .i64 l) ∧ W.cell? ⟨w.heap.size, 3, none⟩ = some (.int .i64 p)) := fun W h => by
    constructor
    · exact (h.cell (p := ⟨w.heap.size, 2, none⟩) (by simp; omega) (fun h => h)).trans (by simp)
    · exact (h.cell (p := ⟨w.heap.size, 3, none⟩) (by simp; omega) (fun h => h)).trans (by simp)
  have HO := hide (o2 (onlyA w (.cells #[.int .i64 f, .int .i64 m, .int .i64 l, .int .i64 p] 23)) (onlyA _ (.cells #[.int .i64 0, .int .i64 0, .int .i64 0] 31)))
  have hlt : w.heap.size ≤ w.heap.size + 1 := by omega
  by_cases h : Snd f m l p
  · have hr : outL f m l p = .tuple #[layV 2 (2 + l) (2 + l + 8 * p), .int .i64 0] := if_pos h
    rw [hr]
    simp only [decide_eq_true h] at HS
    have hb : 160 ≤ l ∧ l ≤ 4096 ∧ 4 ≤ p ∧ p ≤ 4096 := ⟨h.2.2.2.1.1, h.2.2.2.1.2, h.2.2.2.2.1, h.2.2.2.2.2⟩
    obtain ⟨b0, b1, b2, b3⟩ := hb
    clear hr h
    go_enter Try.func10, Try.ntmps10
    go_wp2_with fail
    refine (HS.out _).mono ?_
    rintro e w1 ⟨rfl, ho1⟩
    have HL := hide (HC.out w1 ho1)
    obtain ⟨x2, x3⟩ := HX.out w1 ho1
    have HO1 := hide (o2 HO.out ho1)
    obtain ⟨c0, c1, c2, f0, f1, f2, _⟩ := HL.out
    clear ho1
    go_wp2_with fail
    refine bodyPost_ret (results_lb rfl rfl (HL.out.all 2 (2 + l) (2 + l + 8 * p))) rfl ?_
    exact ⟨rfl, newer (w.heap.size + 1) (Only.triG _ _ _ _ _) HO1.out hlt⟩
  · have hr : outL f m l p = .tuple #[layV 0 0 0, .int .i64 1] := if_neg h
    rw [hr]
    simp only [decide_eq_false h] at HS
    clear hr h
    go_enter Try.func10, Try.ntmps10
    go_wp2_with fail
    refine (HS.out _).mono ?_
    rintro e w1 ⟨rfl, ho1⟩
    have HL := hide (HC.out w1 ho1)
    have HO1 := hide (o2 HO.out ho1)
    obtain ⟨c0, c1, c2, f0, f1, f2, _⟩ := HL.out
    clear ho1
    go_wp2_with fail
    refine bodyPost_ret (results_lb rfl rfl (HL.out.all 0 0 0)) rfl ?_
    exact ⟨rfl, newer (w.heap.size + 1) (Only.triG _ _ _ _ _) HO1.out hlt⟩
theorem load_cf {w : World} {b : Nat} {x y z t : Int} (c0 : w.cell? ⟨b, 0, none⟩ = some (.int .i64 x)) (c1 : w.cell? ⟨b, 1, none⟩ = some (.int .i64 y)) (c2 : w.cell? ⟨b, 2, none⟩ = some (.int .i64 z)) (c3 : w.cell? ⟨b, 3, none⟩ = some (.int .i64 t)) :
    (loadVar 23 ⟨b, 0, none⟩).run Try.prog w = .ok (.agg #[.int .i64 x, .int .i64 y, .int .i64 z, .int .i64 t]) w := by
  simp [loadVar, go_sem, c0, c1, c2, c3]
theorem results_cf {fn : Func} {p : Tmp} (h : fn.results = #[.cell p 23]) {tmps : Array Value} {w : World} {b : Nat} {x y z t : Int} (hp : tmps.getD p undef = .pointer (some ⟨b, 0, none⟩)) (c0 : w.cell? ⟨b, 0, none⟩ = some (.int .i64 x)) (c1 : w.cell? ⟨b, 1, none⟩ = some (.int .i64 y)) (c2 : w.cell? ⟨b, 2, none⟩ = some (.int .i64 z)) (c3 : w.cell? ⟨b, 3, none⟩ = some (.int .i64 t)) :
    (results fn tmps).run Try.prog w = .ok (.agg #[.int .i64 x, .int .i64 y, .int .i64 z, .int .i64 t]) w := by
  have hp' : tmps[p]?.getD undef = .pointer (some ⟨b, 0, none⟩) := by simpa using hp
  have e : (asAddr (.pointer (some ⟨b, 0, none⟩))).run Try.prog w = .ok ⟨b, 0, none⟩ w := rfl
  simp [results, h, hp', asAddr, load_cf c0 c1 c2 c3]
theorem small_any (w : World) : Calls Try.prog 25 #[] w fun e w' => e = .returned (.agg #[.int .i64 4, .int .i64 16, .int .i64 160, .int .i64 4]) ∧ Only (fun _ => False) w w' := by
  have HO := hide (onlyA w (.cells #[.int .i64 4, .int .i64 16, .int .i64 160, .int .i64 4] 23))
  go_enter Try.func25, Try.ntmps25
  go_wp2_with fail
  refine bodyPost_ret (results_cf rfl rfl (x := 4) (y := 16) (z := 160) (t := 4) (by simp) (by simp) (by simp) (by simp)) rfl ?_
  exact ⟨rfl, HO.out⟩
end Go.Proofs.Ytpogphaflhfmbaa
