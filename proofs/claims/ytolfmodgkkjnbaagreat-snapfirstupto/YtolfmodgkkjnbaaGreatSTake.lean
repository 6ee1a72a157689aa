/- The snapshot of one. -/
import Derived.Test.YtolfmodgkkjnbaaGreatSHor
import Derived.Test.YtolfmodgkkjnbaaGreatCRefA
import Derived.Test.YtolfmodgkkjnbaaGreatSShelf
namespace Go.Proofs.YtolfmodgkkjnbaaGreat
open Go.RowKit

set_option maxRecDepth 100000 in
set_option maxHeartbeats 800000 in
theorem clone_one (w : World) (b : Nat) (x : Int) (hx : I64 x) (h : w.cell? ⟨b, 0, none⟩ = some (.int .i64 x)) (hb : b < w.heap.size) :
    Calls Tryz.prog 60 #[.slice (some ⟨b, 0, none⟩) 1 1] w fun e w' => ∃ v, e = .returned v ∧ Lz w' w.heap.size v [x] ∧ Only (fun _ => False) w w' := by
  have hN : Ns w b (some ⟨b, 0, none⟩) [x] := ⟨fun _ => ⟨0, rfl, fun j hj => by
    match j, hj with
    | 0, _ => simpa using h⟩, fun y hy => by simp at hy; subst hy; exact hx, fun _ => hb, by simp⟩
  obtain ⟨v1, w1, hr1, hl1, ho1⟩ := append_ns (w.alloc (.cells #[] 3)) 25 w.heap.size _ [] (Lz.none w w.heap.size (Nat.le_refl _)) b 1 (some ⟨b, 0, none⟩) [x] (hN.more (onlyA _ _)) (fun h => by cases h) (by simp) (by simp)
  have HR := hide hr1
  have HL : Hid (Lz w1 w.heap.size v1 [x] ∧ Only (fun _ => False) w w1) := ⟨hl1, (onlyA w _).trans ho1 (fun i hi e => by simp [Value.ownBlock] at e; omega)⟩
  clear hN hr1 hl1 ho1 h hb hx
  have he : (binOp .eql 25 (.slice (some ⟨b, 0, none⟩) 1 1) (.slice none 0 0)).run Tryz.prog w = .ok (.bool false) w := rfl
  go_enter Tryz.func60, Tryz.ntmps60
  go_wp2_with (at_builtin; go_must (refine Lib.wpList_append_run _ rfl _ _ _ _ rfl _ _ rfl rfl _ _ HR.out ?_))
  go_ret
  exact ⟨_, rfl, HL.out.1, HL.out.2⟩
set_option maxRecDepth 100000 in
set_option maxHeartbeats 800000 in
theorem insort_one (w : World) (v : Value) : Calls Tryz.prog 99 #[v, .int .i64 0, .int .i64 1] w fun e w' => e = .returned (.tuple #[]) ∧ w' = w := by
  go_enter Tryz.func99, Tryz.ntmps99
  go_wp2_with fail
  go_loop [6] (fun y => y = .int .i64 1) (fun _ => 0)
  case atStart => rfl
  case round =>
    obtain rfl := hrel
    go_wp2_with fail
    exact bodyPost_end (results_none rfl _ _ _) rfl ⟨rfl, rfl⟩
set_option maxRecDepth 100000 in
set_option maxHeartbeats 1600000 in
theorem pdq_one (w : World) (v : Value) (k : Int) : Calls Tryz.prog 82 #[v, .int .i64 0, .int .i64 1, .int .i64 k] w fun e w' => e = .returned (.tuple #[]) ∧ w' = w := by
  have HC := hide (insort_one w v)
  go_enter Tryz.func82, Tryz.ntmps82
  go_wp2_with fail
  go_loop [1, 2, 3] (fun x y z => x = .int .i64 0 ∧ y = .int .i64 1 ∧ z = .int .i64 k) (fun _ _ _ => 0)
  case atStart => exact ⟨rfl, rfl, rfl⟩
  case round =>
    obtain ⟨rfl, rfl, rfl⟩ := hrel
    go_wp2_with fail
    refine HC.out.mono ?_
    rintro e w1 ⟨rfl, hw⟩
    obtain rfl := hw.symm
    clear hw
    go_wp2_with fail
    refine bodyPost_ret (results_none rfl _ _ _) rfl ?_
    exact ⟨rfl, rfl⟩
set_option maxRecDepth 100000 in
set_option maxHeartbeats 800000 in
theorem sort_one (w : World) (ao : Option Addr) (cp : Nat) : Calls Tryz.prog 61 #[.slice ao 1 cp] w fun e w' => e = .returned (.tuple #[]) ∧ w' = w := by
  have HB := hide (Tryz.bits_Len 1 w (by omega) (by omega))
  have HC := hide (pdq_one w (.slice ao 1 cp) (Lib.bitLen 1))
  go_enter Tryz.func61, Tryz.ntmps61
  go_wp2_with fail
  refine HB.out.mono ?_
  rintro e w1 ⟨rfl, hw⟩
  obtain rfl := hw.symm
  clear hw
  go_wp2_with fail
  refine HC.out.mono ?_
  rintro e w1 ⟨rfl, hw⟩
  obtain rfl := hw.symm
  clear hw
  go_wp2_with fail
  exact bodyPost_end (results_none rfl _ _ _) rfl ⟨rfl, rfl⟩
set_option maxRecDepth 100000 in
set_option maxHeartbeats 800000 in
theorem compact_one (w : World) (ao : Option Addr) (cp : Nat) : Calls Tryz.prog 62 #[.slice ao 1 cp] w fun e w' => e = .returned (.slice ao 1 cp) ∧ w' = w := by
  go_enter Tryz.func62, Tryz.ntmps62
  go_wp2_with fail
  go_ret
  exact ⟨rfl, rfl⟩
theorem results_snap {fn : Func} {p : Tmp} (h : fn.results = #[.cell p 27]) {tmps : Array Value} {w : World} {b : Nat} {v0 v1 : Value} (hp : tmps.getD p undef = .pointer (some ⟨b, 0, none⟩)) (h0 : w.cell? ⟨b, 0, none⟩ = some v0) (h1 : w.cell? ⟨b, 1, none⟩ = some v1) :
    (results fn tmps).run Tryz.prog w = .ok (.agg #[v0, v1]) w := by
  have e : (asAddr (.pointer (some ⟨b, 0, none⟩))).run Tryz.prog w = .ok ⟨b, 0, none⟩ w := rfl
  have hl : (loadVar 27 ⟨b, 0, none⟩).run Tryz.prog w = .ok (.agg #[v0, v1]) w := by simp [loadVar, go_sem, h0, h1]
  rw [results_cell1 h, hp, e]
  simp only [Result.andThen, hl]
theorem Tryz.cellsSnapshot : Tryz.prog.cellsOf 27 = 2 := by kernel_rfl
set_option maxRecDepth 100000 in
set_option maxHeartbeats 800000 in
theorem take_one (w : World) (b : Nat) (n x : Int) (hx : I64 x) (h : w.cell? ⟨b, 0, none⟩ = some (.int .i64 x)) (hb : b < w.heap.size) :
    Calls Tryz.prog 45 #[.int .i64 n, .slice (some ⟨b, 0, none⟩) 1 1] w fun e w' => ∃ B ao cp, e = .returned (.agg #[.int .i64 n, .slice ao 1 cp]) ∧ Ns w' B ao [x] ∧ Only (fun _ => False) w w' := by
  have hO := onlyA w (.cells #[.int .i64 0, .slice none 0 0] 27)
  have HC := hide (clone_one _ b x hx ((hO.cell (p := ⟨b, 0, none⟩) hb (fun h => h)).trans h) (Nat.lt_of_lt_of_le hb hO.size))
  have HO := hide hO
  have HX := hide hx
  clear hO hx h hb
  go_enter Tryz.func45, Tryz.ntmps45
  go_wp2_with fail
  refine HC.out.mono ?_
  rintro e w1 ⟨v, rfl, hl, ho1⟩
  obtain ⟨B, ao, cp, rfl, hn, _, hB⟩ := hl.ns (by simp) (by intro y hy; simp at hy; subst hy; exact HX.out)
  have HN := hide hn
  have HBB := hide (hB (by simp))
  have b0 : w1.cell? ⟨w.heap.size, 0, none⟩ = some (.int .i64 0) := (ho1.cell (p := ⟨w.heap.size, 0, none⟩) (by simp) (fun h => h)).trans (by simp)
  have b1 : w1.cell? ⟨w.heap.size, 1, none⟩ = some (.slice none 0 0) := (ho1.cell (p := ⟨w.heap.size, 1, none⟩) (by simp) (fun h => h)).trans (by simp)
  have b2 : w1.frozen? ⟨w.heap.size, 0, none⟩ = false := (ho1.frozen (p := ⟨w.heap.size, 0, none⟩) (by simp) (fun h => h)).trans (by simp)
  have b3 : w1.frozen? ⟨w.heap.size, 1, none⟩ = false := (ho1.frozen (p := ⟨w.heap.size, 1, none⟩) (by simp) (fun h => h)).trans (by simp)
  have HO1 := hide (o2 HO.out ho1)
  clear hl hn hB ho1 HC HO HX
  go_wp2_with fail
  refine (sort_one w1 ao cp).mono ?_
  rintro e w2 ⟨rfl, hw⟩
  obtain rfl := hw.symm
  clear hw
  go_wp2_with fail
  refine (compact_one w1 ao cp).mono ?_
  rintro e w2 ⟨rfl, hw⟩
  obtain rfl := hw.symm
  clear hw
  go_wp2_with fail
  have HA := hide ((Only.setCell (S := fun k => k = w.heap.size) w1 ⟨w.heap.size, 0, none⟩ (.int .i64 n) rfl).trans (Only.setCell (S := fun k => k = w.heap.size) (w1.setCell ⟨w.heap.size, 0, none⟩ (.int .i64 n)) ⟨w.heap.size, 1, none⟩ (.slice ao 1 cp) rfl) (fun _ _ h => h))
  have d0 : ((w1.setCell ⟨w.heap.size, 0, none⟩ (.int .i64 n)).setCell ⟨w.heap.size, 1, none⟩ (.slice ao 1 cp)).cell? ⟨w.heap.size, 0, none⟩ = some (.int .i64 n) := by
    rw [World.cell?_setCell_other _ _ _ _ (by simp)]
    exact World.cell?_setCell_same _ _ _ b0
  have d1 : ((w1.setCell ⟨w.heap.size, 0, none⟩ (.int .i64 n)).setCell ⟨w.heap.size, 1, none⟩ (.slice ao 1 cp)).cell? ⟨w.heap.size, 1, none⟩ = some (.slice ao 1 cp) := by
    refine World.cell?_setCell_same (u := .slice none 0 0) _ _ _ ?_
    rw [World.cell?_setCell_other _ _ _ _ (by simp)]
    exact b1
  refine bodyPost_ret (results_snap rfl rfl d0 d1) rfl ?_
  refine ⟨B, ao, cp, rfl, HN.out.kept HA.out (fun _ e => ?_), HO1.out.trans HA.out (fun i hi e => by omega)⟩
  have := HBB.out
  simp at this
  omega
end Go.Proofs.YtolfmodgkkjnbaaGreat
