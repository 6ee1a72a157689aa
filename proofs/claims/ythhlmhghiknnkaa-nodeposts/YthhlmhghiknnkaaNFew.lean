/- A leaf of fewer than two entries is not split: Split of package node. -/
import Derived.Test.YthhlmhghiknnkaaNSplit
namespace Go.Proofs.Ythhlmhghiknnkaa
open Go.RowKit

set_option maxRecDepth 100000 in
set_option maxHeartbeats 3200000 in
theorem split_few (w : World) (a r : Int) (h : ByteArray) (hi : En) (c : Int) (B cp : Nat) (ao : Option Addr) (l : List ByteArray) (es : List En) (hP : Lp w r h hi B ao l es) (hn : l.length < 2) :
    Calls Try.prog 25 #[.agg #[.int .i64 a, .int .i64 3, .int .i64 0, .int .i64 r, .string h, .slice ao l.length cp], .int .i64 c] w fun x w' => x = .returned (.tuple #[.agg #[.int .i64 0, .int .i64 0, .int .i64 0, .int .i64 0, .string ⟨#[]⟩, .slice none 0 0], .agg #[.int .i64 0, .int .i64 0, .int .i64 0, .int .i64 0, .string ⟨#[]⟩, .slice none 0 0], noE.agg, .int .i64 140]) ∧ Only (fun _ => False) w w' := by
  have HX := hide (Sv.new w a r h ao l.length cp)
  have HR := hide (read_leaf _ a r h hi B cp ao l es (hP.more HX.out.only))
  have hn2 : (l.length : Int) < 2 := by omega
  clear hP
  go_enter Try.func25, Try.ntmps25
  go_upto_region 1 with fail
  obtain ⟨W0, hW0⟩ : ∃ x, svW w a r h ao l.length cp = x := ⟨_, rfl⟩
  rw [hW0] at HX HR
  unfold svW at hW0
  rw [hW0]
  clear hW0
  obtain ⟨p0, p1, p2, p3, p4, p5, _⟩ := HX.out.pag
  go_wp2_with fail
  refine HR.out.mono ?_
  rintro x w1 ⟨A, C, rfl, he, ho⟩
  unfold cvv
  have HX1 := hide (HX.out.more ho)
  clear he ho p0 p1 p2 p3 p4 p5 HR HX
  go_upto_region 2 with fail
  have HA := hide (onlyA w1 (.cells #[.slice A es.length C, .slice none 0 0, .string hi.key, .int .i64 hi.page, .int .i64 hi.slot] 78))
  obtain ⟨w2, hw2⟩ : ∃ x, w1.alloc (.cells #[.slice A es.length C, .slice none 0 0, .string hi.key, .int .i64 hi.page, .int .i64 hi.slot] 78) = x := ⟨_, rfl⟩
  rw [hw2] at HA ⊢
  clear hw2
  have HX2 := hide (HX1.out.more HA.out)
  clear HA HX1
  have p5 := HX2.out.pag.c5
  go_upto_region 3 with fail
  clear p5
  obtain ⟨a0, a1, a2, a3, a4, a5, f0, f1, f2, f3, f4, f5, _⟩ := HX2.out.r1
  obtain ⟨b0, b1, b2, b3, b4, b5, g0, g1, g2, g3, g4, g5, _⟩ := HX2.out.r2
  obtain ⟨c0, c1, c2, k0, k1, k2, _⟩ := HX2.out.r3
  go_wp2_with fail
  have d1 := Only.six w2 (w.heap.size + 1) (.int .i64 0) (.int .i64 0) (.int .i64 0) (.int .i64 0) (.string ⟨#[]⟩) (.slice none 0 0)
  have r1a := HX2.out.r1.six (.int .i64 0) (.int .i64 0) (.int .i64 0) (.int .i64 0) (.string ⟨#[]⟩) (.slice none 0 0)
  have r2a := HX2.out.r2.kept d1 (by omega)
  have r3a := HX2.out.r3.kept d1 (by omega)
  have d2 := Only.six ((((((w2.setCell ⟨w.heap.size + 1, 0, none⟩ (.int .i64 0)).setCell ⟨w.heap.size + 1, 1, none⟩ (.int .i64 0)).setCell ⟨w.heap.size + 1, 2, none⟩ (.int .i64 0)).setCell ⟨w.heap.size + 1, 3, none⟩ (.int .i64 0)).setCell ⟨w.heap.size + 1, 4, none⟩ (.string ⟨#[]⟩)).setCell ⟨w.heap.size + 1, 5, none⟩ (.slice none 0 0)) (w.heap.size + 1 + 1) (.int .i64 0) (.int .i64 0) (.int .i64 0) (.int .i64 0) (.string ⟨#[]⟩) (.slice none 0 0)
  have r2b := r2a.six (.int .i64 0) (.int .i64 0) (.int .i64 0) (.int .i64 0) (.string ⟨#[]⟩) (.slice none 0 0)
  have r1b := r1a.kept d2 (by omega)
  have r3b := r3a.kept d2 (by omega)
  have d3 := fun W : World => Only.three W (w.heap.size + 1 + 1 + 1) (.string noE.key) (.int .i64 noE.page) (.int .i64 noE.slot)
  refine bodyPost_ret (results_split rfl rfl rfl rfl (r1b.kept (d3 _) (by omega)) (r2b.kept (d3 _) (by omega)) (r3b.all noE)) rfl ?_
  exact ⟨rfl, ((HX2.out.only.trans d1 (fun i hi e => by omega)).trans d2 (fun i hi e => by omega)).trans (d3 _) (fun i hi e => by omega)⟩
end Go.Proofs.Ythhlmhghiknnkaa
