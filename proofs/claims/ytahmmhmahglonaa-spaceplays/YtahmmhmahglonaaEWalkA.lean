/- What New, Set, Drop and Room do. -/
import Derived.Test.YtahmmhmahglonaaEMap
import Derived.Carry
import Derived.Deep.DeepCutAuto
import Derived.Deep.LoopGhost
namespace Go.Proofs.Ytahmmhmahglonaa
open Go.RowKit Go.Maps

theorem spm_new (w : World) : Spm ((w.alloc (.map #[] 0)).alloc (.cells #[.map (some w.heap.size)] 43)) (w.heap.size + 1) w.heap.size 0 Kn.none
    ∧ Only (fun _ => False) w ((w.alloc (.map #[] 0)).alloc (.cells #[.map (some w.heap.size)] 43)) := by
  have s1 : (w.alloc (.map #[] 0)).heap.size = w.heap.size + 1 := by simp
  have h1 := Sps.new w
  obtain ⟨W, hW⟩ : ∃ W, W = w.alloc (.map #[] 0) := ⟨_, rfl⟩
  have a0 : Only (fun _ => False) w W := by rw [hW]; exact Only.alloc _ _ _
  rw [← hW] at h1 s1 ⊢
  have a2 : Only (fun _ => False) W (W.alloc (.cells #[.map (some w.heap.size)] 43)) := Only.alloc _ _ _
  rw [← s1]
  refine ⟨⟨?_, ?_, h1.kept a2 id, ?_, Kn.Ok.none⟩, a0.trans a2 (fun _ _ h => h)⟩
  · simp
  · simp
  · omega
theorem enew_any (w : World) : Calls Try.prog 7 #[] w fun e w' => ∃ t m, e = .returned (.pointer (some ⟨t, 0, none⟩)) ∧ w.heap.size ≤ t ∧ w.heap.size ≤ m ∧ Spm w' t m 0 Kn.none ∧ Only (fun _ => False) w w' := by
  have hmm := @run_makeMap Try.prog
  go_enter Try.func7, Try.ntmps7
  go_wp2
  go_ret
  exact ⟨_, _, rfl, by omega, by omega, spm_new w⟩
theorem eset_nil (w : World) (p r : Int) : Calls Try.prog 11 #[.pointer none, .int .i64 p, .int .i64 r] w fun e w' => e = .returned (.tuple #[]) ∧ w' = w := by
  go_enter Try.func11, Try.ntmps11
  go_wp2
  refine bodyPost_ret (results_none rfl _ _ _) rfl ?_
  exact ⟨rfl, rfl⟩
theorem edrop_nil (w : World) (p : Int) : Calls Try.prog 9 #[.pointer none, .int .i64 p] w fun e w' => e = .returned (.tuple #[]) ∧ w' = w := by
  go_enter Try.func9, Try.ntmps9
  go_wp2
  refine bodyPost_ret (results_none rfl _ _ _) rfl ?_
  exact ⟨rfl, rfl⟩
theorem eroom_nil (w : World) (p : Int) : Calls Try.prog 15 #[.pointer none, .int .i64 p] w fun e w' => e = .returned (.tuple #[.int .i64 0, .bool false]) ∧ w' = w := by
  go_enter Try.func15, Try.ntmps15
  go_wp2
  go_ret2
  exact ⟨rfl, rfl⟩
theorem efind_nil (w : World) (p : Int) : Calls Try.prog 13 #[.pointer none, .int .i64 p] w fun e w' => e = .returned (.tuple #[.int .i64 0, .bool false]) ∧ w' = w := by
  go_enter Try.func13, Try.ntmps13
  go_wp2
  go_ret2
  exact ⟨rfl, rfl⟩
theorem epages_nil (w : World) : Calls Try.prog 17 #[.pointer none] w fun e w' => e = .returned (.slice none 0 0) ∧ w' = w := by
  go_enter Try.func17, Try.ntmps17
  go_wp2
  go_ret
  exact ⟨rfl, rfl⟩
set_option maxRecDepth 100000 in
theorem eset_any (w : World) (t m n : Nat) (f : Kn) (H : Spm w t m n f) (p r : Int) (hp : N64 p) (hn : n < maxLen) : Calls Try.prog 11 #[.pointer (some ⟨t, 0, none⟩), .int .i64 p, .int .i64 r] w fun e w' =>
    e = .returned (.tuple #[]) ∧ Spm w' t m (n + 1) (f.set p r) ∧ Only (fun i => i = m) w w' := by
  obtain ⟨w1, hr, hS, hO⟩ := H.own.put hn hp r
  have HS := hide (H.put hO hS (H.ok.set hp r))
  have HO := hide hO
  have c0 := H.c0
  have he : ∀ w', (binOp .eql 41 (.map (some m)) (.map none)).run Try.prog w' = .ok (.bool false) w' := fun _ => rfl
  clear H hS hO hp hn
  go_enter Try.func11, Try.ntmps11
  go_wp2
  refine bodyPost_end (results_none rfl _ _ _) rfl ?_
  exact ⟨rfl, HS.out, HO.out⟩
set_option maxRecDepth 100000 in
theorem edrop_any (w : World) (t m n : Nat) (f : Kn) (H : Spm w t m n f) (p : Int) (hp : N64 p) : Calls Try.prog 9 #[.pointer (some ⟨t, 0, none⟩), .int .i64 p] w fun e w' =>
    e = .returned (.tuple #[]) ∧ Spm w' t m n (f.drop p) ∧ Only (fun i => i = m) w w' := by
  obtain ⟨w1, hr, hS, hO⟩ := H.own.cut hp
  have HS := hide (H.put hO hS (H.ok.drop p))
  have HO := hide hO
  have c0 := H.c0
  clear H hS hO hp
  go_enter Try.func9, Try.ntmps9
  go_wp2
  refine bodyPost_end (results_none rfl _ _ _) rfl ?_
  exact ⟨rfl, HS.out, HO.out⟩
theorem eroom_any (w : World) (t m n : Nat) (f : Kn) (H : Spm w t m n f) (p : Int) (hp : N64 p) : Calls Try.prog 15 #[.pointer (some ⟨t, 0, none⟩), .int .i64 p] w fun e w' =>
    e = .returned (.tuple #[.int .i64 ((f p).getD 0), .bool (f p).isSome]) ∧ w' = w := by
  have c0 := H.c0
  have hl := H.own.look hp
  clear H hp
  go_enter Try.func15, Try.ntmps15
  go_wp2
  go_ret2
  exact ⟨rfl, rfl⟩
end Go.Proofs.Ytahmmhmahglonaa
