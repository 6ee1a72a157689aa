/- What New, Holder, Waits and the chain's walk do. -/
import Derived.Test.YtmmhmgndokaklaaLMap
import Derived.Carry
import Derived.Deep.DeepCutAuto
import Derived.Deep.LoopGhost
namespace Go.Proofs.Ytmmhmgndokaklaa
open Go.RowKit Go.Maps

theorem tab_new (w : World) : Tab (((w.alloc (.map #[] 0)).alloc (.map #[] 0)).alloc (.cells #[.map (some w.heap.size), .map (some (w.heap.size + 1))] 51)) (w.heap.size + 2) w.heap.size (w.heap.size + 1) 0 Tb.new
    ∧ Only (fun _ => False) w (((w.alloc (.map #[] 0)).alloc (.map #[] 0)).alloc (.cells #[.map (some w.heap.size), .map (some (w.heap.size + 1))] 51)) := by
  have s1 : (w.alloc (.map #[] 0)).heap.size = w.heap.size + 1 := by simp
  have s2 : ((w.alloc (.map #[] 0)).alloc (.map #[] 0)).heap.size = w.heap.size + 2 := by simp
  have h1 := Hds.new w
  have a1 : Only (fun _ => False) (w.alloc (.map #[] 0)) ((w.alloc (.map #[] 0)).alloc (.map #[] 0)) := Only.alloc _ _ _
  have h2 := h1.kept a1 id
  have h3 := Wts.new (w.alloc (.map #[] 0))
  rw [s1] at h3
  obtain ⟨W, hW⟩ : ∃ W, W = (w.alloc (.map #[] 0)).alloc (.map #[] 0) := ⟨_, rfl⟩
  have a0 : Only (fun _ => False) w W := by rw [hW]; exact (Only.alloc _ _ _).trans a1 (fun _ _ h => h)
  rw [← hW] at h2 h3 s2 ⊢
  have a2 : Only (fun _ => False) W (W.alloc (.cells #[.map (some w.heap.size), .map (some (w.heap.size + 1))] 51)) := Only.alloc _ _ _
  rw [← s2]
  refine ⟨⟨?_, ?_, ?_, h2.kept a2 id, h3.kept a2 id, ?_, ?_, ?_, Tb.new_ok⟩, a0.trans a2 (fun _ _ h => h)⟩
  · simp
  · simp
  · simp
  · omega
  · omega
  · omega
theorem lnew_any (w : World) : Calls Try.prog 8 #[] w fun e w' => ∃ t h m, e = .returned (.pointer (some ⟨t, 0, none⟩)) ∧ w.heap.size ≤ t ∧ w.heap.size ≤ h ∧ w.heap.size ≤ m ∧ Tab w' t h m 0 Tb.new ∧ Only (fun _ => False) w w' := by
  have hmm := @run_makeMap Try.prog
  go_enter Try.func8, Try.ntmps8
  go_wp2
  go_ret
  exact ⟨_, _, _, rfl, by omega, by omega, by omega, tab_new w⟩
set_option maxRecDepth 100000 in
theorem llay_any (w : World) (t h m n : Nat) (T : Tb) (H : Tab w t h m n T) : Calls Try.prog 26 #[.pointer (some ⟨t, 0, none⟩)] w fun e w' => e = .returned (.tuple #[]) ∧ w' = w := by
  have c0 := H.c0
  have he : ∀ w', (binOp .eql 48 (.map (some h)) (.map none)).run Try.prog w' = .ok (.bool false) w' := fun _ => rfl
  clear H
  go_enter Try.func26, Try.ntmps26
  go_wp2
  refine bodyPost_end (results_none rfl _ _ _) rfl ?_
  exact ⟨rfl, rfl⟩
theorem lholder_nil (w : World) (k : ByteArray) : Calls Try.prog 14 #[.pointer none, .string k] w fun e w' => e = .returned (.tuple #[.int .i64 0, .bool false]) ∧ w' = w := by
  go_enter Try.func14, Try.ntmps14
  go_wp2
  go_ret2
  exact ⟨rfl, rfl⟩
theorem lholder_any (w : World) (t h m n : Nat) (T : Tb) (H : Tab w t h m n T) (k : ByteArray) (hk : k.size ≤ maxLen) : Calls Try.prog 14 #[.pointer (some ⟨t, 0, none⟩), .string k] w fun e w' =>
    e = .returned (.tuple #[.int .i64 ((T.hold k).getD 0), .bool (T.hold k).isSome]) ∧ w' = w := by
  have c0 := H.c0
  have hl := (H.hold.look hk).1
  clear H hk
  go_enter Try.func14, Try.ntmps14
  go_wp2
  go_ret2
  exact ⟨rfl, rfl⟩
theorem lwaits_nil (w : World) (x : Int) : Calls Try.prog 16 #[.pointer none, .int .i64 x] w fun e w' => e = .returned (.tuple #[.string ⟨#[]⟩, .bool false]) ∧ w' = w := by
  go_enter Try.func16, Try.ntmps16
  go_wp2
  go_ret2
  exact ⟨rfl, rfl⟩
theorem lwaits_any (w : World) (t h m n : Nat) (T : Tb) (H : Tab w t h m n T) (x : Int) (hx : N64 x) : Calls Try.prog 16 #[.pointer (some ⟨t, 0, none⟩), .int .i64 x] w fun e w' =>
    e = .returned (.tuple #[.string ((T.wait x).getD ⟨#[]⟩), .bool (T.wait x).isSome]) ∧ Only (fun _ => False) w w' := by
  have c1 := H.c1
  have hl := H.wait.look hx
  unfold wv at hl
  clear H hx
  go_enter Try.func16, Try.ntmps16
  go_wp2
  go_ret2
  exact ⟨rfl, Only.alloc _ _ _⟩
/-- A bool was returned: whether P. -/
structure RB (e : Ending) (P : Prop) : Prop where
  ex : ∃ b : Bool, e = .returned (.bool b) ∧ (b = true ↔ P)
theorem some_or (o : Option ByteArray) : o = none ∨ ∃ k, o = some k := by cases o <;> simp
set_option maxRecDepth 100000 in
set_option maxHeartbeats 800000 in
theorem linchain_any (w : World) (t h m n : Nat) (T : Tb) (H : Tab w t h m n T) (who of0 : Int) (ho : N64 of0) : Calls Try.prog 27 #[.pointer (some ⟨t, 0, none⟩), .int .i64 who, .int .i64 of0] w fun e w' =>
    RB e (T.Rch of0 who) ∧ Only (fun _ => False) w w' := by
  obtain ⟨r, hr⟩ := H.ok.rank
  have HR : Hid (∀ a b, T.Next a b → r b < r a) := hr
  have c0 := H.c0
  have c1 := H.c1
  have hl := H.wait.look ho
  unfold wv at hl
  have HT := hide H
  have HO := hide ho
  have hlt := H.lt
  clear H hr ho
  go_enter Try.func27, Try.ntmps27
  go_wp2_with fail
  have HW : Hid (Only (fun _ => False) w (w.alloc (.cells #[.string ((T.wait of0).getD ⟨#[]⟩)] 58))) := Only.alloc _ _ _
  have hc : (w.alloc (.cells #[.string ((T.wait of0).getD ⟨#[]⟩)] 58)).cell? ⟨w.heap.size, 0, none⟩ = some (.string ((T.wait of0).getD ⟨#[]⟩)) := by simp
  clear hl
  go_loopw [2, 7, 8] (fun v2 v7 v8 wr => ∃ (x : Int) (b : Nat), v2 = .int .i64 x ∧ v7 = .pointer (some ⟨b, 0, none⟩) ∧ v8 = .bool (T.wait x).isSome ∧ wr.cell? ⟨b, 0, none⟩ = some (.string ((T.wait x).getD ⟨#[]⟩)) ∧ Hid (Only (fun _ => False) w wr) ∧ Hid (N64 x) ∧ Hid (T.Rch of0 who ↔ T.Rch x who))
    (fun v2 _ _ _ => r (intOf v2))
  case atStart => exact ⟨of0, _, rfl, rfl, rfl, hc, HW, HO, Iff.rfl⟩
  case round =>
    clear HW hc
    obtain ⟨x, b, rfl, rfl, rfl, hc, HW, HX, HQ⟩ := hrel
    have HTr := hide (HT.out.more HW.out)
    have c0r := HTr.out.c0
    have c1r := HTr.out.c1
    rcases some_or (T.wait x) with hw | ⟨k, hw⟩
    · rw [hw] at hc ⊢
      have HN : Hid (¬ T.Rch of0 who) := fun e => (HQ.out.1 e).none hw
      clear hw
      go_wp2_with fail
      go_ret
      exact ⟨⟨_, rfl, by simp, fun e => absurd e HN.out⟩, HW.out⟩
    · obtain ⟨y, hy⟩ := HT.out.ok.held x k hw
      have hk := (HT.out.ok.w64 x k hw).2
      have HN : Hid (T.Next x y) := ⟨k, hw, hy⟩
      have HY : Hid (N64 y) := HT.out.ok.i64 k y hy
      have hl := ((HTr.out.more (Only.drew _ _)).hold.look hk).2
      rw [hy] at hl
      simp only [Option.getD_some] at hl
      have O2 : Only (fun _ => False) wr (wr.alloc (.cells #[.string k] 58)) := Only.alloc _ _ _
      have hl2 := ((HTr.out.more O2).more (Only.drew _ _)).wait.look HY.out
      have c1a := (HTr.out.more O2).c1
      unfold wv at hl2
      rw [hw] at hc ⊢
      simp only [Option.getD_some, Option.isSome_some] at hc ⊢
      have hcd : wr.drew.cell? ⟨b, 0, none⟩ = some (.string k) := hc
      have c0d : wr.drew.cell? ⟨t, 0, none⟩ = some (.map (some h)) := c0r
      clear hw hy hk O2
      by_cases he : y = who
      · have HE := hide he
        have hb : (y == who) = true := by simp [he]
        clear he
        go_upto_region 4 with fail
        go_region
        go_wp2_with fail
        go_ret
        exact ⟨⟨_, rfl, fun _ => HQ.out.2 (.one (HE.out ▸ HN.out)), by simp⟩, HW.out.trans (Only.drew _ _) (fun _ _ h => h)⟩
      · have HE := hide he
        have hb : (y == who) = false := by simp [he]
        clear he
        go_upto_region 4 with fail
        go_region
        go_wp2_with fail
        refine ⟨⟨y, _, rfl, rfl, rfl, by simp, (HW.out.trans (Only.alloc (fun _ => False) _ _) (fun _ _ h => h)).trans (Only.drew _ _) (fun _ _ h => h), HY, ?_⟩, HR.out _ _ HN.out⟩
        exact HQ.out.trans ⟨fun e => (e.on HN.out).resolve_left HE.out, fun e => .step HN.out e⟩
end Go.Proofs.Ytmmhmgndokaklaa
