/- What New, find, hasXid, apart and out do. -/
import Derived.Test.YtmcghpeamnmbpaaOTab
import Derived.Deep.RegionWith
namespace Go.Proofs.Ytmcghpeamnmbpaa
open Go.RowKit Go.Maps

theorem onlyA (w : World) (cs : Array Value) (ty : TypeId) : Only (fun _ => False) w (w.alloc (.cells cs ty)) := Only.alloc _ _ _
theorem o2 {w w1 w2 : World} (h1 : Only (fun _ => False) w w1) (h2 : Only (fun _ => False) w1 w2) : Only (fun _ => False) w w2 := h1.trans h2 (fun _ _ h => h)
theorem tab_new (w : World) : Tab ((w.alloc (.map #[] 0)).alloc (.cells #[.map (some w.heap.size)] 63)) (fun k => w.heap.size ≤ k) (w.heap.size + 1) w.heap.size 0 Tt.none
    ∧ Only (fun _ => False) w ((w.alloc (.map #[] 0)).alloc (.cells #[.map (some w.heap.size)] 63)) := by
  have s1 : (w.alloc (.map #[] 0)).heap.size = w.heap.size + 1 := by simp
  have h1 := Opm.new w
  obtain ⟨W, hW⟩ : ∃ W, W = w.alloc (.map #[] 0) := ⟨_, rfl⟩
  have a0 : Only (fun _ => False) w W := by rw [hW]; exact Only.alloc _ _ _
  rw [← hW] at h1 s1 ⊢
  have a2 : Only (fun _ => False) W (W.alloc (.cells #[.map (some w.heap.size)] 63)) := Only.alloc _ _ _
  rw [← s1]
  refine ⟨⟨Gm.none, ⟨?_, ?_, h1.kept a2 id, ?_, ?_, ?_, fun _ => rfl, (fun a b e => by cases e), (fun a c b e => by cases e), Tt.Ok.none⟩⟩, a0.trans a2 (fun _ _ h => h)⟩
  · simp
  · simp
  · omega
  · show w.heap.size ≤ W.heap.size
    omega
  · show w.heap.size ≤ w.heap.size
    omega
theorem new_any (w : World) : Calls Try.prog 8 #[] w fun e w' => ∃ t m, e = .returned (.pointer (some ⟨t, 0, none⟩)) ∧ Tab w' (fun k => w.heap.size ≤ k) t m 0 Tt.none ∧ Only (fun _ => False) w w' := by
  have hmm := @run_makeMap Try.prog
  go_enter Try.func8, Try.ntmps8
  go_wp2
  go_ret
  exact ⟨_, _, rfl, tab_new w⟩
theorem find_nil (w : World) (a : Int) : Calls Try.prog 33 #[.pointer none, .int .i64 a] w fun e w' => e = .returned (.tuple #[.pointer none, .int .i64 2]) ∧ w' = w := by
  go_enter Try.func33, Try.ntmps33
  go_wp2
  go_ret2
  exact ⟨rfl, rfl⟩
theorem find_no (w : World) (Z : Nat → Prop) (t m n : Nat) (g : Gm) (f : Tt) (H : Tabg w Z t m n g f) (a : Int) (ha : N64 a) (hf : f a = none) : Calls Try.prog 33 #[.pointer (some ⟨t, 0, none⟩), .int .i64 a] w fun e w' => e = .returned (.tuple #[.pointer none, .int .i64 182]) ∧ w' = w := by
  have c0 := H.c0
  have hl := (H.own.look ha).1
  unfold Gm.v at hl
  rw [H.no hf] at hl
  simp only [Option.isSome_none] at hl
  clear H ha hf
  go_enter Try.func33, Try.ntmps33
  go_wp2
  go_ret2
  exact ⟨rfl, rfl⟩
theorem find_yes (w : World) (Z : Nat → Prop) (t m n : Nat) (g : Gm) (f : Tt) (H : Tabg w Z t m n g f) (a : Int) (ha : N64 a) (b : Nat) (hg : g a = some b) : Calls Try.prog 33 #[.pointer (some ⟨t, 0, none⟩), .int .i64 a] w fun e w' => e = .returned (.tuple #[.pointer (some ⟨b, 0, none⟩), .int .i64 0]) ∧ w' = w := by
  have c0 := H.c0
  have hl := (H.own.look ha).1
  unfold Gm.v pv at hl
  rw [hg] at hl
  simp only [Option.isSome_some] at hl
  clear H ha hg
  go_enter Try.func33, Try.ntmps33
  go_wp2
  go_ret2
  exact ⟨rfl, rfl⟩
theorem hasXid_any (w : World) (b : Nat) (s : Sp) (x : Tx) (H : Txm w b s x) : Calls Try.prog 34 #[.pointer (some ⟨b, 0, none⟩)] w fun e w' => e = .returned (.bool (x.xid != 0)) ∧ w' = w := by
  have c2 := H.c2
  clear H
  obtain ⟨i, hi⟩ : ∃ i, x.xid = i := ⟨_, rfl⟩
  rw [hi] at c2 ⊢
  go_enter Try.func34, Try.ntmps34
  go_wp2
  go_ret
  exact ⟨rfl, rfl⟩
theorem results_cell1 {fn : Func} {p : Tmp} {ty : TypeId} (h : fn.results = #[.cell p ty]) {tmps : Array Value} {w : World} {b : Nat} {v : Value} (hp : tmps.getD p undef = .pointer (some ⟨b, 0, none⟩)) (hP : (loadVar ty ⟨b, 0, none⟩).run Try.prog w = .ok v w) :
    (results fn tmps).run Try.prog w = .ok v w := by
  have e : (asAddr (tmps.getD p undef)).run Try.prog w = .ok ⟨b, 0, none⟩ w := by rw [hp]; rfl
  have key : (results fn tmps).run Try.prog w = ((asAddr (tmps.getD p undef)).run Try.prog w).andThen fun a w₁ => (loadVar ty a).run Try.prog w₁ := by
    simp only [results, h]
    simp [Sem.run_bind, Result.andThen]
  rw [key, e]
  simp only [Result.andThen, hP]
set_option maxRecDepth 100000 in
theorem apart_any (w : World) (Q : Nat → Prop) (nx : Int) (ao : Option Addr) (cp : Nat) (L : List Int) (h : Nm w Q ao L) :
    Calls Try.prog 31 #[.agg #[.int .i64 nx, .slice ao L.length cp]] w fun e w' => ∃ a2 c2, e = .returned (.agg #[.int .i64 nx, .slice a2 L.length c2]) ∧ Nm w' (fun k => w.heap.size ≤ k) a2 L ∧ Fr w' w.heap.size a2 L ∧ Only (fun _ => False) w w' := by
  have HC : Hid (∀ W, Only (fun _ => False) w W → Calls Try.prog 46 #[.slice ao L.length cp] W fun e w' => ∃ a2 c2, e = .returned (.slice a2 L.length c2) ∧ Nm w' (fun k => W.heap.size ≤ k) a2 L ∧ Fr w' W.heap.size a2 L ∧ Only (fun _ => False) W w') := fun W hW => clone_any W Q ao cp L (h.more hW)
  obtain ⟨k, hk⟩ : ∃ k, L.length = k := ⟨_, rfl⟩
  have HK := hide hk
  rw [hk] at HC ⊢
  clear h hk
  go_enter Try.func31, Try.ntmps31
  go_wp2_with fail
  refine (HC.out _ (o2 (onlyA _ _ _) (onlyA _ _ _))).mono ?_
  rintro e w3 ⟨a2, c2, rfl, hN, hn, hO⟩
  obtain ⟨W2, hW2⟩ : ∃ x, (w.alloc (.cells #[.int .i64 nx, .slice ao k cp] 29)).alloc (.cells #[.int .i64 0, .slice none 0 0] 29) = x := ⟨_, rfl⟩
  have hw2 : Only (fun _ => False) w W2 := by rw [← hW2]; exact o2 (onlyA _ _ _) (onlyA _ _ _)
  have sz : W2.heap.size = w.heap.size + 2 := by rw [← hW2]; simp
  have t0 : W2.cell? ⟨w.heap.size, 0, none⟩ = some (.int .i64 nx) := by rw [← hW2]; simp
  have t1 : W2.cell? ⟨w.heap.size, 1, none⟩ = some (.slice ao k cp) := by rw [← hW2]; simp
  have t2 : W2.cell? ⟨w.heap.size + 1, 0, none⟩ = some (.int .i64 0) := by rw [← hW2]; simp
  have t3 : W2.cell? ⟨w.heap.size + 1, 1, none⟩ = some (.slice none 0 0) := by rw [← hW2]; simp
  have g1 : W2.frozen? ⟨w.heap.size, 1, none⟩ = false := by rw [← hW2]; simp
  have g2 : W2.frozen? ⟨w.heap.size + 1, 0, none⟩ = false := by rw [← hW2]; simp
  have g3 : W2.frozen? ⟨w.heap.size + 1, 1, none⟩ = false := by rw [← hW2]; simp
  rw [hW2] at hN hO hn
  clear hW2
  replace t0 := (hO.cell (p := ⟨w.heap.size, 0, none⟩) (by show w.heap.size < _; omega) id).trans t0
  replace t1 := (hO.cell (p := ⟨w.heap.size, 1, none⟩) (by show w.heap.size < _; omega) id).trans t1
  replace t2 := (hO.cell (p := ⟨w.heap.size + 1, 0, none⟩) (by show w.heap.size + 1 < _; omega) id).trans t2
  replace t3 := (hO.cell (p := ⟨w.heap.size + 1, 1, none⟩) (by show w.heap.size + 1 < _; omega) id).trans t3
  replace g1 := (hO.frozen (p := ⟨w.heap.size, 1, none⟩) (by show w.heap.size < _; omega) id).trans g1
  replace g2 := (hO.frozen (p := ⟨w.heap.size + 1, 0, none⟩) (by show w.heap.size + 1 < _; omega) id).trans g2
  replace g3 := (hO.frozen (p := ⟨w.heap.size + 1, 1, none⟩) (by show w.heap.size + 1 < _; omega) id).trans g3
  have HN := hide hN
  have Hn := hide hn
  have HOW := hide (o2 hw2 hO)
  have HSZ := hide sz
  have HCH : Hid (∀ u1 u2 u3 p1 p2 p3, w.heap.size ≤ p1.block → w.heap.size ≤ p2.block → w.heap.size ≤ p3.block → Only (fun _ => False) w (((w3.setCell p1 u1).setCell p2 u2).setCell p3 u3)) := fun u1 u2 u3 p1 p2 p3 h1 h2 h3 =>
    (((o2 hw2 hO).mono (T := fun k => w.heap.size ≤ k) (fun _ _ h => h.elim)).trans (((Only.setCell (S := fun k => w.heap.size ≤ k) w3 p1 u1 h1).trans (Only.setCell (S := fun k => w.heap.size ≤ k) _ p2 u2 h2) (fun _ _ h => h)).trans (Only.setCell (S := fun k => w.heap.size ≤ k) _ p3 u3 h3) (fun _ _ h => h)) (fun _ _ h => h)).mono (fun i hi h => by omega)
  clear hN hn hO hw2 sz HC
  go_wp2_with fail
  refine bodyPost_ret (results_cell1 (v := .agg #[.int .i64 nx, .slice a2 k c2]) rfl rfl (by simp [loadVar, go_sem, t2, t3])) rfl ?_
  have hs := HSZ.out
  have st : ∀ (W : World) (p : Addr) (u : Value), p.block < w.heap.size + 2 → Only (fun i => i < w.heap.size + 2) W (W.setCell p u) := fun W p u h => Only.setCell W p u h
  have sts := ((st w3 ⟨w.heap.size, 1, none⟩ (.slice a2 k c2) (show w.heap.size < _ by omega)).trans (st _ ⟨w.heap.size + 1, 0, none⟩ (.int .i64 nx) (show w.heap.size + 1 < _ by omega)) (fun _ _ h => h)).trans (st _ ⟨w.heap.size + 1, 1, none⟩ (.slice a2 k c2) (show w.heap.size + 1 < _ by omega)) (fun _ _ h => h)
  refine ⟨a2, c2, rfl, (HN.out.kept sts (fun i _ hi h => by omega)).mono (fun i _ hi => by omega), ((Hn.out).kept sts (fun i hi h => by omega)).mono (by omega), HCH.out _ _ _ _ _ _ (Nat.le_refl _) (Nat.le_succ _) (Nat.le_succ _)⟩
end Go.Proofs.Ytmcghpeamnmbpaa
