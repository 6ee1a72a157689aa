/- What takeImage does. -/
import Derived.Test.YtbfafijfhaejmaaGreatDoorRTake
namespace Go.Proofs.YtbfafijfhaejmaaGreatDoor
open Go.RowKit

theorem set_seven {w : World} {b : Nat} {u0 u1 u2 u3 u4 u5 u6 : Value} (c0 : w.cell? ⟨b, 0, none⟩ = some u0) (c1 : w.cell? ⟨b, 1, none⟩ = some u1) (c2 : w.cell? ⟨b, 2, none⟩ = some u2) (c3 : w.cell? ⟨b, 3, none⟩ = some u3) (c4 : w.cell? ⟨b, 4, none⟩ = some u4) (c5 : w.cell? ⟨b, 5, none⟩ = some u5) (c6 : w.cell? ⟨b, 6, none⟩ = some u6) (v0 v1 v2 v3 v4 v5 v6 : Value) : (((((((w.setCell ⟨b, 0, none⟩ v0).setCell ⟨b, 1, none⟩ v1).setCell ⟨b, 2, none⟩ v2).setCell ⟨b, 3, none⟩ v3).setCell ⟨b, 4, none⟩ v4).setCell ⟨b, 5, none⟩ v5).setCell ⟨b, 6, none⟩ v6).cell? ⟨b, 0, none⟩ = some v0 ∧ (((((((w.setCell ⟨b, 0, none⟩ v0).setCell ⟨b, 1, none⟩ v1).setCell ⟨b, 2, none⟩ v2).setCell ⟨b, 3, none⟩ v3).setCell ⟨b, 4, none⟩ v4).setCell ⟨b, 5, none⟩ v5).setCell ⟨b, 6, none⟩ v6).cell? ⟨b, 1, none⟩ = some v1 ∧ (((((((w.setCell ⟨b, 0, none⟩ v0).setCell ⟨b, 1, none⟩ v1).setCell ⟨b, 2, none⟩ v2).setCell ⟨b, 3, none⟩ v3).setCell ⟨b, 4, none⟩ v4).setCell ⟨b, 5, none⟩ v5).setCell ⟨b, 6, none⟩ v6).cell? ⟨b, 2, none⟩ = some v2 ∧ (((((((w.setCell ⟨b, 0, none⟩ v0).setCell ⟨b, 1, none⟩ v1).setCell ⟨b, 2, none⟩ v2).setCell ⟨b, 3, none⟩ v3).setCell ⟨b, 4, none⟩ v4).setCell ⟨b, 5, none⟩ v5).setCell ⟨b, 6, none⟩ v6).cell? ⟨b, 3, none⟩ = some v3 ∧ (((((((w.setCell ⟨b, 0, none⟩ v0).setCell ⟨b, 1, none⟩ v1).setCell ⟨b, 2, none⟩ v2).setCell ⟨b, 3, none⟩ v3).setCell ⟨b, 4, none⟩ v4).setCell ⟨b, 5, none⟩ v5).setCell ⟨b, 6, none⟩ v6).cell? ⟨b, 4, none⟩ = some v4 ∧ (((((((w.setCell ⟨b, 0, none⟩ v0).setCell ⟨b, 1, none⟩ v1).setCell ⟨b, 2, none⟩ v2).setCell ⟨b, 3, none⟩ v3).setCell ⟨b, 4, none⟩ v4).setCell ⟨b, 5, none⟩ v5).setCell ⟨b, 6, none⟩ v6).cell? ⟨b, 5, none⟩ = some v5 ∧ (((((((w.setCell ⟨b, 0, none⟩ v0).setCell ⟨b, 1, none⟩ v1).setCell ⟨b, 2, none⟩ v2).setCell ⟨b, 3, none⟩ v3).setCell ⟨b, 4, none⟩ v4).setCell ⟨b, 5, none⟩ v5).setCell ⟨b, 6, none⟩ v6).cell? ⟨b, 6, none⟩ = some v6 := by
  have oth : ∀ (W : World) (i j : Nat) (v x : Value), i ≠ j → W.cell? ⟨b, j, none⟩ = some x → (W.setCell ⟨b, i, none⟩ v).cell? ⟨b, j, none⟩ = some x := fun W i j v x hij hx => (World.cell?_setCell_other _ _ _ _ (by intro e; injection e with _ e2; exact hij e2)).trans hx
  exact ⟨(oth _ 6 0 _ _ (by omega) (oth _ 5 0 _ _ (by omega) (oth _ 4 0 _ _ (by omega) (oth _ 3 0 _ _ (by omega) (oth _ 2 0 _ _ (by omega) (oth _ 1 0 _ _ (by omega) (World.cell?_setCell_same _ _ _ c0))))))),
    (oth _ 6 1 _ _ (by omega) (oth _ 5 1 _ _ (by omega) (oth _ 4 1 _ _ (by omega) (oth _ 3 1 _ _ (by omega) (oth _ 2 1 _ _ (by omega) (World.cell?_setCell_same _ _ _ (oth _ 0 1 _ _ (by omega) c1))))))),
    (oth _ 6 2 _ _ (by omega) (oth _ 5 2 _ _ (by omega) (oth _ 4 2 _ _ (by omega) (oth _ 3 2 _ _ (by omega) (World.cell?_setCell_same _ _ _ (oth _ 1 2 _ _ (by omega) (oth _ 0 2 _ _ (by omega) c2))))))),
    (oth _ 6 3 _ _ (by omega) (oth _ 5 3 _ _ (by omega) (oth _ 4 3 _ _ (by omega) (World.cell?_setCell_same _ _ _ (oth _ 2 3 _ _ (by omega) (oth _ 1 3 _ _ (by omega) (oth _ 0 3 _ _ (by omega) c3))))))),
    (oth _ 6 4 _ _ (by omega) (oth _ 5 4 _ _ (by omega) (World.cell?_setCell_same _ _ _ (oth _ 3 4 _ _ (by omega) (oth _ 2 4 _ _ (by omega) (oth _ 1 4 _ _ (by omega) (oth _ 0 4 _ _ (by omega) c4))))))),
    (oth _ 6 5 _ _ (by omega) (World.cell?_setCell_same _ _ _ (oth _ 4 5 _ _ (by omega) (oth _ 3 5 _ _ (by omega) (oth _ 2 5 _ _ (by omega) (oth _ 1 5 _ _ (by omega) (oth _ 0 5 _ _ (by omega) c5))))))),
    (World.cell?_setCell_same _ _ _ (oth _ 5 6 _ _ (by omega) (oth _ 4 6 _ _ (by omega) (oth _ 3 6 _ _ (by omega) (oth _ 2 6 _ _ (by omega) (oth _ 1 6 _ _ (by omega) (oth _ 0 6 _ _ (by omega) c6)))))))⟩
theorem only_seven (w : World) (b : Nat) (v0 v1 v2 v3 v4 v5 v6 : Value) : Only (fun k => k = b) w (((((((w.setCell ⟨b, 0, none⟩ v0).setCell ⟨b, 1, none⟩ v1).setCell ⟨b, 2, none⟩ v2).setCell ⟨b, 3, none⟩ v3).setCell ⟨b, 4, none⟩ v4).setCell ⟨b, 5, none⟩ v5).setCell ⟨b, 6, none⟩ v6) := by
  have st : ∀ (W : World) (i : Nat) (v : Value), Only (fun k => k = b) W (W.setCell ⟨b, i, none⟩ v) := fun W i v => Only.setCell W ⟨b, i, none⟩ v rfl
  exact (((((((st _ 0 _).trans (st _ 1 _) (fun _ _ h => h)).trans (st _ 2 _) (fun _ _ h => h)).trans (st _ 3 _) (fun _ _ h => h)).trans (st _ 4 _) (fun _ _ h => h)).trans (st _ 5 _) (fun _ _ h => h)).trans (st _ 6 _) (fun _ _ h => h))
theorem load_image {w : World} {b : Nat} {v0 v1 v2 v3 v4 v5 v6 : Value} (h0 : w.cell? ⟨b, 0, none⟩ = some v0) (h1 : w.cell? ⟨b, 1, none⟩ = some v1) (h2 : w.cell? ⟨b, 2, none⟩ = some v2) (h3 : w.cell? ⟨b, 3, none⟩ = some v3) (h4 : w.cell? ⟨b, 4, none⟩ = some v4) (h5 : w.cell? ⟨b, 5, none⟩ = some v5) (h6 : w.cell? ⟨b, 6, none⟩ = some v6) : (loadVar 183 ⟨b, 0, none⟩).run Tryz.prog w = .ok (.agg #[v0, v1, v2, v3, v4, v5, v6]) w := by simp [loadVar, go_sem, h0, h1, h2, h3, h4, h5, h6]
theorem rep0_any (W : World) (c : Nat) (hc : c ≤ 512) : Calls Tryz.prog 49 #[.string ⟨#[0]⟩, .int .i64 (c : Int)] W fun e w' => e = .returned (.string (str (List.replicate c 0))) ∧ Only (fun _ => False) W w' := by
  have e1 : (⟨#[0]⟩ : ByteArray).size = 1 := rfl
  have h1 := Tryz.strings_Repeat ⟨#[0]⟩ c W (by omega) (by rw [e1]; omega)
  refine Calls.mono h1 ?_
  rintro e w' ⟨rfl, hb⟩
  refine ⟨?_, only_below hb⟩
  rw [rep_zero]
  rfl
theorem dec_bounds (l : List UInt8) : (dec l).1.lsn < 9223372036854775808 ∧ (dec l).1.high.size ≤ 140737488355328 := by
  have key : (∃ q, dec l = (q, 0)) ∨ ∃ c, dec l = (.none, c) := by
    unfold dec
    split
    · exact .inr ⟨31, rfl⟩
    · split
      · exact .inr ⟨30, rfl⟩
      · split
        · rename_i p r _
          split
          · exact .inl ⟨p, rfl⟩
          · exact .inr ⟨31, rfl⟩
        · exact .inr ⟨31, rfl⟩
  rcases key with ⟨q, h⟩ | ⟨c, h⟩
  · have hv := (dec_ok h).1
    rw [h]
    exact ⟨hv.lsn, by have := hv.fit.1; simp only; omega⟩
  · rw [h]
    exact ⟨by show (0 : Int) < _; omega, by show (⟨#[]⟩ : ByteArray).size ≤ _; exact Nat.zero_le _⟩
/-- What takeImage answers. -/
structure TmQ (w w' : World) (e : Ending) (r : Nat) (i : Im) (s : St) : Prop where
  ex : ∃ D a c, e = .returned (.agg #[.int .i64 i.page, .int .i64 i.body.lsn, .int .i64 i.body.kind, .int .i64 i.body.level, .int .i64 i.body.right, .string i.body.high, .slice a i.body.items.length c]) ∧ Strs w' D a i.body.items ∧ Fit a i.body.items.length c ∧ (0 < i.body.items.length → w.heap.size ≤ D)
  rs : Rs w' r s
  only : Only (fun k => k = r) w w'
  lsn : i.body.lsn < 9223372036854775808
  high : i.body.high.size ≤ 140737488355328
end Go.Proofs.YtbfafijfhaejmaaGreatDoor
