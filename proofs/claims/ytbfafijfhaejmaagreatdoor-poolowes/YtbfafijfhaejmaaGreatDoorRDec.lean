/- What Decode does. -/
import Derived.Test.YtbfafijfhaejmaaGreatDoorRPt
namespace Go.Proofs.YtbfafijfhaejmaaGreatDoor
open Go.RowKit

theorem there_kept {S : Nat → Prop} {w w' : World} {b : Nat} (h : w.there b 0 16) (ho : Only S w w') (hS : ¬ S b) : w'.there b 0 16 := fun j hj => by
  obtain ⟨h1, h2⟩ := h j hj
  obtain ⟨u, hu⟩ := Option.isSome_iff_exists.1 h1
  have hb := World.block_lt_of_cell? w _ hu
  exact ⟨by rw [ho.cell (p := ⟨b, 0 + j, none⟩) hb hS]; exact h1, by rw [ho.frozen (p := ⟨b, 0 + j, none⟩) hb hS]; exact h2⟩
theorem range_set (w : World) (b : Nat) (r : Rc) (L : Loc) (ht : w.there b 0 16) : (w.setCells b 0 (r.cl L)).rangeAt b 0 (r.cl L) := World.rangeAt_setCells_same w b 0 (r.cl L) ht
/-- A record was stored into block b; its cells. -/
structure Stor2 (w W : World) (b : Nat) (r : Rc) (L : Loc) : Prop where
  only : Only (fun k => k = b) w W
  range : W.rangeAt b 0 (r.cl L)
section
variable {ops : Array Oper} {rest : List Oper} {o : Oper} {a : Act} {w : World} {Q : Exit → Act → World → Prop}
theorem wpList_lay_rec (hg : o.guard = none) (x y : Operand) (hop : o.op = .store 59 x y) (b : Nat) (hx : a.eval x = .pointer (some ⟨b, 0, none⟩)) (r : Rc) (L : Loc) (hy : a.eval y = .agg (r.cells L)) (hc : w.there b 0 16)
    (h : ∀ W, Hid (Stor2 w W b r L) → wpList Tryz.prog ops Q rest (a.put o.dst undef) W) : wpList Tryz.prog ops Q (o :: rest) a w :=
  wpList_store_rec hg x y hop b hx r L hy hc (h _ ⟨only_setCells b (r.cl L) 0 w, range_set w b r L hc⟩)
end
theorem none_at (w : World) : RcAt w Rc.none Loc.none :=
  ⟨Zs.nil _ _ _, Zs.nil _ _ _, ⟨fun _ => True, Ims.nil _ _ _ _⟩, Prs.nil _ _ _, Prs.nil _ _ _, ⟨fun _ => rfl, Nat.le_refl _, Nat.zero_le _⟩, ⟨fun _ => rfl, Nat.le_refl _, Nat.zero_le _⟩, Nat.zero_le _, ⟨by decide, by decide⟩⟩

theorem results_rec3 {fn : Func} {p u u' : Tmp} (h : fn.results = #[.cell p 59, .tmp u, .tmp u']) {tmps : Array Value} {w : World} {b : Nat} {v : Value} (hp : tmps.getD p undef = .pointer (some ⟨b, 0, none⟩)) (hP : (loadVar 59 ⟨b, 0, none⟩).run Tryz.prog w = .ok v w) :
    (results fn tmps).run Tryz.prog w = .ok (.tuple #[v, tmps.getD u undef, tmps.getD u' undef]) w := by
  have e : (asAddr (tmps.getD p undef)).run Tryz.prog w = .ok ⟨b, 0, none⟩ w := by rw [hp]; rfl
  have key : (results fn tmps).run Tryz.prog w = ((asAddr (tmps.getD p undef)).run Tryz.prog w).andThen fun a w₁ => ((loadVar 59 a).run Tryz.prog w₁).andThen fun v w₂ => .ok (.tuple #[v, tmps.getD u undef, tmps.getD u' undef]) w₂ := by
    simp only [results, h]
    simp [Sem.run_bind, Result.andThen]
  rw [key, e]
  simp only [Result.andThen, hP]
/-- What Decode answers. -/
structure DcQ (w w' : World) (e : Ending) (l : List UInt8) : Prop where
  ex : ∃ (r : Rc) (n c : Int) (L : Loc), DecIs l r n c ∧ RcAt w' r L ∧ e = .returned (.tuple #[.agg (r.cells L), .int .i64 n, .int .i64 c])
  only : Only (fun _ => False) w w'
theorem di_short {l : List UInt8} (h : l.length < 8) : DecIs l .none 0 40 := ⟨fun _ => ⟨rfl, rfl, rfl⟩, fun h' => absurd h' (by omega), fun h' => absurd h' (by omega), fun h' => absurd h' (by omega), fun h' => absurd h' (by omega)⟩
theorem di_zero {l : List UInt8} (h : 8 ≤ l.length) (hz : ofTo (l.take 4) = 0 ∨ 65535 < ofTo (l.take 4)) : DecIs l .none 0 41 := ⟨fun h' => absurd h' (by omega), fun _ _ => ⟨rfl, rfl, rfl⟩, fun _ h' => absurd hz h', fun _ h' => absurd hz h', fun _ h' => absurd hz h'⟩
theorem di_cut {l : List UInt8} (h : 8 ≤ l.length) (hz : ¬ (ofTo (l.take 4) = 0 ∨ 65535 < ofTo (l.take 4))) (hc : (l.length : Int) - 8 < ofTo (l.take 4)) : DecIs l .none 0 40 := ⟨fun h' => absurd h' (by omega), fun _ h' => absurd h' hz, fun _ _ _ => ⟨rfl, rfl, rfl⟩, fun _ _ h' => absurd hc h', fun _ _ h' => absurd hc h'⟩
theorem di_sum {l : List UInt8} (h : 8 ≤ l.length) (hz : ¬ (ofTo (l.take 4) = 0 ∨ 65535 < ofTo (l.take 4))) (hc : ¬ (l.length : Int) - 8 < ofTo (l.take 4)) (hs : sum ((l.drop 8).take (ofTo (l.take 4)).toNat) ≠ ofTo ((l.drop 4).take 4)) : DecIs l .none 0 30 := ⟨fun h' => absurd h' (by omega), fun _ h' => absurd h' hz, fun _ _ h' => absurd h' hc, fun _ _ _ _ => ⟨rfl, rfl, rfl⟩, fun _ _ _ h' => absurd h' hs⟩
theorem di_rest {l : List UInt8} {r : Rc} {n c : Int} (h : 8 ≤ l.length) (hz : ¬ (ofTo (l.take 4) = 0 ∨ 65535 < ofTo (l.take 4))) (hc : ¬ (l.length : Int) - 8 < ofTo (l.take 4)) (hs : sum ((l.drop 8).take (ofTo (l.take 4)).toNat) = ofTo ((l.drop 4).take 4))
    (hx : ∃ q e, Steps ((l.drop 8).take (ofTo (l.take 4)).toNat) q e ∧ (∀ i ∈ q.images, i.body.lsn < 9223372036854775808) ∧ ((e = ([], 0) ∧ q.valid ∧ q.lay = (l.drop 8).take (ofTo (l.take 4)).toNat ∧ r = q ∧ n = 8 + ofTo (l.take 4) ∧ c = 0) ∨ (¬ (e = ([], 0) ∧ q.valid ∧ q.lay = (l.drop 8).take (ofTo (l.take 4)).toNat) ∧ r = .none ∧ n = 0 ∧ c = 41))) : DecIs l r n c :=
  ⟨fun h' => absurd h' (by omega), fun _ h' => absurd h' hz, fun _ _ h' => absurd h' hc, fun _ _ _ h' => absurd hs h', fun _ _ _ _ => hx⟩
end Go.Proofs.YtbfafijfhaejmaaGreatDoor
