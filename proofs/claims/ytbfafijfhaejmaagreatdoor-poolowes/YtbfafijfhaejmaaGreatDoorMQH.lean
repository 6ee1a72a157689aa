/- The law's variables beside its two pools. -/
import Derived.Test.YtbfafijfhaejmaaGreatDoorMQG
import Derived.Test.YtbfafijfhaejmaaGreatDoorPCat
import Derived.ProofKit
import Derived.OpenShut
import Derived.ShutString
import Derived.SizedLaws
import Derived.Deep.Strs
import Derived.Test.YtbfafijfhaejmaaGreatDoorRRec
import Derived.Deep.Draws
import Derived.Deep.Grids
import Derived.Test.YtbfafijfhaejmaaGreatDoorMCT
namespace Go.Proofs.YtbfafijfhaejmaaGreatDoor
open Go.RowKit

/-- Two pools apart from one another, and from the blocks X. -/
structure Tw (w W : World) (pa da la pb db lb : Nat) (X : Nat → Prop) (ta tb : Nat) (Ca Cb : Nat → Option Pg) (H : Nat) : Prop where
  ex : ∃ Fa Fb fa Ka fb Kb, Pw w W pa da la Fa ta fa Ca Ka ∧ Pw w W pb db lb Fb tb fb Cb Kb ∧ (∀ k, Fa k → ¬ Fb k) ∧ (∀ k, X k → ¬ Fa k ∧ ¬ Fb k) ∧ ∀ k, Fb k → k < H
  x : ∀ k, X k → w.heap.size ≤ k ∧ k < W.heap.size
  only : Only (fun _ => False) w W
theorem Tw.up {w W : World} {pa da la pb db lb : Nat} {X : Nat → Prop} {ta tb H : Nat} {Ca Cb : Nat → Option Pg} (h : Tw w W pa da la pb db lb X ta tb Ca Cb H) : Tw w W pa da la pb db lb X ta tb Ca Cb W.heap.size := by
  obtain ⟨Fa, Fb, fa, Ka, fb, Kb, h1, h2, h3, h4, h5⟩ := h.ex
  exact ⟨⟨Fa, Fb, fa, Ka, fb, Kb, h1, h2, h3, h4, fun k hk => (h2.lt k hk).2⟩, h.x, h.only⟩
/-- What a call of either leaves of the law's own. -/
def Kx (w : World) (X : Nat → Prop) (k : Nat) : Prop := ¬ X k ∧ w.heap.size ≤ k
theorem tw_left {w W w' : World} {pa da la pb db lb : Nat} {X : Nat → Prop} {ta tb ta' H : Nat} {Ca Cb Ca' : Nat → Option Pg} {Fa Fb : Nat → Prop} {fa fb : Nat} {Ka Kb : Nat → Option Pg} (h : Tw w W pa da la pb db lb X ta tb Ca Cb H) (h1 : Pw w W pa da la Fa ta fa Ca Ka) (h2 : Pw w W pb db lb Fb tb fb Cb Kb) (h3 : ∀ k, Fa k → ¬ Fb k) (h4 : ∀ k, X k → ¬ Fa k ∧ ¬ Fb k) (h5 : ∀ k, Fb k → k < H) (hn : Pn w W w' pa da la Fa ta' Ca') :
    Tw w w' pa da la pb db lb X ta' tb Ca' Cb H ∧ Only (Kx w X) W w' := by
  obtain ⟨Fa', fl, K', n1, n2, n3⟩ := hn
  refine ⟨⟨⟨Fa', Fb, fl, K', fb, Kb, n1, h2.kept n3 (fun k hk e => h3 k e hk) n1.only, fun k hk e => ?_, fun k hk => ⟨fun e => ?_, (h4 k hk).2⟩, h5⟩, fun k hk => ⟨(h.x k hk).1, Nat.lt_of_lt_of_le (h.x k hk).2 n3.size⟩, n1.only⟩, n3.mono (fun k _ hk => ⟨fun e => (h4 k e).1 hk, (h1.lt k hk).1⟩)⟩
  · rcases n2 k hk with e1 | e1
    · exact h3 k e1 e
    · have := (h2.lt k e).2; omega
  · rcases n2 k e with e1 | e1
    · exact (h4 k hk).1 e1
    · have := (h.x k hk).2; omega
theorem tw_right {w W w' : World} {pa da la pb db lb : Nat} {X : Nat → Prop} {ta tb tb' H : Nat} {Ca Cb Cb' : Nat → Option Pg} {Fa Fb : Nat → Prop} {fa fb : Nat} {Ka Kb : Nat → Option Pg} (h : Tw w W pa da la pb db lb X ta tb Ca Cb H) (h1 : Pw w W pa da la Fa ta fa Ca Ka) (h2 : Pw w W pb db lb Fb tb fb Cb Kb) (h3 : ∀ k, Fa k → ¬ Fb k) (h4 : ∀ k, X k → ¬ Fa k ∧ ¬ Fb k) (h5 : ∀ k, Fb k → k < H) (hn : Pn w W w' pb db lb Fb tb' Cb') :
    Tw w w' pa da la pb db lb X ta tb' Ca Cb' w'.heap.size ∧ Only (fun k => Kx w X k ∧ k < H) W w' := by
  obtain ⟨Fb', fl, K', n1, n2, n3⟩ := hn
  refine ⟨⟨⟨Fa, Fb', fa, Ka, fl, K', h1.kept n3 (fun k hk e => h3 k hk e) n1.only, n1, fun k hk e => ?_, fun k hk => ⟨(h4 k hk).1, fun e => ?_⟩, fun k hk => (n1.lt k hk).2⟩, fun k hk => ⟨(h.x k hk).1, Nat.lt_of_lt_of_le (h.x k hk).2 n3.size⟩, n1.only⟩, n3.mono (fun k _ hk => ⟨⟨fun e => (h4 k e).2 hk, (h2.lt k hk).1⟩, h5 k hk⟩)⟩
  · rcases n2 k e with e1 | e1
    · exact h3 k hk e1
    · have := (h1.lt k hk).2; omega
  · rcases n2 k e with e1 | e1
    · exact (h4 k hk).2 e1
    · have := (h.x k hk).2; omega
theorem Tw.kept {w W W' : World} {pa da la pb db lb : Nat} {X X' : Nat → Prop} {ta tb H : Nat} {Ca Cb : Nat → Option Pg} (h : Tw w W pa da la pb db lb X ta tb Ca Cb H) (ho : Only X W W') (hX : ∀ k, X' k → X k ∨ W.heap.size ≤ k ∧ k < W'.heap.size) : Tw w W' pa da la pb db lb X' ta tb Ca Cb H := by
  obtain ⟨Fa, Fb, fa, Ka, fb, Kb, h1, h2, h3, h4, h5⟩ := h.ex
  have hw : Only (fun _ => False) w W' := h.only.trans ho (fun k hk e => by have := (h.x k e).1; omega)
  have hsz := ho.size
  have hz := h.only.size
  refine ⟨⟨Fa, Fb, fa, Ka, fb, Kb, h1.kept ho (fun k hk e => (h4 k e).1 hk) hw, h2.kept ho (fun k hk e => (h4 k e).2 hk) hw, h3, fun k hk => ?_, h5⟩, fun k hk => ?_, hw⟩
  · rcases hX k hk with e | e
    · exact h4 k e
    · exact ⟨fun e2 => by have := (h1.lt k e2).2; omega, fun e2 => by have := (h2.lt k e2).2; omega⟩
  · rcases hX k hk with e | e
    · have := h.x k e; omega
    · omega
theorem Tw.more {w W W' : World} {pa da la pb db lb : Nat} {X : Nat → Prop} {ta tb H : Nat} {Ca Cb : Nat → Option Pg} (h : Tw w W pa da la pb db lb X ta tb Ca Cb H) (ho : Only (fun _ => False) W W') : Tw w W' pa da la pb db lb X ta tb Ca Cb H := h.kept (ho.mono (fun _ _ e => e.elim)) (fun _ e => .inl e)
/-- What the log is long by one more. -/
def ntl (t : Nat) : Nat := t + (nt.at_ (t : Int)).enc.length
theorem ntl_le (t : Nat) : t < ntl t ∧ ntl t ≤ t + 33 := by have := nt_len t; unfold ntl; omega
theorem tw_appendA {w W : World} {pa da la pb db lb : Nat} {X : Nat → Prop} {ta tb H : Nat} {Ca Cb : Nat → Option Pg} (h : Tw w W pa da la pb db lb X ta tb Ca Cb H) (ht : ta ≤ 9000) :
    Calls Tryz.prog 18 #[.pointer (some ⟨la, 0, none⟩), .agg (nt.cells Loc.none)] W fun e w' => e = .returned (.tuple #[.int .i64 (ta : Int), .int .i64 0]) ∧ Tw w w' pa da la pb db lb X (ntl ta) tb Ca Cb H ∧ Only (Kx w X) W w' := by
  obtain ⟨Fa, Fb, fa, Ka, fb, Kb, h1, h2, h3, h4, h5⟩ := h.ex
  exact (pw_append h1 ht).mono fun e w' hx => ⟨hx.1, tw_left h h1 h2 h3 h4 h5 hx.2⟩
theorem tw_setA {w W : World} {pa da la pb db lb : Nat} {X : Nat → Prop} {ta tb H : Nat} {Ca Cb : Nat → Option Pg} (h : Tw w W pa da la pb db lb X ta tb Ca Cb H) (n : Nat) (hn : n < 12) (pick : Int) (body : Pg) (Bb : Nat) (ab : Option Addr) (cb : Nat) (hS : Strs W Bb ab body.items) (hB : 0 < body.items.length → Bb < w.heap.size) (hh : body.high.size ≤ 140737488355328) (hl : body.lsn < (ta : Int)) :
    Calls Tryz.prog 21 #[.pointer (some ⟨pa, 0, none⟩), .int .i64 (n : Int), .agg #[.int .i64 body.lsn, .int .i64 body.kind, .int .i64 body.level, .int .i64 body.right, .string body.high, .slice ab body.items.length cb], .int .i64 pick] W fun e w' =>
      e = .returned (.int .i64 body.setC) ∧ Tw w w' pa da la pb db lb X ta tb (setP Ca n body) Cb H ∧ Only (Kx w X) W w' := by
  obtain ⟨Fa, Fb, fa, Ka, fb, Kb, h1, h2, h3, h4, h5⟩ := h.ex
  exact (pw_set h1 n hn pick body Bb ab cb hS (fun h0 e => by have := (h1.lt Bb e).1; have := hB h0; omega) hh hl).mono fun e w' hx => ⟨hx.1, tw_left h h1 h2 h3 h4 h5 hx.2⟩
theorem tw_fetchA {w W : World} {pa da la pb db lb : Nat} {X : Nat → Prop} {ta tb H : Nat} {Ca Cb : Nat → Option Pg} (h : Tw w W pa da la pb db lb X ta tb Ca Cb H) (n : Nat) (hn : n < 12) (pick : Int) (pg : Pg) (c : Int) (hp : fetP (Ca n) = pg) (hc : fetC (Ca n) = c) :
    Calls Tryz.prog 15 #[.pointer (some ⟨pa, 0, none⟩), .int .i64 (n : Int), .int .i64 pick] W fun e w' =>
      ∃ Bq aq cq, e = .returned (.tuple #[.agg #[.int .i64 pg.lsn, .int .i64 pg.kind, .int .i64 pg.level, .int .i64 pg.right, .string pg.high, .slice aq pg.items.length cq], .int .i64 c]) ∧ Strs w' Bq aq pg.items ∧ (0 < pg.items.length → W.heap.size ≤ Bq) ∧ Tw w w' pa da la pb db lb X ta tb Ca Cb H ∧ Only (Kx w X) W w' := by
  subst hp hc
  obtain ⟨Fa, Fb, fa, Ka, fb, Kb, h1, h2, h3, h4, h5⟩ := h.ex
  refine (pw_fetch h1 n hn pick).mono ?_
  rintro e w' ⟨Bq, aq, cq, he, b1, b2, b3, hx⟩
  exact ⟨Bq, aq, cq, he, b1, b3, tw_left h h1 h2 h3 h4 h5 hx⟩
theorem tw_appendB {w W : World} {pa da la pb db lb : Nat} {X : Nat → Prop} {ta tb H : Nat} {Ca Cb : Nat → Option Pg} (h : Tw w W pa da la pb db lb X ta tb Ca Cb H) (ht : tb ≤ 9000) :
    Calls Tryz.prog 18 #[.pointer (some ⟨lb, 0, none⟩), .agg (nt.cells Loc.none)] W fun e w' => e = .returned (.tuple #[.int .i64 (tb : Int), .int .i64 0]) ∧ Tw w w' pa da la pb db lb X ta (ntl tb) Ca Cb w'.heap.size ∧ Only (fun k => Kx w X k ∧ k < H) W w' := by
  obtain ⟨Fa, Fb, fa, Ka, fb, Kb, h1, h2, h3, h4, h5⟩ := h.ex
  exact (pw_append h2 ht).mono fun e w' hx => ⟨hx.1, tw_right h h1 h2 h3 h4 h5 hx.2⟩
theorem tw_setB {w W : World} {pa da la pb db lb : Nat} {X : Nat → Prop} {ta tb H : Nat} {Ca Cb : Nat → Option Pg} (h : Tw w W pa da la pb db lb X ta tb Ca Cb H) (n : Nat) (hn : n < 12) (pick : Int) (body : Pg) (Bb : Nat) (ab : Option Addr) (cb : Nat) (hS : Strs W Bb ab body.items) (hB : 0 < body.items.length → Bb < w.heap.size) (hh : body.high.size ≤ 140737488355328) (hl : body.lsn < (tb : Int)) :
    Calls Tryz.prog 21 #[.pointer (some ⟨pb, 0, none⟩), .int .i64 (n : Int), .agg #[.int .i64 body.lsn, .int .i64 body.kind, .int .i64 body.level, .int .i64 body.right, .string body.high, .slice ab body.items.length cb], .int .i64 pick] W fun e w' =>
      e = .returned (.int .i64 body.setC) ∧ Tw w w' pa da la pb db lb X ta tb Ca (setP Cb n body) w'.heap.size ∧ Only (fun k => Kx w X k ∧ k < H) W w' := by
  obtain ⟨Fa, Fb, fa, Ka, fb, Kb, h1, h2, h3, h4, h5⟩ := h.ex
  exact (pw_set h2 n hn pick body Bb ab cb hS (fun h0 e => by have := (h2.lt Bb e).1; have := hB h0; omega) hh hl).mono fun e w' hx => ⟨hx.1, tw_right h h1 h2 h3 h4 h5 hx.2⟩
theorem tw_fetchB {w W : World} {pa da la pb db lb : Nat} {X : Nat → Prop} {ta tb H : Nat} {Ca Cb : Nat → Option Pg} (h : Tw w W pa da la pb db lb X ta tb Ca Cb H) (n : Nat) (hn : n < 12) (pick : Int) (pg : Pg) (c : Int) (hp : fetP (Cb n) = pg) (hc : fetC (Cb n) = c) :
    Calls Tryz.prog 15 #[.pointer (some ⟨pb, 0, none⟩), .int .i64 (n : Int), .int .i64 pick] W fun e w' =>
      ∃ Bq aq cq, e = .returned (.tuple #[.agg #[.int .i64 pg.lsn, .int .i64 pg.kind, .int .i64 pg.level, .int .i64 pg.right, .string pg.high, .slice aq pg.items.length cq], .int .i64 c]) ∧ Strs w' Bq aq pg.items ∧ (0 < pg.items.length → W.heap.size ≤ Bq) ∧ Tw w w' pa da la pb db lb X ta tb Ca Cb w'.heap.size ∧ Only (fun k => Kx w X k ∧ k < H) W w' := by
  subst hp hc
  obtain ⟨Fa, Fb, fa, Ka, fb, Kb, h1, h2, h3, h4, h5⟩ := h.ex
  refine (pw_fetch h2 n hn pick).mono ?_
  rintro e w' ⟨Bq, aq, cq, he, b1, b2, b3, hx⟩
  exact ⟨Bq, aq, cq, he, b1, b3, tw_right h h1 h2 h3 h4 h5 hx⟩
end Go.Proofs.YtbfafijfhaejmaaGreatDoor

namespace Go.Proofs.YtbfafijfhaejmaaGreatDoor
open Go.RowKit

/-- A variable of three. -/
structure Tri (w : World) (b : Nat) (v0 v1 v2 : Value) : Prop where
  c0 : w.cell? ⟨b, 0, none⟩ = some v0
  c1 : w.cell? ⟨b, 1, none⟩ = some v1
  c2 : w.cell? ⟨b, 2, none⟩ = some v2
  f : ∀ k, w.frozen? ⟨b, k, none⟩ = false
  lt : b < w.heap.size
theorem Tri.kept {S : Nat → Prop} {w w' : World} {b : Nat} {v0 v1 v2 : Value} (h : Tri w b v0 v1 v2) (ho : Only S w w') (hS : ¬ S b) : Tri w' b v0 v1 v2 :=
  ⟨(ho.cell (p := ⟨b, 0, none⟩) h.lt hS).trans h.c0, (ho.cell (p := ⟨b, 1, none⟩) h.lt hS).trans h.c1, (ho.cell (p := ⟨b, 2, none⟩) h.lt hS).trans h.c2, fun k => (ho.frozen (p := ⟨b, k, none⟩) h.lt hS).trans (h.f k), Nat.lt_of_lt_of_le h.lt ho.size⟩
theorem Tri.more {w w' : World} {b : Nat} {v0 v1 v2 : Value} (h : Tri w b v0 v1 v2) (ho : Only (fun _ => False) w w') : Tri w' b v0 v1 v2 := h.kept ho (fun h => h)
theorem Tri.new (w : World) (v0 v1 v2 : Value) (t : Nat) : Tri (w.alloc (.cells #[v0, v1, v2] t)) w.heap.size v0 v1 v2 := ⟨by simp, by simp, by simp, fun k => by simp, by simp⟩
theorem Only.tri (w : World) (b : Nat) (v0 v1 v2 : Value) : Only (fun k => k = b) w (((w.setCell ⟨b, 0, none⟩ v0).setCell ⟨b, 1, none⟩ v1).setCell ⟨b, 2, none⟩ v2) := by
  have st : ∀ (W : World) (i : Nat) (v : Value), Only (fun k => k = b) W (W.setCell ⟨b, i, none⟩ v) := fun W i v => Only.setCell W ⟨b, i, none⟩ v rfl
  exact ((st _ 0 _).trans (st _ 1 _) (fun _ _ h => h)).trans (st _ 2 _) (fun _ _ h => h)
theorem Tri.put {w : World} {b : Nat} {u0 u1 u2 : Value} (h : Tri w b u0 u1 u2) (v0 v1 v2 : Value) : Tri (((w.setCell ⟨b, 0, none⟩ v0).setCell ⟨b, 1, none⟩ v1).setCell ⟨b, 2, none⟩ v2) b v0 v1 v2 := by
  have oth : ∀ (W : World) (i j : Nat) (v x : Value), i ≠ j → W.cell? ⟨b, j, none⟩ = some x → (W.setCell ⟨b, i, none⟩ v).cell? ⟨b, j, none⟩ = some x := fun W i j v x hij hx => (World.cell?_setCell_other _ _ _ _ (by intro e; injection e with _ e2; exact hij e2)).trans hx
  have same : ∀ (W : World) (i : Nat) (v x : Value), W.cell? ⟨b, i, none⟩ = some x → (W.setCell ⟨b, i, none⟩ v).cell? ⟨b, i, none⟩ = some v := fun W i v x hx => World.cell?_setCell_same _ _ _ hx
  refine ⟨oth _ 2 0 _ _ (by omega) (oth _ 1 0 _ _ (by omega) (same _ 0 v0 _ h.c0)), oth _ 2 1 _ _ (by omega) (same _ 1 v1 _ (oth _ 0 1 _ _ (by omega) h.c1)), same _ 2 v2 _ (oth _ 1 2 _ _ (by omega) (oth _ 0 2 _ _ (by omega) h.c2)), fun k => by simpa using h.f k, by simpa using h.lt⟩
theorem Tryz.cellsAll : Tryz.prog.cellsOf 82 = 3 := by kernel_rfl
theorem load_all {w : World} {b : Nat} {v0 v1 v2 : Value} (h : Tri w b v0 v1 v2) : (loadVar 82 ⟨b, 0, none⟩).run Tryz.prog w = .ok (.agg #[v0, v1, v2]) w := by
  have c0 := h.c0
  have c1 := h.c1
  have c2 := h.c2
  simp [loadVar, go_sem, c0, c1, c2]
theorem results_all {fn : Func} {p u : Tmp} (h : fn.results = #[.cell p 82, .tmp u]) {tmps : Array Value} {w : World} {b : Nat} {v0 v1 v2 : Value} (hp : tmps.getD p undef = .pointer (some ⟨b, 0, none⟩)) (hP : Tri w b v0 v1 v2) :
    (results fn tmps).run Tryz.prog w = .ok (.tuple #[.agg #[v0, v1, v2], tmps.getD u undef]) w := by
  have e : (asAddr (tmps.getD p undef)).run Tryz.prog w = .ok ⟨b, 0, none⟩ w := by rw [hp]; rfl
  have key : (results fn tmps).run Tryz.prog w = ((asAddr (tmps.getD p undef)).run Tryz.prog w).andThen fun a w₁ => ((loadVar 82 a).run Tryz.prog w₁).andThen fun v w₂ => .ok (.tuple #[v, tmps.getD u undef]) w₂ := by
    simp only [results, h]
    simp [Sem.run_bind, Result.andThen]
  rw [key, e]
  simp only [Result.andThen, load_all hP]
theorem fr_disk (w : World) : Calls Tryz.prog 8 #[.int .i64 2000] w fun e w' => ∃ d g m, e = .returned (.tuple #[.pointer (some ⟨d, 0, none⟩), .int .i64 0]) ∧ Dsk w' d g m (Dk.new 2000) ∧ Only (fun _ => False) w w' ∧ (∀ k, own d g m k → w.heap.size ≤ k ∧ k < w'.heap.size) := st_disk w 2000 (by omega) (by omega)
theorem fr_log {w W : World} {d g m : Nat} (hD : Dsk W d g m (Dk.new 2000)) (ho : Only (fun _ => False) w W) (hk : ∀ k, own d g m k → w.heap.size ≤ k ∧ k < W.heap.size) :
    Calls Tryz.prog 10 #[.pointer (some ⟨d, 0, none⟩), .int .i64 0, .int .i64 200] W fun e w' => ∃ l D, e = .returned (.tuple #[.pointer (some ⟨l, 0, none⟩), .int .i64 0]) ∧ D.Wk 2000 (fun _ => zs64) ∧ Dsk w' d g m D ∧ LogOw w' l d (Lg.new 0 200) w.heap.size (.slice none 0 0) (.slice none 0 0) ∧ ¬ own d g m l ∧ w.heap.size ≤ l ∧ Only (fun _ => False) w w' ∧ (∀ k, own d g m k → w.heap.size ≤ k ∧ k < w'.heap.size) :=
  st_log (N := 2000) (n := 200) hD ho hk (by omega) (by omega)
theorem fr_pool {w W : World} {d g m l : Nat} {D : Dk} (hW : D.Wk 2000 (fun _ => zs64)) (hD : Dsk W d g m D) (hL : LogOw W l d (Lg.new 0 200) w.heap.size (.slice none 0 0) (.slice none 0 0)) (hnl : ¬ own d g m l) (hlw : w.heap.size ≤ l) (ho : Only (fun _ => False) w W) (hk : ∀ k, own d g m k → w.heap.size ≤ k ∧ k < W.heap.size) (n : Nat) (h1 : 1 ≤ n) (h2 : n ≤ 6) :
    Calls Tryz.prog 12 #[.pointer (some ⟨d, 0, none⟩), .pointer (some ⟨l, 0, none⟩), .int .i64 200, .int .i64 12, .int .i64 (n : Int)] W fun e w' => ∃ p F, e = .returned (.tuple #[.pointer (some ⟨p, 0, none⟩), .int .i64 0]) ∧ (∀ k, F k → w.heap.size ≤ k) ∧ Only (fun _ => False) w w' ∧ ∀ w0, Only (fun _ => False) w0 w → Pw w0 w' p d l F 1 1 (fun _ => none) (fun _ => none) := by
  refine Calls.mono (st_pool2 (N := 2000) (n := 200) (pages := 12) (frames := n) hW hD hL hnl hlw ho hk (by omega) (by omega) (by omega) (by omega) (by omega) (by omega) (by omega)) ?_
  rintro e w' ⟨p, fb, mb, T, he, hS, hT⟩
  have hlo := hS.lo
  have hl : ∀ k, foot w' p d l fb mb g m (.slice none 0 0) (.slice none 0 0) T k → w.heap.size ≤ k := fun k e => by
    rcases e with e | e | e | e | e | e | e | e
    · exact hlo.2.2.2.2 k e
    · omega
    · omega
    · omega
    · omega
    · cases e
    · cases e
    · have := hT k e.1; have := e.2; omega
  refine ⟨p, foot w' p d l fb mb g m (.slice none 0 0) (.slice none 0 0) T, he, hl, hS.only, fun w0 h0 => ⟨⟨fb, mb, g, m, _, _, _, _, _, T, hS.low h0.size (o2 h0 hS.only), inv_new hW (by omega) (by omega) h1, ⟨rfl, rfl⟩, ⟨rfl, rfl, rfl, rfl, rfl, rfl, by show 0 ≤ 1; omega, by show 0 ≤ 1; omega⟩, fun k e => e⟩, fun k e => ?_, o2 h0 hS.only⟩⟩
  have h1 := hl k e
  have h2 := hS.foot_lt k e
  have h3 := h0.size
  omega
set_option maxRecDepth 100000 in
set_option maxHeartbeats 1600000 in
theorem fresh_any (w : World) (n : Nat) (h1 : 1 ≤ n) (h2 : n ≤ 6) : Calls Tryz.prog 46 #[.int .i64 (n : Int)] w fun e w' => ∃ p d l F, e = .returned (.tuple #[.agg #[.pointer (some ⟨d, 0, none⟩), .pointer (some ⟨l, 0, none⟩), .pointer (some ⟨p, 0, none⟩)], .bool true]) ∧ (∀ k, F k → w.heap.size ≤ k) ∧ Only (fun _ => False) w w' ∧ ∀ w0, Only (fun _ => False) w0 w → Pw w0 w' p d l F 1 1 (fun _ => none) (fun _ => none) := by
  have HT0 := hide (Tri.new w (.pointer none) (.pointer none) (.pointer none) 82)
  have HO0 := hide (onlyA w (.cells #[.pointer none, .pointer none, .pointer none] 82))
  have HA := hide (And.intro h1 h2)
  have HSZ : Hid ((w.alloc (.cells #[.pointer none, .pointer none, .pointer none] 82)).heap.size = w.heap.size + 1) := by unfold Hid; simp
  obtain ⟨W0, hW0⟩ : ∃ W, w.alloc (.cells #[.pointer none, .pointer none, .pointer none] 82) = W := ⟨_, rfl⟩
  rw [hW0] at HT0 HO0 HSZ
  clear h1 h2
  go_enter Tryz.func46, Tryz.ntmps46
  go_upto_region 1 with fail
  first | rw [hW0] | skip
  clear hW0
  go_wp2_with fail
  refine (fr_disk W0).mono ?_
  rintro e w1 ⟨d, g, m, rfl, hD, ho, hk⟩
  have HF := hide (fr_log hD ho hk)
  clear hD ho hk
  go_wp2_with fail
  refine HF.out.mono ?_
  rintro e w2 ⟨l, D, rfl, hW, hD, hL, hnl, hlw, ho, hk⟩
  have HP := hide (fr_pool hW hD hL hnl hlw ho hk n HA.out.1 HA.out.2)
  clear hW hD hL hnl hlw ho hk HF
  go_wp2_with fail
  refine HP.out.mono ?_
  rintro e w3 ⟨p, F, rfl, hF, ho, hp⟩
  have HT := hide (HT0.out.more ho)
  have HX := hide (And.intro hF (And.intro ho hp))
  clear hF ho hp HP HT0
  obtain ⟨t0, t1, t2, tf, tl⟩ := HT.out
  have f0 := tf 0
  have f1 := tf 1
  have f2 := tf 2
  clear tf
  go_wp2_with fail
  refine bodyPost_ret (results_all rfl rfl (Tri.put HT.out _ _ _)) rfl ?_
  obtain ⟨hF, ho, hp⟩ := HX.out
  have o1 := Only.tri w3 w.heap.size (.pointer (some ⟨d, 0, none⟩)) (.pointer (some ⟨l, 0, none⟩)) (.pointer (some ⟨p, 0, none⟩))
  have hsz := HSZ.out
  have ho3 := o2 HO0.out ho
  have hall : ∀ w0, Only (fun _ => False) w0 w → Only (fun _ => False) w0 (((w3.setCell ⟨w.heap.size, 0, none⟩ (.pointer (some ⟨d, 0, none⟩))).setCell ⟨w.heap.size, 1, none⟩ (.pointer (some ⟨l, 0, none⟩))).setCell ⟨w.heap.size, 2, none⟩ (.pointer (some ⟨p, 0, none⟩))) := fun w0 h0 => (o2 h0 ho3).trans o1 (fun i hi e => by have := h0.size; omega)
  refine ⟨p, d, l, F, rfl, fun k hk => by have := hF k hk; omega, hall w (Only.refl _ _), fun w0 h0 => ?_⟩
  exact (hp w0 (o2 h0 HO0.out)).kept o1 (fun k hk e => by have := hF k hk; omega) (hall w0 h0)
end Go.Proofs.YtbfafijfhaejmaaGreatDoor

namespace Go.Proofs.YtbfafijfhaejmaaGreatDoor
open Go.ChangeShapes Go.WideShapes Go.ChangeAt Go.RowKit Go.Deep

theorem Tryz.laidOut : laidOutB Tryz.prog = true := by kernel_rfl
theorem Tryz.cellsInt : Tryz.prog.cellsOf 3 = 1 := by kernel_rfl
theorem Tryz.cellsStr : Tryz.prog.cellsOf 9 = 1 := by kernel_rfl
theorem Tryz.cellsStrs : Tryz.prog.cellsOf 43 = 1 := by kernel_rfl
theorem Tryz.bytesStr : Tryz.prog.bytesOf 9 = 16 := by kernel_rfl
theorem cell_spot {w : World} {a : Addr} {v : Value} (h : w.cell? a = some v) : a = ⟨a.block, a.off, none⟩ := by
  obtain ⟨b, o, s⟩ := a
  cases s with
  | none => rfl
  | some q =>
    unfold World.cell? at h
    split at h
    · simp at h
    · simp at h
theorem weightsAll_mem {H : Type} {P : Program} {e : TypeId} {d : DataW H} {l : List (DataW H)} {n : Nat} (hd : d ∈ l) (hn : n ∈ d.weights P e) : n ∈ DataW.weightsAll P e l := by
  induction l with
  | nil => cases hd
  | cons x t ih =>
    rw [DataW.weightsAll, List.mem_append]
    rcases List.mem_cons.1 hd with rfl | h
    · exact .inl hn
    · exact .inr (ih h)
/-- What a page that came in holds. -/
structure PgIn (W : World) (v : Value) (a k u r : Int) (h : ByteArray) (B : Nat) (ao : Option Addr) (cp : Nat) (l : List ByteArray) : Prop where
  val : v = .agg #[.int .i64 a, .int .i64 k, .int .i64 u, .int .i64 r, .string h, .slice ao l.length cp]
  a : -9223372036854775808 ≤ a ∧ a < 9223372036854775808
  k : -9223372036854775808 ≤ k ∧ k < 9223372036854775808
  u : -9223372036854775808 ≤ u ∧ u < 9223372036854775808
  r : -9223372036854775808 ≤ r ∧ r < 9223372036854775808
  high : h.size ≤ 140737488355328
  strs : Strs W B ao l
  fit : Fit ao l.length cp
  len : l.length ≤ 8796093021952
theorem strs_of_trod {H : Type} {enc : TypeId × Value → H} {W : World} {c : Value} {x : DataW H × List MemPlace} {n : Nat} (h : DataW.trod enc Tryz.prog W 0 (fun _ => true) true n 43 [c] = some x) (hw : ∀ m ∈ x.1.weights Tryz.prog 43, m ≤ reachBytes) :
    ∃ (B : Nat) (ao : Option Addr) (cp : Nat) (l : List ByteArray), c = .slice ao l.length cp ∧ Strs W B ao l ∧ Fit ao l.length cp ∧ l.length ≤ 8796093021952 := by
  rcases open_strs Tryz.underlying43 Tryz.underlying9 Tryz.cellsStr h with ⟨hcs, _⟩ | ⟨ad, len, cap, m, Sx, hcs, _, hl, hm, hmm, hx, hc⟩
  · simp at hcs
    subst hcs
    exact ⟨0, none, 0, [], rfl, Strs.nil _ _ _, ⟨fun _ => rfl, by simp, (by unfold maxLen; omega)⟩, by simp⟩
  · simp at hcs hmm
    subst hcs
    subst hmm
    rw [hx] at hw
    simp only [DataW.weights, Tryz.underlying43, Tryz.bytesStr] at hw
    have hwb := hw ((((List.range len).map fun i => DataW.lit (H := H) (.string (Sx i).data.toList)).length + ((List.range (m - len)).map fun j => DataW.lit (H := H) (.string (Sx (len + j)).data.toList)).length) * 16) (by simp)
    simp only [List.length_map, List.length_range] at hwb
    have hlen : ((List.range len).map Sx).length = len := by simp
    have hwr : reachBytes = 140737488351232 := by decide
    refine ⟨ad.block, some ad, m, (List.range len).map Sx, by rw [hlen], ⟨fun h0 => ?_, fun h0 => ?_, by rw [hlen]; omega, fun s hs => ?_⟩, ⟨(fun h => by cases h), (by rw [hlen]; exact hl), hm⟩, by rw [hlen]; omega⟩
    · rw [hlen] at h0
      have c0 := (hc 0 (by omega)).1
      have e0 : ad.add 0 = ad := by unfold Addr.add; split <;> simp_all
      rw [e0] at c0
      have ha := cell_spot c0
      refine ⟨ad.off, by rw [← ha], fun j hj => ?_⟩
      rw [hlen] at hj
      have cj := (hc j (by omega)).1
      rw [ha, add_at] at cj
      rw [cj]
      simp
    · rw [hlen] at h0
      have c0 := (hc 0 (by omega)).1
      have e0 : ad.add 0 = ad := by unfold Addr.add; split <;> simp_all
      rw [e0] at c0
      exact World.block_lt_of_cell? W _ c0
    · obtain ⟨i, hi, rfl⟩ := List.mem_map.1 hs
      have hmem : (DataW.lit (H := H) (.string (Sx i).data.toList)) ∈ (List.range len).map fun i => DataW.lit (H := H) (.string (Sx i).data.toList) := List.mem_map.2 ⟨i, hi, rfl⟩
      have := hw (Sx i).data.toList.length (by
        refine List.mem_cons_of_mem _ (List.mem_append.2 (.inl (weightsAll_mem hmem ?_)))
        simp [DataW.weights])
      rw [show (Sx i).data.toList.length = (Sx i).size from bl_len _] at this
      omega
set_option maxRecDepth 100000 in
theorem open_page {H : Type} {enc : TypeId × Value → H} {W : World} {base : Nat} {v : Value} {d : DataW H} {ps : List MemPlace} (hok : Value.okWide Tryz.prog W .any base 45 v) (h : DataW.Trod enc Tryz.prog W 0 (fun _ => true) true 45 v d ps)
    (hw : ∀ m ∈ d.weights Tryz.prog 45, m ≤ reachBytes) : ∃ a k u r h B ao cp l, PgIn W v a k u r h B ao cp l := by
  obtain ⟨cs, rfl, hs⟩ := okWide_struct Tryz.underlying45 hok
  obtain ⟨fuel, hf⟩ := h
  rw [Tryz.cellsPage] at hs
  obtain ⟨xs, n, _, hx, _, hlen, hfs⟩ := DataW.trod_struct Tryz.underlying45 hf
  obtain ⟨c0, c1, c2, c3, c4, c5, rfl⟩ : ∃ c0 c1 c2 c3 c4 c5, cs = #[c0, c1, c2, c3, c4, c5] := by
    obtain ⟨l⟩ := cs
    match l, hs with
    | [c0, c1, c2, c3, c4, c5], _ => exact ⟨c0, c1, c2, c3, c4, c5, rfl⟩
  match xs, hlen with
  | [y0, y1, y2, y3, y4, y5], _ =>
    simp only [Prod.mk.injEq] at hx
    have g0 := hfs 0 _ rfl
    have g1 := hfs 1 _ rfl
    have g2 := hfs 2 _ rfl
    have g3 := hfs 3 _ rfl
    have g4 := hfs 4 _ rfl
    have g5 := hfs 5 _ rfl
    simp [Value.cells, Tryz.cellsInt, Tryz.cellsStr, Tryz.cellsStrs] at g0 g1 g2 g3 g4 g5
    obtain ⟨a, e0, _, w0⟩ := DataW.trod_int Tryz.underlying3 g0
    obtain ⟨k, e1, _, w1⟩ := DataW.trod_int Tryz.underlying3 g1
    obtain ⟨u, e2, _, w2⟩ := DataW.trod_int Tryz.underlying3 g2
    obtain ⟨r, e3, _, w3⟩ := DataW.trod_int Tryz.underlying3 g3
    obtain ⟨h, e4, f4, _⟩ := DataW.trod_string Tryz.underlying9 g4
    simp at e0 e1 e2 e3 e4
    rw [hx.1] at hw
    simp only [DataW.weights, Tryz.underlying45] at hw
    have hw4 : ∀ m ∈ y4.1.weights Tryz.prog 9, m ≤ reachBytes := fun m hm => hw m (DataW.weights_mem_each (j := 4) (t := 9) (d := y4.1) rfl rfl m hm)
    have hw5 : ∀ m ∈ y5.1.weights Tryz.prog 43, m ≤ reachBytes := fun m hm => hw m (DataW.weights_mem_each (j := 5) (t := 43) (d := y5.1) rfl rfl m hm)
    obtain ⟨B, ao, cp, l, e5, hS, hF, hL⟩ := strs_of_trod g5 hw5
    have hwr : reachBytes = 140737488351232 := by decide
    have hh : h.size ≤ 140737488355328 := by
      rw [f4] at hw4
      have := hw4 h.data.toList.length (by simp [DataW.weights])
      rw [show h.data.toList.length = h.size from bl_len _] at this
      omega
    have b0 := bounds_i64 w0
    have b1 := bounds_i64 w1
    have b2 := bounds_i64 w2
    have b3 := bounds_i64 w3
    exact ⟨a, k, u, r, h, B, ao, cp, l, ⟨by rw [e0, e1, e2, e3, e4, e5], by omega, by omega, by omega, by omega, hh, hS, hF, hL⟩⟩
end Go.Proofs.YtbfafijfhaejmaaGreatDoor

namespace Go.Proofs.YtbfafijfhaejmaaGreatDoor
open Go.ChangeShapes Go.WideShapes Go.ChangeAt Go.RowKit Go.Deep

theorem Tryz.cellsRec : Tryz.prog.cellsOf 59 = 16 := by kernel_rfl
theorem Tryz.cellsImage : Tryz.prog.cellsOf 183 = 7 := by kernel_rfl
theorem Tryz.cellsOwed : Tryz.prog.cellsOf 123 = 2 := by kernel_rfl
theorem Tryz.cellsBegun : Tryz.prog.cellsOf 188 = 2 := by kernel_rfl
theorem Tryz.cellsKind : Tryz.prog.cellsOf 53 = 1 := by kernel_rfl
theorem Tryz.cellsInts : Tryz.prog.cellsOf 54 = 1 := by kernel_rfl
theorem Tryz.cellsImages : Tryz.prog.cellsOf 55 = 1 := by kernel_rfl
theorem Tryz.cellsOweds : Tryz.prog.cellsOf 56 = 1 := by kernel_rfl
theorem Tryz.cellsBeguns : Tryz.prog.cellsOf 57 = 1 := by kernel_rfl
theorem Tryz.bytesInt : Tryz.prog.bytesOf 3 = 8 := by kernel_rfl
theorem Tryz.bytesImage : Tryz.prog.bytesOf 183 = 80 := by kernel_rfl
theorem Tryz.bytesOwed : Tryz.prog.bytesOf 123 = 16 := by kernel_rfl
theorem Tryz.bytesBegun : Tryz.prog.bytesOf 188 = 16 := by kernel_rfl
theorem add0 (a : Addr) : a.add 0 = a := by unfold Addr.add; simp
set_option maxRecDepth 100000 in
/-- What the walk's opening of a slice gives, with the reach. -/
theorem slice_reach {H : Type} {enc : TypeId × Value → H} {W : World} {t e : TypeId} {c : Value} {x : DataW H × List MemPlace} {n : Nat} (ht : Tryz.prog.underlying t = some (.slice e)) (h : DataW.trod enc Tryz.prog W 0 (fun _ => true) true n t [c] = some x) (hw : ∀ m ∈ x.1.weights Tryz.prog t, m ≤ reachBytes) (hb : 8 ≤ Tryz.prog.bytesOf e) :
    c = .slice none 0 0 ∨ ∃ (a : Addr) (len cap m : Nat) (D : Nat → DataW H) (Pl : Nat → List MemPlace), c = .slice (some a) len cap ∧ len ≤ cap ∧ cap ≤ maxLen ∧ cap ≤ 17592186043904 ∧
      (∀ i, i < cap → ∃ cs', W.cells? 0 (a.add (i * Tryz.prog.cellsOf e)) (Tryz.prog.cellsOf e) = some cs' ∧ DataW.trod enc Tryz.prog W 0 (fun _ => true) true m e cs' = some (D i, Pl i)) ∧
      (∀ i, i < len → ∀ k ∈ (D i).weights Tryz.prog e, k ≤ reachBytes) := by
  rcases open_slice ht h with ⟨hcs, hx⟩ | ⟨a', len', cap', m, n', D, Pl, hcs, hb', hl, hm, hmm, hx, hit⟩
  · simp at hcs
    exact .inl hcs
  · simp at hcs hmm
    subst hmm
    have hwr : reachBytes = 140737488351232 := by decide
    rw [hx] at hw
    simp only [DataW.weights, ht] at hw
    have hwb := hw ((((List.range len').map D).length + ((List.range (m - len')).map fun j => D (len' + j)).length) * Tryz.prog.bytesOf e) (by simp)
    simp only [List.length_map, List.length_range] at hwb
    have h8 : (len' + (m - len')) * 8 ≤ (len' + (m - len')) * Tryz.prog.bytesOf e := Nat.mul_le_mul_left _ hb
    refine .inr ⟨a', len', m, n', D, Pl, hcs, hl, hm, by omega, hit, fun i hi k hk => ?_⟩
    refine hw k (List.mem_cons_of_mem _ (List.mem_append.2 (.inl (weightsAll_mem (d := D i) (List.mem_map.2 ⟨i, List.mem_range.2 hi, rfl⟩) hk))))
set_option maxRecDepth 100000 in
theorem zs_of_trod {H : Type} {enc : TypeId × Value → H} {W : World} {c : Value} {x : DataW H × List MemPlace} {n : Nat} (h : DataW.trod enc Tryz.prog W 0 (fun _ => true) true n 54 [c] = some x) (hw : ∀ m ∈ x.1.weights Tryz.prog 54, m ≤ reachBytes) :
    ∃ (B : Nat) (ao : Option Addr) (cp : Nat) (l : List Int), c = .slice ao l.length cp ∧ Zs W B ao l ∧ Fit ao l.length cp := by
  rcases slice_reach Tryz.underlying54 h hw (by rw [Tryz.bytesInt]; decide) with rfl | ⟨a, len, cap, m, D, Pl, rfl, hl, hm, hc, hit, _⟩
  · exact ⟨0, none, 0, [], rfl, Zs.nil _ _ _, ⟨fun _ => rfl, by simp, by simp⟩⟩
  · have one : ∀ i, i < cap → ∃ z : Int, W.cell? (a.add i) = some (.int .i64 z) := fun i hi => by
      obtain ⟨cs', h1, h2⟩ := hit i hi
      rw [Tryz.cellsInt] at h1
      obtain ⟨_, hlen, hcell⟩ := World.cells?_some h1
      match cs', hlen with
      | [v0], _ =>
        obtain ⟨z, e0, _, _⟩ := DataW.trod_int Tryz.underlying3 h2
        simp at e0
        subst e0
        have c0 := hcell 0 (by omega)
        rw [add0, Nat.mul_one] at c0
        exact ⟨z, by simpa using c0⟩
    obtain ⟨q, hq⟩ := choose_lt (n := cap) one
    have hlen : ((List.range len).map q).length = len := by simp
    refine ⟨a.block, some a, cap, (List.range len).map q, by rw [hlen], ⟨fun h0 => ?_, fun h0 => ?_, by rw [hlen]; omega⟩, ⟨(fun h => by cases h), (by rw [hlen]; exact hl), hm⟩⟩
    · rw [hlen] at h0
      have c0 := hq 0 (by omega)
      rw [add0] at c0
      have ha := cell_spot c0
      refine ⟨a.off, by rw [← ha], fun j hj => ?_⟩
      rw [hlen] at hj
      have cj := hq j (by omega)
      rw [ha, add_at] at cj
      rw [cj]
      simp
    · rw [hlen] at h0
      have c0 := hq 0 (by omega)
      rw [add0] at c0
      exact World.block_lt_of_cell? W _ c0
set_option maxRecDepth 100000 in
theorem prs_of_trod {H : Type} {enc : TypeId × Value → H} {W : World} {t e : TypeId} {c : Value} {x : DataW H × List MemPlace} {n : Nat} (ht : Tryz.prog.underlying t = some (.slice e)) (hce : Tryz.prog.cellsOf e = 2) (hbe : Tryz.prog.bytesOf e = 16)
    (two : ∀ (m : Nat) (v0 v1 : Value) (y : DataW H × List MemPlace), DataW.trod enc Tryz.prog W 0 (fun _ => true) true m e [v0, v1] = some y → ∃ a b : Int, v0 = .int .i64 a ∧ v1 = .int .i64 b)
    (h : DataW.trod enc Tryz.prog W 0 (fun _ => true) true n t [c] = some x) (hw : ∀ m ∈ x.1.weights Tryz.prog t, m ≤ reachBytes) :
    ∃ (B : Nat) (ao : Option Addr) (cp : Nat) (l : List (Int × Int)), c = .slice ao l.length cp ∧ Prs W B ao l := by
  rcases slice_reach ht h hw (by rw [hbe]; decide) with rfl | ⟨a, len, cap, m, D, Pl, rfl, hl, hm, hc, hit, _⟩
  · exact ⟨0, none, 0, [], rfl, Prs.nil _ _ _⟩
  · have one : ∀ i, i < cap → ∃ z : Int × Int, W.cell? (a.add (i * 2)) = some (.int .i64 z.1) ∧ W.cell? (a.add (i * 2 + 1)) = some (.int .i64 z.2) := fun i hi => by
      obtain ⟨cs', h1, h2⟩ := hit i hi
      rw [hce] at h1
      obtain ⟨_, hlen, hcell⟩ := World.cells?_some h1
      match cs', hlen with
      | [v0, v1], _ =>
        obtain ⟨p, q, e0, e1⟩ := two _ _ _ _ h2
        subst e0; subst e1
        have c0 := hcell 0 (by omega)
        have c1 := hcell 1 (by omega)
        rw [add_add] at c0 c1
        exact ⟨(p, q), by simpa using c0, by simpa using c1⟩
    obtain ⟨q, hq⟩ := choose_lt (n := cap) one
    have hlen : ((List.range len).map q).length = len := by simp
    refine ⟨a.block, some a, cap, (List.range len).map q, by rw [hlen], ⟨fun h0 => ?_, fun h0 => ?_, by rw [hlen]; omega⟩⟩
    · rw [hlen] at h0
      have c0 := (hq 0 (by omega)).1
      rw [Nat.zero_mul, add0] at c0
      have ha := cell_spot c0
      refine ⟨a.off, by rw [← ha], fun j hj => ?_⟩
      rw [hlen] at hj
      have cj := hq j (by omega)
      rw [ha, add_at, add_at] at cj
      simpa [Nat.add_assoc] using cj
    · rw [hlen] at h0
      have c0 := (hq 0 (by omega)).1
      rw [Nat.zero_mul, add0] at c0
      exact World.block_lt_of_cell? W _ c0
set_option maxRecDepth 100000 in
theorem two_owed {H : Type} {enc : TypeId × Value → H} {W : World} (m : Nat) (v0 v1 : Value) (y : DataW H × List MemPlace) (h : DataW.trod enc Tryz.prog W 0 (fun _ => true) true m 123 [v0, v1] = some y) : ∃ a b : Int, v0 = .int .i64 a ∧ v1 = .int .i64 b := by
  obtain ⟨xs, n, _, hx, _, hlen, hfs⟩ := DataW.trod_struct Tryz.underlying123 h
  match xs, hlen with
  | [y0, y1], _ =>
    have g0 := hfs 0 _ rfl
    have g1 := hfs 1 _ rfl
    simp [Tryz.cellsInt] at g0 g1
    obtain ⟨a, e0, _, _⟩ := DataW.trod_int Tryz.underlying3 g0
    obtain ⟨b, e1, _, _⟩ := DataW.trod_int Tryz.underlying3 g1
    simp at e0 e1
    exact ⟨a, b, e0, e1⟩
set_option maxRecDepth 100000 in
theorem two_begun {H : Type} {enc : TypeId × Value → H} {W : World} (m : Nat) (v0 v1 : Value) (y : DataW H × List MemPlace) (h : DataW.trod enc Tryz.prog W 0 (fun _ => true) true m 188 [v0, v1] = some y) : ∃ a b : Int, v0 = .int .i64 a ∧ v1 = .int .i64 b := by
  obtain ⟨xs, n, _, hx, _, hlen, hfs⟩ := DataW.trod_struct Tryz.underlying188 h
  match xs, hlen with
  | [y0, y1], _ =>
    have g0 := hfs 0 _ rfl
    have g1 := hfs 1 _ rfl
    simp [Tryz.cellsInt] at g0 g1
    obtain ⟨a, e0, _, _⟩ := DataW.trod_int Tryz.underlying3 g0
    obtain ⟨b, e1, _, _⟩ := DataW.trod_int Tryz.underlying3 g1
    simp at e0 e1
    exact ⟨a, b, e0, e1⟩
set_option maxRecDepth 100000 in
/-- A page's cells that came in. -/
theorem page_of_trod {H : Type} {enc : TypeId × Value → H} {W : World} {c0 c1 c2 c3 c4 c5 : Value} {x : DataW H × List MemPlace} {n : Nat} (h : DataW.trod enc Tryz.prog W 0 (fun _ => true) true n 45 [c0, c1, c2, c3, c4, c5] = some x) (hw : ∀ m ∈ x.1.weights Tryz.prog 45, m ≤ reachBytes) :
    ∃ (p : Pg) (B : Nat) (ao : Option Addr) (cp : Nat), c0 = .int .i64 p.lsn ∧ c1 = .int .i64 p.kind ∧ c2 = .int .i64 p.level ∧ c3 = .int .i64 p.right ∧ c4 = .string p.high ∧ c5 = .slice ao p.items.length cp ∧ Strs W B ao p.items ∧ Fit ao p.items.length cp ∧ p.high.size ≤ 140737488355328 ∧ p.lsn < 9223372036854775808 := by
  obtain ⟨xs, n', _, hx, _, hlen, hfs⟩ := DataW.trod_struct Tryz.underlying45 h
  match xs, hlen with
  | [y0, y1, y2, y3, y4, y5], _ =>
    have g0 := hfs 0 _ rfl
    have g1 := hfs 1 _ rfl
    have g2 := hfs 2 _ rfl
    have g3 := hfs 3 _ rfl
    have g4 := hfs 4 _ rfl
    have g5 := hfs 5 _ rfl
    simp [Tryz.cellsInt, Tryz.cellsStr, Tryz.cellsStrs] at g0 g1 g2 g3 g4 g5
    obtain ⟨a, e0, _, w0⟩ := DataW.trod_int Tryz.underlying3 g0
    obtain ⟨k, e1, _, w1⟩ := DataW.trod_int Tryz.underlying3 g1
    obtain ⟨u, e2, _, w2⟩ := DataW.trod_int Tryz.underlying3 g2
    obtain ⟨r, e3, _, w3⟩ := DataW.trod_int Tryz.underlying3 g3
    obtain ⟨h, e4, f4, _⟩ := DataW.trod_string Tryz.underlying9 g4
    simp at e0 e1 e2 e3 e4
    rw [hx] at hw
    simp only [DataW.weights, Tryz.underlying45] at hw
    have hw4 : ∀ m ∈ y4.1.weights Tryz.prog 9, m ≤ reachBytes := fun m hm => hw m (DataW.weights_mem_each (j := 4) (t := 9) (d := y4.1) rfl rfl m hm)
    have hw5 : ∀ m ∈ y5.1.weights Tryz.prog 43, m ≤ reachBytes := fun m hm => hw m (DataW.weights_mem_each (j := 5) (t := 43) (d := y5.1) rfl rfl m hm)
    obtain ⟨B, ao, cp, l, e5, hS, hF, hL⟩ := strs_of_trod g5 hw5
    have hwr : reachBytes = 140737488351232 := by decide
    have hh : h.size ≤ 140737488355328 := by
      rw [f4] at hw4
      have := hw4 h.data.toList.length (by simp [DataW.weights])
      rw [show h.data.toList.length = h.size from bl_len _] at this
      omega
    have b0 := bounds_i64 w0
    exact ⟨⟨a, k, u, r, h, l⟩, B, ao, cp, e0, e1, e2, e3, e4, e5, hS, hF, hh, by show a < _; omega⟩
set_option maxRecDepth 100000 in
theorem im_of_trod {H : Type} {enc : TypeId × Value → H} {W : World} {c0 c1 c2 c3 c4 c5 c6 : Value} {x : DataW H × List MemPlace} {n : Nat} (h : DataW.trod enc Tryz.prog W 0 (fun _ => true) true n 183 [c0, c1, c2, c3, c4, c5, c6] = some x) (hw : ∀ m ∈ x.1.weights Tryz.prog 183, m ≤ reachBytes) :
    ∃ (i : Im) (B : Nat) (ao : Option Addr) (cp : Nat), c0 = .int .i64 i.page ∧ c1 = .int .i64 i.body.lsn ∧ c2 = .int .i64 i.body.kind ∧ c3 = .int .i64 i.body.level ∧ c4 = .int .i64 i.body.right ∧ c5 = .string i.body.high ∧ c6 = .slice ao i.body.items.length cp ∧ Strs W B ao i.body.items ∧ Fit ao i.body.items.length cp ∧ i.body.high.size ≤ 140737488355328 ∧ i.body.lsn < 9223372036854775808 := by
  obtain ⟨xs, n', _, hx, _, hlen, hfs⟩ := DataW.trod_struct Tryz.underlying183 h
  match xs, hlen with
  | [y0, y1], _ =>
    have g0 := hfs 0 _ rfl
    have g1 := hfs 1 _ rfl
    simp [Tryz.cellsInt, Tryz.cellsPage] at g0 g1
    obtain ⟨a, e0, _, _⟩ := DataW.trod_int Tryz.underlying3 g0
    simp at e0
    rw [hx] at hw
    simp only [DataW.weights, Tryz.underlying183] at hw
    have hw1 : ∀ m ∈ y1.1.weights Tryz.prog 45, m ≤ reachBytes := fun m hm => hw m (DataW.weights_mem_each (j := 1) (t := 45) (d := y1.1) rfl rfl m hm)
    obtain ⟨p, B, ao, cp, k0, k1, k2, k3, k4, k5, hS, hF, hh, hl⟩ := page_of_trod g1 hw1
    exact ⟨⟨a, p⟩, B, ao, cp, e0, k0, k1, k2, k3, k4, k5, hS, hF, hh, hl⟩
set_option maxRecDepth 100000 in
theorem ims_of_trod {H : Type} {enc : TypeId × Value → H} {W : World} {c : Value} {x : DataW H × List MemPlace} {n : Nat} (h : DataW.trod enc Tryz.prog W 0 (fun _ => true) true n 55 [c] = some x) (hw : ∀ m ∈ x.1.weights Tryz.prog 55, m ≤ reachBytes) :
    ∃ (B : Nat) (ao : Option Addr) (cp : Nat) (l : List Im), c = .slice ao l.length cp ∧ Ims W (fun _ => True) B ao l := by
  rcases slice_reach Tryz.underlying55 h hw (by rw [Tryz.bytesImage]; decide) with rfl | ⟨a, len, cap, m, D, Pl, rfl, hl, hm, hc, hit, hwe⟩
  · exact ⟨0, none, 0, [], rfl, Ims.nil _ _ _ _⟩
  · by_cases hl0 : len = 0
    · subst hl0
      exact ⟨0, some a, cap, [], rfl, Ims.nil _ _ _ _⟩
    have ha : a = ⟨a.block, a.off, none⟩ := by
      obtain ⟨cs', h1, h2⟩ := hit 0 (by omega)
      rw [Tryz.cellsImage] at h1
      obtain ⟨_, hlen, hcell⟩ := World.cells?_some h1
      have c0 := hcell 0 (by omega)
      rw [add_add, Nat.zero_mul, add0] at c0
      match cs', hlen with
      | v0 :: _, _ => exact cell_spot (v := v0) (by simpa using c0)
    have inh : Inhabited (Im × Nat × Option Addr × Nat) := ⟨(⟨0, Pg.none⟩, 0, none, 0)⟩
    have one : ∀ i, i < len → ∃ z : Im × Nat × Option Addr × Nat, ∃ b o, a = ⟨b, o, none⟩ ∧ b < W.heap.size ∧ ImAt W b (o + i * 7) z.1 z.2.1 z.2.2.1 z.2.2.2 := fun i hi => by
      obtain ⟨cs', h1, h2⟩ := hit i (by omega)
      rw [Tryz.cellsImage] at h1
      obtain ⟨_, hlen, hcell⟩ := World.cells?_some h1
      match cs', hlen with
      | [v0, v1, v2, v3, v4, v5, v6], _ =>
        obtain ⟨j, B, ao, cp, e0, e1, e2, e3, e4, e5, e6, hS, hF, hh, hls⟩ := im_of_trod h2 (hwe i hi)
        subst e0 e1 e2 e3 e4 e5 e6
        have c0 := hcell 0 (by omega)
        have c1 := hcell 1 (by omega)
        have c2 := hcell 2 (by omega)
        have c3 := hcell 3 (by omega)
        have c4 := hcell 4 (by omega)
        have c5 := hcell 5 (by omega)
        have c6 := hcell 6 (by omega)
        rw [add_add] at c0 c1 c2 c3 c4 c5 c6
        rw [ha, add_at] at c0 c1 c2 c3 c4 c5 c6
        have hb := World.block_lt_of_cell? W _ c0
        refine ⟨(j, B, ao, cp), a.block, a.off, ha, hb, ⟨by simpa using c0, by simpa [Nat.add_assoc] using c1, by simpa [Nat.add_assoc] using c2, by simpa [Nat.add_assoc] using c3, by simpa [Nat.add_assoc] using c4, by simpa [Nat.add_assoc] using c5, by simpa [Nat.add_assoc] using c6, hS, hF, hh, hls⟩⟩
    obtain ⟨q, hq⟩ := choose_lt (n := len) one
    have hlen : ((List.range len).map fun i => (q i).1).length = len := by simp
    refine ⟨a.block, some a, cap, (List.range len).map fun i => (q i).1, by rw [hlen], ⟨fun h0 => ?_, fun h0 => ?_, by rw [hlen]; omega⟩⟩
    · rw [hlen] at h0
      obtain ⟨b, o, ha, hb, _⟩ := hq 0 (by omega)
      subst ha
      refine ⟨o, rfl, fun j hj => ?_⟩
      rw [hlen] at hj
      obtain ⟨b', o', ha', hb', hI⟩ := hq j hj
      injection ha' with e1 e2
      subst e1 e2
      refine ⟨(q j).2.1, (q j).2.2.1, (q j).2.2.2, ?_, fun _ => trivial⟩
      simpa using hI
    · rw [hlen] at h0
      obtain ⟨b, o, ha, hb, _⟩ := hq 0 (by omega)
      subst ha
      exact hb

set_option maxRecDepth 100000 in
theorem open_rec {H : Type} {enc : TypeId × Value → H} {W : World} {base : Nat} {v : Value} {d : DataW H} {ps : List MemPlace} (hok : Value.okWide Tryz.prog W .any base 59 v) (h : DataW.Trod enc Tryz.prog W 0 (fun _ => true) true 59 v d ps)
    (hw : ∀ m ∈ d.weights Tryz.prog 59, m ≤ reachBytes) : ∃ (r : Rc) (L : Loc), v = .agg (r.cells L) ∧ RcAt W r L := by
  obtain ⟨cs, rfl, hs⟩ := okWide_struct Tryz.underlying59 hok
  obtain ⟨fuel, hf⟩ := h
  rw [Tryz.cellsRec] at hs
  obtain ⟨xs, n, _, hx, _, hlen, hfs⟩ := DataW.trod_struct Tryz.underlying59 hf
  obtain ⟨c0, c1, c2, c3, c4, c5, c6, c7, c8, c9, c10, c11, c12, c13, c14, c15, rfl⟩ : ∃ c0 c1 c2 c3 c4 c5 c6 c7 c8 c9 c10 c11 c12 c13 c14 c15, cs = #[c0, c1, c2, c3, c4, c5, c6, c7, c8, c9, c10, c11, c12, c13, c14, c15] := by
    obtain ⟨l⟩ := cs
    match l, hs with
    | [c0, c1, c2, c3, c4, c5, c6, c7, c8, c9, c10, c11, c12, c13, c14, c15], _ => exact ⟨c0, c1, c2, c3, c4, c5, c6, c7, c8, c9, c10, c11, c12, c13, c14, c15, rfl⟩
  match xs, hlen with
  | [y0, y1, y2, y3, y4, y5, y6, y7, y8, y9, y10, y11, y12, y13, y14, y15], _ =>
    simp only [Prod.mk.injEq] at hx
    have g0 := hfs 0 _ rfl
    have g1 := hfs 1 _ rfl
    have g2 := hfs 2 _ rfl
    have g3 := hfs 3 _ rfl
    have g4 := hfs 4 _ rfl
    have g5 := hfs 5 _ rfl
    have g6 := hfs 6 _ rfl
    have g7 := hfs 7 _ rfl
    have g8 := hfs 8 _ rfl
    have g9 := hfs 9 _ rfl
    have g10 := hfs 10 _ rfl
    have g11 := hfs 11 _ rfl
    have g12 := hfs 12 _ rfl
    have g13 := hfs 13 _ rfl
    have g14 := hfs 14 _ rfl
    have g15 := hfs 15 _ rfl
    simp [Value.cells, Tryz.cellsInt, Tryz.cellsStr, Tryz.cellsKind, Tryz.cellsInts, Tryz.cellsImages, Tryz.cellsOweds, Tryz.cellsBeguns] at g0 g1 g2 g3 g4 g5 g6 g7 g8 g9 g10 g11 g12 g13 g14 g15
    obtain ⟨z0, e0, _, _⟩ := DataW.trod_int Tryz.underlying3 g0
    obtain ⟨z1, e1, _, _⟩ := DataW.trod_int Tryz.underlying3 g1
    obtain ⟨z2, e2, _, _⟩ := DataW.trod_int Tryz.underlying3 g2
    obtain ⟨z3, e3, _, w3⟩ := DataW.trod_int Tryz.underlying53 g3
    obtain ⟨z4, e4, _, _⟩ := DataW.trod_int Tryz.underlying3 g4
    obtain ⟨z5, e5, _, _⟩ := DataW.trod_int Tryz.underlying3 g5
    obtain ⟨z6, e6, _, _⟩ := DataW.trod_int Tryz.underlying3 g6
    obtain ⟨z7, e7, _, _⟩ := DataW.trod_int Tryz.underlying3 g7
    obtain ⟨z8, e8, _, _⟩ := DataW.trod_int Tryz.underlying3 g8
    obtain ⟨z9, e9, _, _⟩ := DataW.trod_int Tryz.underlying3 g9
    obtain ⟨s, e10, f10, _⟩ := DataW.trod_string Tryz.underlying9 g10
    simp at e0 e1 e2 e3 e4 e5 e6 e7 e8 e9 e10
    rw [hx.1] at hw
    simp only [DataW.weights, Tryz.underlying59] at hw
    have hw10 : ∀ m ∈ y10.1.weights Tryz.prog 9, m ≤ reachBytes := fun m hm => hw m (DataW.weights_mem_each (j := 10) (t := 9) (d := y10.1) rfl rfl m hm)
    have hw11 : ∀ m ∈ y11.1.weights Tryz.prog 54, m ≤ reachBytes := fun m hm => hw m (DataW.weights_mem_each (j := 11) (t := 54) (d := y11.1) rfl rfl m hm)
    have hw12 : ∀ m ∈ y12.1.weights Tryz.prog 54, m ≤ reachBytes := fun m hm => hw m (DataW.weights_mem_each (j := 12) (t := 54) (d := y12.1) rfl rfl m hm)
    have hw13 : ∀ m ∈ y13.1.weights Tryz.prog 55, m ≤ reachBytes := fun m hm => hw m (DataW.weights_mem_each (j := 13) (t := 55) (d := y13.1) rfl rfl m hm)
    have hw14 : ∀ m ∈ y14.1.weights Tryz.prog 56, m ≤ reachBytes := fun m hm => hw m (DataW.weights_mem_each (j := 14) (t := 56) (d := y14.1) rfl rfl m hm)
    have hw15 : ∀ m ∈ y15.1.weights Tryz.prog 57, m ≤ reachBytes := fun m hm => hw m (DataW.weights_mem_each (j := 15) (t := 57) (d := y15.1) rfl rfl m hm)
    obtain ⟨B1, a1, p1, l1, k1, hz1, hf1⟩ := zs_of_trod g11 hw11
    obtain ⟨B2, a2, p2, l2, k2, hz2, hf2⟩ := zs_of_trod g12 hw12
    obtain ⟨B3, a3, p3, l3, k3, hz3⟩ := ims_of_trod g13 hw13
    obtain ⟨B4, a4, p4, l4, k4, hz4⟩ := prs_of_trod Tryz.underlying56 Tryz.cellsOwed Tryz.bytesOwed two_owed g14 hw14
    obtain ⟨B5, a5, p5, l5, k5, hz5⟩ := prs_of_trod Tryz.underlying57 Tryz.cellsBegun Tryz.bytesBegun two_begun g15 hw15
    have hwr : reachBytes = 140737488351232 := by decide
    have hh : s.size ≤ 140737488355328 := by
      rw [f10] at hw10
      have := hw10 s.data.toList.length (by simp [DataW.weights])
      rw [show s.data.toList.length = s.size from bl_len _] at this
      omega
    have b3 := bounds_u8 w3
    refine ⟨⟨z0, z1, z2, z3, z4, z5, z6, z7, z8, z9, s, l1, l2, l3, l4, l5⟩, ⟨a1, a2, a3, a4, a5, p1, p2, p3, p4, p5, B1, B2, B3, B4, B5⟩, ?_, hz1, hz2, ⟨_, hz3⟩, hz4, hz5, hf1, hf2, hh, ⟨by show 0 ≤ z3; omega, by show z3 ≤ 255; omega⟩⟩
    rw [e0, e1, e2, e3, e4, e5, e6, e7, e8, e9, e10, k1, k2, k3, k4, k5]
end Go.Proofs.YtbfafijfhaejmaaGreatDoor

namespace Go.Proofs.YtbfafijfhaejmaaGreatDoor
open Go.ChangeShapes Go.WideShapes Go.ChangeAt Go.RowKit Go.Deep

theorem Tryz.cellsOop : Tryz.prog.cellsOf 47 = 9 := by kernel_rfl
theorem Tryz.bytesOop : Tryz.prog.bytesOf 47 = 96 := by kernel_rfl
/-- An act that came in: what is asked, of which page, which frame is meant, a page; where its items lie. -/
structure Qo where
  ask : Int
  page : Int
  pick : Int
  body : Pg
  B : Nat
  ab : Option Addr
  cb : Nat
def qcl (o : Qo) : List Value := [.int .i64 o.ask, .int .i64 o.page, .int .i64 o.pick, .int .i64 o.body.lsn, .int .i64 o.body.kind, .int .i64 o.body.level, .int .i64 o.body.right, .string o.body.high, .slice o.ab o.body.items.length o.cb]
structure QoIn (w : World) (o : Qo) : Prop where
  strs : Strs w o.B o.ab o.body.items
  page : -9223372036854775808 ≤ o.page ∧ o.page < 9223372036854775808
  pick : -9223372036854775808 ≤ o.pick ∧ o.pick < 9223372036854775808
  high : o.body.high.size ≤ 140737488355328
/-- Acts that a slice at ao leads to, in block B. -/
structure Qos (w : World) (B : Nat) (ao : Option Addr) (l : List Qo) : Prop where
  at_ : 0 < l.length → ∃ o, ao = some ⟨B, o, none⟩ ∧ ∀ j (h : j < l.length), w.rangeAt B (o + j * 9) (qcl l[j])
  each : ∀ z ∈ l, QoIn w z
  len : l.length < 9223372036854775808
theorem Qos.more {w w' : World} {B : Nat} {ao : Option Addr} {l : List Qo} (h : Qos w B ao l) (ho : Only (fun _ => False) w w') : Qos w' B ao l :=
  ⟨fun h0 => by
    obtain ⟨o, e, hc⟩ := h.at_ h0
    exact ⟨o, e, fun j hj => range_go (hc j hj) ho (fun h => h)⟩, fun z hz => ⟨(h.each z hz).strs.more ho, (h.each z hz).page, (h.each z hz).pick, (h.each z hz).high⟩, h.len⟩
set_option maxRecDepth 100000 in
theorem oop_of_trod {H : Type} {enc : TypeId × Value → H} {W : World} {v0 v1 v2 v3 v4 v5 v6 v7 v8 : Value} {x : DataW H × List MemPlace} {n : Nat} (h : DataW.trod enc Tryz.prog W 0 (fun _ => true) true n 47 [v0, v1, v2, v3, v4, v5, v6, v7, v8] = some x)
    (hw : ∀ m ∈ x.1.weights Tryz.prog 47, m ≤ reachBytes) : ∃ o : Qo, [v0, v1, v2, v3, v4, v5, v6, v7, v8] = qcl o ∧ QoIn W o := by
  obtain ⟨xs, n', _, hx, _, hlen, hfs⟩ := DataW.trod_struct Tryz.underlying47 h
  match xs, hlen with
  | [y0, y1, y2, y3], _ =>
    have g0 := hfs 0 _ rfl
    have g1 := hfs 1 _ rfl
    have g2 := hfs 2 _ rfl
    have g3 := hfs 3 _ rfl
    simp [Tryz.cellsInt, Tryz.cellsPage] at g0 g1 g2 g3
    obtain ⟨z0, e0, _, b0⟩ := DataW.trod_int Tryz.underlying3 g0
    obtain ⟨z1, e1, _, b1⟩ := DataW.trod_int Tryz.underlying3 g1
    obtain ⟨z2, e2, _, b2⟩ := DataW.trod_int Tryz.underlying3 g2
    simp at e0 e1 e2
    rw [hx] at hw
    simp only [DataW.weights, Tryz.underlying47] at hw
    have hw3 : ∀ m ∈ y3.1.weights Tryz.prog 45, m ≤ reachBytes := fun m hm => hw m (DataW.weights_mem_each (j := 3) (t := 45) (d := y3.1) rfl rfl m hm)
    obtain ⟨p, B, ao, cp, k0, k1, k2, k3, k4, k5, hS, hF, hh, hl⟩ := page_of_trod g3 hw3
    have c1 := bounds_i64 b1
    have c2 := bounds_i64 b2
    refine ⟨⟨z0, z1, z2, p, B, ao, cp⟩, ?_, hS, ⟨by show _ ≤ z1; omega, by show z1 < _; omega⟩, ⟨by show _ ≤ z2; omega, by show z2 < _; omega⟩, hh⟩
    rw [e0, e1, e2, k0, k1, k2, k3, k4, k5]
    rfl
set_option maxRecDepth 100000 in
theorem open_oops {H : Type} {enc : TypeId × Value → H} {W : World} {base : Nat} {v : Value} {d : DataW H} {ps : List MemPlace} (hok : Value.okWide Tryz.prog W .any base 22 v) (h : DataW.Trod enc Tryz.prog W 0 (fun _ => true) true 22 v d ps)
    (hw : ∀ m ∈ d.weights Tryz.prog 22, m ≤ reachBytes) : ∃ (B : Nat) (ao : Option Addr) (cp : Nat) (l : List Qo), v = .slice ao l.length cp ∧ Qos W B ao l := by
  obtain ⟨fuel, hf⟩ := h
  have hv : v.cells.toList = [v] := by
    rcases okWide_slice Tryz.underlying22 hok with ⟨a, b, c, rfl⟩
    rfl
  rw [hv] at hf
  have hb16 : 8 ≤ Tryz.prog.bytesOf 47 := by rw [Tryz.bytesOop]; decide
  rcases slice_reach Tryz.underlying22 hf hw hb16 with rfl | ⟨a, len, cap, m, D, Pl, rfl, hl, hm, hc, hit, hwe⟩
  · exact ⟨0, none, 0, [], rfl, ⟨fun h => absurd h (by simp), (fun z hz => by cases hz), by simp⟩⟩
  · by_cases hl0 : len = 0
    · subst hl0
      exact ⟨0, some a, cap, [], rfl, ⟨fun h => absurd h (by simp), (fun z hz => by cases hz), by simp⟩⟩
    have ha : a = ⟨a.block, a.off, none⟩ := by
      obtain ⟨cs', h1, h2⟩ := hit 0 (by omega)
      rw [Tryz.cellsOop] at h1
      obtain ⟨_, hlen, hcell⟩ := World.cells?_some h1
      have c0 := hcell 0 (by omega)
      rw [add_add, Nat.zero_mul, add0] at c0
      match cs', hlen with
      | v0 :: _, _ => exact cell_spot (v := v0) (by simpa using c0)
    have inh : Inhabited Qo := ⟨⟨0, 0, 0, Pg.none, 0, none, 0⟩⟩
    have one : ∀ i, i < len → ∃ z : Qo, W.rangeAt a.block (a.off + i * 9) (qcl z) ∧ QoIn W z := fun i hi => by
      obtain ⟨cs', h1, h2⟩ := hit i (by omega)
      rw [Tryz.cellsOop] at h1
      obtain ⟨_, hlen, hcell⟩ := World.cells?_some h1
      match cs', hlen with
      | [v0, v1, v2, v3, v4, v5, v6, v7, v8], _ =>
        obtain ⟨o, he, hat⟩ := oop_of_trod h2 (hwe i hi)
        refine ⟨o, fun j u hu => ?_, hat⟩
        have hu' : [v0, v1, v2, v3, v4, v5, v6, v7, v8][j]? = some u := by rw [he]; exact hu
        have hj : j < 9 := (List.getElem?_eq_some_iff.1 hu').1
        have cj := hcell j (by omega)
        rw [add_add, ha, add_at] at cj
        have e1 : a.off + i * 9 + j = a.off + (i * 9 + j) := by omega
        rw [e1]
        rw [← hu']
        simpa using cj
    obtain ⟨q, hq⟩ := choose_lt (n := len) one
    have hlen : ((List.range len).map q).length = len := by simp
    refine ⟨a.block, some a, cap, (List.range len).map q, by rw [hlen], ⟨fun h0 => ⟨a.off, by rw [← ha], fun j hj => ?_⟩, fun z hz => ?_, ?_⟩⟩
    · rw [hlen] at hj
      simpa using (hq j hj).1
    · obtain ⟨j, hj, rfl⟩ := List.mem_map.1 hz
      exact (hq j (List.mem_range.1 hj)).2
    · rw [hlen]
      omega
set_option maxRecDepth 100000 in
theorem open_zs {H : Type} {enc : TypeId × Value → H} {W : World} {base : Nat} {v : Value} {d : DataW H} {ps : List MemPlace} (hok : Value.okWide Tryz.prog W .any base 54 v) (h : DataW.Trod enc Tryz.prog W 0 (fun _ => true) true 54 v d ps)
    (hw : ∀ m ∈ d.weights Tryz.prog 54, m ≤ reachBytes) : ∃ (B : Nat) (ao : Option Addr) (cp : Nat) (l : List Int), v = .slice ao l.length cp ∧ Zs W B ao l := by
  obtain ⟨fuel, hf⟩ := h
  have hv : v.cells.toList = [v] := by
    rcases okWide_slice Tryz.underlying54 hok with ⟨a, b, c, rfl⟩
    rfl
  rw [hv] at hf
  obtain ⟨B, ao, cp, l, h1, h2, _⟩ := zs_of_trod hf hw
  exact ⟨B, ao, cp, l, h1, h2⟩
end Go.Proofs.YtbfafijfhaejmaaGreatDoor

namespace Go.Proofs.YtbfafijfhaejmaaGreatDoor
open Go.RowKit

theorem yieldsIf_load_pg {ops : Array Oper} {S : World → Prop} {op : Oper} {a : Act} {v0 v1 v2 v3 v4 v5 : Value} (hw : Region.wanted op (yielded ops a.tmps) = true) (x : Operand) (ho : op.op = .load 45 x)
    (b : Nat) (hx : a.eval x = .pointer (some ⟨b, 0, none⟩)) (hS : ∀ w, S w → Pag w b v0 v1 v2 v3 v4 v5) : YieldsIf Tryz.prog ops S op (.agg #[v0, v1, v2, v3, v4, v5]) a :=
  .inl ⟨hw, fun w hw' => by
    unfold execOp
    simp only [ho, hx, Instr.loadAt, Instr.sureAddr, Sem.run_bind, Sem.run_pure, Result.andThen_ok, load_page (hS w hw')]⟩
/-- An act in a variable. -/
structure Ob (w : World) (b : Nat) (z : Qo) : Prop where
  c0 : w.cell? ⟨b, 0, none⟩ = some (.int .i64 z.ask)
  c1 : w.cell? ⟨b, 1, none⟩ = some (.int .i64 z.page)
  c2 : w.cell? ⟨b, 2, none⟩ = some (.int .i64 z.pick)
  c3 : w.cell? ⟨b, 3, none⟩ = some (.int .i64 z.body.lsn)
  c4 : w.cell? ⟨b, 4, none⟩ = some (.int .i64 z.body.kind)
  c5 : w.cell? ⟨b, 5, none⟩ = some (.int .i64 z.body.level)
  c6 : w.cell? ⟨b, 6, none⟩ = some (.int .i64 z.body.right)
  c7 : w.cell? ⟨b, 7, none⟩ = some (.string z.body.high)
  c8 : w.cell? ⟨b, 8, none⟩ = some (.slice z.ab z.body.items.length z.cb)
  lt : b < w.heap.size
theorem Ob.kept {S : Nat → Prop} {w w' : World} {b : Nat} {z : Qo} (h : Ob w b z) (ho : Only S w w') (hS : ¬ S b) : Ob w' b z := by
  have k : ∀ (j : Nat) (v : Value), w.cell? ⟨b, j, none⟩ = some v → w'.cell? ⟨b, j, none⟩ = some v := fun j v hj => (ho.cell (p := ⟨b, j, none⟩) h.lt hS).trans hj
  exact ⟨k _ _ h.c0, k _ _ h.c1, k _ _ h.c2, k _ _ h.c3, k _ _ h.c4, k _ _ h.c5, k _ _ h.c6, k _ _ h.c7, k _ _ h.c8, Nat.lt_of_lt_of_le h.lt ho.size⟩
theorem Ob.new (w : World) (z : Qo) : Ob (w.alloc (.cells #[.int .i64 z.ask, .int .i64 z.page, .int .i64 z.pick, .int .i64 z.body.lsn, .int .i64 z.body.kind, .int .i64 z.body.level, .int .i64 z.body.right, .string z.body.high, .slice z.ab z.body.items.length z.cb] 47)) w.heap.size z := ⟨by simp, by simp, by simp, by simp, by simp, by simp, by simp, by simp, by simp, by simp⟩
/-- Two pools and the two variables that hold them; X the blocks of the law's own. -/
structure Sq (w W : World) (A B pa da la pb db lb : Nat) (X : Nat → Prop) (ta tb : Nat) (Ca Cb : Nat → Option Pg) (H : Nat) : Prop where
  tw : Tw w W pa da la pb db lb X ta tb Ca Cb H
  va : Tri W A (.pointer (some ⟨da, 0, none⟩)) (.pointer (some ⟨la, 0, none⟩)) (.pointer (some ⟨pa, 0, none⟩))
  vb : Tri W B (.pointer (some ⟨db, 0, none⟩)) (.pointer (some ⟨lb, 0, none⟩)) (.pointer (some ⟨pb, 0, none⟩))
  xa : X A
  xb : X B
theorem Sq.kept {w W W' : World} {A B pa da la pb db lb : Nat} {X X' Y : Nat → Prop} {ta tb : Nat} {Ca Cb : Nat → Option Pg} {H : Nat} (h : Sq w W A B pa da la pb db lb X ta tb Ca Cb H) (ho : Only Y W W') (hY : ∀ k, Y k → X k ∧ k ≠ A ∧ k ≠ B) (hX : ∀ k, X' k → X k ∨ W.heap.size ≤ k ∧ k < W'.heap.size) (ha : X' A) (hb : X' B) : Sq w W' A B pa da la pb db lb X' ta tb Ca Cb H :=
  ⟨h.tw.kept (ho.mono (fun k _ e => (hY k e).1)) hX, h.va.kept ho (fun e => (hY A e).2.1 rfl), h.vb.kept ho (fun e => (hY B e).2.2 rfl), ha, hb⟩
theorem Sq.more {w W W' : World} {A B pa da la pb db lb : Nat} {X : Nat → Prop} {ta tb : Nat} {Ca Cb : Nat → Option Pg} {H : Nat} (h : Sq w W A B pa da la pb db lb X ta tb Ca Cb H) (ho : Only (fun _ => False) W W') : Sq w W' A B pa da la pb db lb X ta tb Ca Cb H :=
  h.kept ho (fun _ e => e.elim) (fun _ e => .inl e) h.xa h.xb
theorem Sq.up {w W : World} {A B pa da la pb db lb : Nat} {X : Nat → Prop} {ta tb : Nat} {Ca Cb : Nat → Option Pg} {H : Nat} (h : Sq w W A B pa da la pb db lb X ta tb Ca Cb H) : Sq w W A B pa da la pb db lb X ta tb Ca Cb W.heap.size := ⟨h.tw.up, h.va, h.vb, h.xa, h.xb⟩
theorem Sq.down {w W : World} {A B pa da la pb db lb : Nat} {X X' : Nat → Prop} {ta tb : Nat} {Ca Cb : Nat → Option Pg} {H : Nat} (h : Sq w W A B pa da la pb db lb X ta tb Ca Cb H) (hX : ∀ k, X' k → X k) (ha : X' A) (hb : X' B) : Sq w W A B pa da la pb db lb X' ta tb Ca Cb H :=
  h.kept (Only.refl (fun _ => False) _) (fun _ e => e.elim) (fun k e => .inl (hX k e)) ha hb
/-- A new variable of the law's. -/
theorem Sq.var {w W : World} {A B pa da la pb db lb : Nat} {X : Nat → Prop} {ta tb : Nat} {Ca Cb : Nat → Option Pg} {H : Nat} (h : Sq w W A B pa da la pb db lb X ta tb Ca Cb H) (o : Obj) : Sq w (W.alloc o) A B pa da la pb db lb (fun k => X k ∨ k = W.heap.size) ta tb Ca Cb H :=
  h.kept (onlyA W o) (fun _ e => e.elim) (fun k e => by
    rcases e with e | e
    · exact .inl e
    · exact .inr ⟨by omega, by simp; omega⟩) (.inl h.xa) (.inl h.xb)
theorem sq_start {w W : World} {pa da la pb db lb : Nat} {Fa Fb : Nat → Prop} {A B : Nat} (h1 : Pw w W pa da la Fa 1 1 (fun _ => none) (fun _ => none)) (h2 : Pw w W pb db lb Fb 1 1 (fun _ => none) (fun _ => none)) (h3 : ∀ k, Fa k → ¬ Fb k) (ha : w.heap.size ≤ A ∧ ¬ Fa A ∧ ¬ Fb A) (hb : w.heap.size ≤ B ∧ ¬ Fa B ∧ ¬ Fb B)
    (va : Tri W A (.pointer (some ⟨da, 0, none⟩)) (.pointer (some ⟨la, 0, none⟩)) (.pointer (some ⟨pa, 0, none⟩))) (vb : Tri W B (.pointer (some ⟨db, 0, none⟩)) (.pointer (some ⟨lb, 0, none⟩)) (.pointer (some ⟨pb, 0, none⟩))) : Sq w W A B pa da la pb db lb (fun k => k = A ∨ k = B) 1 1 (fun _ => none) (fun _ => none) W.heap.size :=
  ⟨⟨⟨Fa, Fb, 1, _, 1, _, h1, h2, h3, fun k e => by
    rcases e with e | e <;> subst e
    · exact ha.2
    · exact hb.2, fun k e => (h2.lt k e).2⟩, fun k e => by
    rcases e with e | e <;> subst e
    · exact ⟨ha.1, va.lt⟩
    · exact ⟨hb.1, vb.lt⟩, h1.only⟩, va, vb, .inl rfl, .inr rfl⟩
theorem sq_appendA {w W : World} {A B pa da la pb db lb : Nat} {X : Nat → Prop} {ta tb H : Nat} {Ca Cb : Nat → Option Pg} (h : Sq w W A B pa da la pb db lb X ta tb Ca Cb H) (ht : ta ≤ 9000) :
    Calls Tryz.prog 18 #[.pointer (some ⟨la, 0, none⟩), .agg (nt.cells Loc.none)] W fun e w' => e = .returned (.tuple #[.int .i64 (ta : Int), .int .i64 0]) ∧ Sq w w' A B pa da la pb db lb X (ntl ta) tb Ca Cb H ∧ Only (Kx w X) W w' :=
  (tw_appendA h.tw ht).mono fun _ _ ⟨he, x1, x2⟩ => ⟨he, ⟨x1, h.va.kept x2 (fun e => e.1 h.xa), h.vb.kept x2 (fun e => e.1 h.xb), h.xa, h.xb⟩, x2⟩
theorem sq_setA {w W : World} {A B pa da la pb db lb : Nat} {X : Nat → Prop} {ta tb H : Nat} {Ca Cb : Nat → Option Pg} (h : Sq w W A B pa da la pb db lb X ta tb Ca Cb H) (n : Nat) (hn : n < 12) (pick : Int) (body : Pg) (Bb : Nat) (ab : Option Addr) (cb : Nat) (hS : Strs w Bb ab body.items) (hh : body.high.size ≤ 140737488355328) (hl : body.lsn < (ta : Int)) :
    Calls Tryz.prog 21 #[.pointer (some ⟨pa, 0, none⟩), .int .i64 (n : Int), .agg #[.int .i64 body.lsn, .int .i64 body.kind, .int .i64 body.level, .int .i64 body.right, .string body.high, .slice ab body.items.length cb], .int .i64 pick] W fun e w' =>
      e = .returned (.int .i64 body.setC) ∧ Sq w w' A B pa da la pb db lb X ta tb (setP Ca n body) Cb H ∧ Only (Kx w X) W w' :=
  (tw_setA h.tw n hn pick body Bb ab cb (hS.more h.tw.only) hS.lt hh hl).mono fun _ _ ⟨he, x1, x2⟩ => ⟨he, ⟨x1, h.va.kept x2 (fun e => e.1 h.xa), h.vb.kept x2 (fun e => e.1 h.xb), h.xa, h.xb⟩, x2⟩
theorem sq_fetchA {w W : World} {A B pa da la pb db lb : Nat} {X : Nat → Prop} {ta tb H : Nat} {Ca Cb : Nat → Option Pg} (h : Sq w W A B pa da la pb db lb X ta tb Ca Cb H) (n : Nat) (hn : n < 12) (pick : Int) (pg : Pg) (c : Int) (hp : fetP (Ca n) = pg) (hc : fetC (Ca n) = c) :
    Calls Tryz.prog 15 #[.pointer (some ⟨pa, 0, none⟩), .int .i64 (n : Int), .int .i64 pick] W fun e w' =>
      ∃ Bq aq cq, e = .returned (.tuple #[.agg #[.int .i64 pg.lsn, .int .i64 pg.kind, .int .i64 pg.level, .int .i64 pg.right, .string pg.high, .slice aq pg.items.length cq], .int .i64 c]) ∧ Strs w' Bq aq pg.items ∧ (0 < pg.items.length → W.heap.size ≤ Bq) ∧ Sq w w' A B pa da la pb db lb X ta tb Ca Cb H ∧ Only (Kx w X) W w' :=
  (tw_fetchA h.tw n hn pick pg c hp hc).mono fun _ _ ⟨Bq, aq, cq, he, y1, y2, x1, x2⟩ => ⟨Bq, aq, cq, he, y1, y2, ⟨x1, h.va.kept x2 (fun e => e.1 h.xa), h.vb.kept x2 (fun e => e.1 h.xb), h.xa, h.xb⟩, x2⟩
theorem sq_appendB {w W : World} {A B pa da la pb db lb : Nat} {X : Nat → Prop} {ta tb H : Nat} {Ca Cb : Nat → Option Pg} (h : Sq w W A B pa da la pb db lb X ta tb Ca Cb H) (ht : tb ≤ 9000) :
    Calls Tryz.prog 18 #[.pointer (some ⟨lb, 0, none⟩), .agg (nt.cells Loc.none)] W fun e w' => e = .returned (.tuple #[.int .i64 (tb : Int), .int .i64 0]) ∧ Sq w w' A B pa da la pb db lb X ta (ntl tb) Ca Cb w'.heap.size ∧ Only (fun k => Kx w X k ∧ k < H) W w' :=
  (tw_appendB h.tw ht).mono fun _ _ ⟨he, x1, x2⟩ => ⟨he, ⟨x1, h.va.kept x2 (fun e => e.1.1 h.xa), h.vb.kept x2 (fun e => e.1.1 h.xb), h.xa, h.xb⟩, x2⟩
theorem sq_setB {w W : World} {A B pa da la pb db lb : Nat} {X : Nat → Prop} {ta tb H : Nat} {Ca Cb : Nat → Option Pg} (h : Sq w W A B pa da la pb db lb X ta tb Ca Cb H) (n : Nat) (hn : n < 12) (pick : Int) (body : Pg) (Bb : Nat) (ab : Option Addr) (cb : Nat) (hS : Strs w Bb ab body.items) (hh : body.high.size ≤ 140737488355328) (hl : body.lsn < (tb : Int)) :
    Calls Tryz.prog 21 #[.pointer (some ⟨pb, 0, none⟩), .int .i64 (n : Int), .agg #[.int .i64 body.lsn, .int .i64 body.kind, .int .i64 body.level, .int .i64 body.right, .string body.high, .slice ab body.items.length cb], .int .i64 pick] W fun e w' =>
      e = .returned (.int .i64 body.setC) ∧ Sq w w' A B pa da la pb db lb X ta tb Ca (setP Cb n body) w'.heap.size ∧ Only (fun k => Kx w X k ∧ k < H) W w' :=
  (tw_setB h.tw n hn pick body Bb ab cb (hS.more h.tw.only) hS.lt hh hl).mono fun _ _ ⟨he, x1, x2⟩ => ⟨he, ⟨x1, h.va.kept x2 (fun e => e.1.1 h.xa), h.vb.kept x2 (fun e => e.1.1 h.xb), h.xa, h.xb⟩, x2⟩
theorem sq_fetchB {w W : World} {A B pa da la pb db lb : Nat} {X : Nat → Prop} {ta tb H : Nat} {Ca Cb : Nat → Option Pg} (h : Sq w W A B pa da la pb db lb X ta tb Ca Cb H) (n : Nat) (hn : n < 12) (pick : Int) (pg : Pg) (c : Int) (hp : fetP (Cb n) = pg) (hc : fetC (Cb n) = c) :
    Calls Tryz.prog 15 #[.pointer (some ⟨pb, 0, none⟩), .int .i64 (n : Int), .int .i64 pick] W fun e w' =>
      ∃ Bq aq cq, e = .returned (.tuple #[.agg #[.int .i64 pg.lsn, .int .i64 pg.kind, .int .i64 pg.level, .int .i64 pg.right, .string pg.high, .slice aq pg.items.length cq], .int .i64 c]) ∧ Strs w' Bq aq pg.items ∧ (0 < pg.items.length → W.heap.size ≤ Bq) ∧ Sq w w' A B pa da la pb db lb X ta tb Ca Cb w'.heap.size ∧ Only (fun k => Kx w X k ∧ k < H) W w' :=
  (tw_fetchB h.tw n hn pick pg c hp hc).mono fun _ _ ⟨Bq, aq, cq, he, y1, y2, x1, x2⟩ => ⟨Bq, aq, cq, he, y1, y2, ⟨x1, h.va.kept x2 (fun e => e.1.1 h.xa), h.vb.kept x2 (fun e => e.1.1 h.xb), h.xa, h.xb⟩, x2⟩
end Go.Proofs.YtbfafijfhaejmaaGreatDoor
