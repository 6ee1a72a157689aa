/- What With, Put and Out do. -/
import Derived.Test.YtebijheonkagfaaGreatDoorKPa
import Derived.Handy
import Derived.Laws.ResultCell
import Derived.Shelf.Strings.Trim
import Derived.Shelf.Strings.Repeat
import Derived.Shelf.Slices.Equal
import Derived.Ground.Names2Prog
import Derived.Shelf.Slices.Clone
import Derived.Shelf.Slices.Empties2
import Derived.Test.YtebijheonkagfaaGreatDoorProg
import Derived.Deep.Draws
import Derived.Maps.AppendAt
import Derived.Laws.OwnMore
import Derived.Lib.AppendZeros
import Derived.Deep.RegionWith
import Derived.Deep.DeepCutAuto
namespace Go.Proofs.YtebijheonkagfaaGreatDoor
open Go.RowKit
structure Strs (w : World) (B : Nat) (ao : Option Addr) (l : List ByteArray) : Prop where
  at_ : 0 < l.length → ∃ o, ao = some ⟨B, o, none⟩ ∧ ∀ j (h : j < l.length), w.cell? ⟨B, o + j, none⟩ = some (.string l[j])
  lt : 0 < l.length → B < w.heap.size
  len : l.length ≤ 8796093022207
  size : ∀ s ∈ l, s.size ≤ 140737488355328
theorem Strs.nil (w : World) (B : Nat) (ao : Option Addr) : Strs w B ao [] := ⟨fun h => absurd h (by simp), fun h => absurd h (by simp), by simp, fun _ h => by cases h⟩
theorem Strs.kept {S : Nat → Prop} {w w' : World} {B : Nat} {ao : Option Addr} {l : List ByteArray} (h : Strs w B ao l) (ho : Only S w w') (hS : 0 < l.length → ¬ S B) : Strs w' B ao l :=
  ⟨fun h0 => by
    obtain ⟨o, e, hc⟩ := h.at_ h0
    exact ⟨o, e, fun j hj => (ho.cell (p := ⟨B, o + j, none⟩) (h.lt h0) (hS h0)).trans (hc j hj)⟩, fun h0 => Nat.lt_of_lt_of_le (h.lt h0) ho.size, h.len, h.size⟩
theorem Strs.more {w w' : World} {B : Nat} {ao : Option Addr} {l : List ByteArray} (h : Strs w B ao l) (ho : Only (fun _ => False) w w') : Strs w' B ao l := h.kept ho (fun _ h => h)
theorem w64_w64 (a b : Int) : wrap64 (wrap64 a + b) = wrap64 (a + b) := by unfold wrap64; omega
theorem w64_bd (a : Int) : -9223372036854775808 ≤ wrap64 a ∧ wrap64 a < 9223372036854775808 := by unfold wrap64; omega
theorem isz_le {l : List ByteArray} (h : ∀ s ∈ l, s.size ≤ 140737488355328) : isz l ≤ 140737488355330 * l.length := by
  induction l with
  | nil => simp [isz]
  | cons s l ih =>
    rw [isz_cons]; have h1 := h s (by simp); have h2 := ih (fun t ht => h t (by simp [ht])); simp only [List.length_cons]
    omega
theorem onlyA (w : World) (o : Obj) : Only (fun _ => False) w (w.alloc o) := Only.alloc _ _ _
theorem o2 {a b c : World} (h : Only (fun _ => False) a b) (k : Only (fun _ => False) b c) : Only (fun _ => False) a c := h.trans k (fun _ _ h => h)
theorem ret_bool {a b : Bool} (h : a = b) : Ending.returned (.bool a) = .returned (.bool b) := by rw [h]
structure Pag (w : World) (b : Nat) (v0 v1 v2 v3 v4 v5 : Value) : Prop where
  c0 : w.cell? ⟨b, 0, none⟩ = some v0
  c1 : w.cell? ⟨b, 1, none⟩ = some v1
  c2 : w.cell? ⟨b, 2, none⟩ = some v2
  c3 : w.cell? ⟨b, 3, none⟩ = some v3
  c4 : w.cell? ⟨b, 4, none⟩ = some v4
  c5 : w.cell? ⟨b, 5, none⟩ = some v5
  f0 : w.frozen? ⟨b, 0, none⟩ = false
  f1 : w.frozen? ⟨b, 1, none⟩ = false
  f2 : w.frozen? ⟨b, 2, none⟩ = false
  f3 : w.frozen? ⟨b, 3, none⟩ = false
  f4 : w.frozen? ⟨b, 4, none⟩ = false
  f5 : w.frozen? ⟨b, 5, none⟩ = false
  lt : b < w.heap.size
theorem Pag.kept {S : Nat → Prop} {w w' : World} {b : Nat} {v0 v1 v2 v3 v4 v5 : Value} (h : Pag w b v0 v1 v2 v3 v4 v5) (ho : Only S w w') (hS : ¬ S b) : Pag w' b v0 v1 v2 v3 v4 v5 :=
  ⟨(ho.cell (p := ⟨b, 0, none⟩) h.lt hS).trans h.c0, (ho.cell (p := ⟨b, 1, none⟩) h.lt hS).trans h.c1, (ho.cell (p := ⟨b, 2, none⟩) h.lt hS).trans h.c2, (ho.cell (p := ⟨b, 3, none⟩) h.lt hS).trans h.c3, (ho.cell (p := ⟨b, 4, none⟩) h.lt hS).trans h.c4, (ho.cell (p := ⟨b, 5, none⟩) h.lt hS).trans h.c5,
   (ho.frozen (p := ⟨b, 0, none⟩) h.lt hS).trans h.f0, (ho.frozen (p := ⟨b, 1, none⟩) h.lt hS).trans h.f1, (ho.frozen (p := ⟨b, 2, none⟩) h.lt hS).trans h.f2, (ho.frozen (p := ⟨b, 3, none⟩) h.lt hS).trans h.f3, (ho.frozen (p := ⟨b, 4, none⟩) h.lt hS).trans h.f4, (ho.frozen (p := ⟨b, 5, none⟩) h.lt hS).trans h.f5, Nat.lt_of_lt_of_le h.lt ho.size⟩
theorem Pag.more {w w' : World} {b : Nat} {v0 v1 v2 v3 v4 v5 : Value} (h : Pag w b v0 v1 v2 v3 v4 v5) (ho : Only (fun _ => False) w w') : Pag w' b v0 v1 v2 v3 v4 v5 := h.kept ho (fun h => h)
theorem Pag.new (w : World) (v0 v1 v2 v3 v4 v5 : Value) : Pag (w.alloc (.cells #[v0, v1, v2, v3, v4, v5] 45)) w.heap.size v0 v1 v2 v3 v4 v5 :=
  ⟨by simp, by simp, by simp, by simp, by simp, by simp, by simp, by simp, by simp, by simp, by simp, by simp, by simp⟩
theorem Only.six (w : World) (b : Nat) (v0 v1 v2 v3 v4 v5 : Value) : Only (fun k => k = b) w ((((((w.setCell ⟨b, 0, none⟩ v0).setCell ⟨b, 1, none⟩ v1).setCell ⟨b, 2, none⟩ v2).setCell ⟨b, 3, none⟩ v3).setCell ⟨b, 4, none⟩ v4).setCell ⟨b, 5, none⟩ v5) := by
  have st : ∀ (W : World) (i : Nat) (v : Value), Only (fun k => k = b) W (W.setCell ⟨b, i, none⟩ v) := fun W i v => Only.setCell W ⟨b, i, none⟩ v rfl
  exact (((((st _ 0 _).trans (st _ 1 _) (fun _ _ h => h)).trans (st _ 2 _) (fun _ _ h => h)).trans (st _ 3 _) (fun _ _ h => h)).trans (st _ 4 _) (fun _ _ h => h)).trans (st _ 5 _) (fun _ _ h => h)
theorem Pag.six {w : World} {b : Nat} {u0 u1 u2 u3 u4 u5 : Value} (h : Pag w b u0 u1 u2 u3 u4 u5) (v0 v1 v2 v3 v4 v5 : Value) : Pag ((((((w.setCell ⟨b, 0, none⟩ v0).setCell ⟨b, 1, none⟩ v1).setCell ⟨b, 2, none⟩ v2).setCell ⟨b, 3, none⟩ v3).setCell ⟨b, 4, none⟩ v4).setCell ⟨b, 5, none⟩ v5) b v0 v1 v2 v3 v4 v5 := by
  have oth : ∀ (W : World) (i j : Nat) (v x : Value), i ≠ j → W.cell? ⟨b, j, none⟩ = some x → (W.setCell ⟨b, i, none⟩ v).cell? ⟨b, j, none⟩ = some x := fun W i j v x hij hx => (World.cell?_setCell_other _ _ _ _ (by intro e; injection e with _ e2; exact hij e2)).trans hx
  have same : ∀ (W : World) (i : Nat) (v x : Value), W.cell? ⟨b, i, none⟩ = some x → (W.setCell ⟨b, i, none⟩ v).cell? ⟨b, i, none⟩ = some v := fun W i v x hx => World.cell?_setCell_same _ _ _ hx
  have a1 := oth _ 0 1 v0 _ (by omega) h.c1; have a2 := oth _ 1 2 v1 _ (by omega) (oth _ 0 2 v0 _ (by omega) h.c2); have a3 := oth _ 2 3 v2 _ (by omega) (oth _ 1 3 v1 _ (by omega) (oth _ 0 3 v0 _ (by omega) h.c3)); have a4 := oth _ 3 4 v3 _ (by omega) (oth _ 2 4 v2 _ (by omega) (oth _ 1 4 v1 _ (by omega) (oth _ 0 4 v0 _ (by omega) h.c4))); have a5 := oth _ 4 5 v4 _ (by omega) (oth _ 3 5 v3 _ (by omega) (oth _ 2 5 v2 _ (by omega) (oth _ 1 5 v1 _ (by omega) (oth _ 0 5 v0 _ (by omega) h.c5)))); have b0 := same _ 0 v0 _ h.c0; have b1 := same _ 1 v1 _ a1; have b2 := same _ 2 v2 _ a2; have b3 := same _ 3 v3 _ a3; have b4 := same _ 4 v4 _ a4; have b5 := same _ 5 v5 _ a5
  refine ⟨oth _ 5 0 _ _ (by omega) (oth _ 4 0 _ _ (by omega) (oth _ 3 0 _ _ (by omega) (oth _ 2 0 _ _ (by omega) (oth _ 1 0 _ _ (by omega) b0)))), oth _ 5 1 _ _ (by omega) (oth _ 4 1 _ _ (by omega) (oth _ 3 1 _ _ (by omega) (oth _ 2 1 _ _ (by omega) b1))),
    oth _ 5 2 _ _ (by omega) (oth _ 4 2 _ _ (by omega) (oth _ 3 2 _ _ (by omega) b2)), oth _ 5 3 _ _ (by omega) (oth _ 4 3 _ _ (by omega) b3), oth _ 5 4 _ _ (by omega) b4, b5, ?_, ?_, ?_, ?_, ?_, ?_, ?_⟩
  · simpa using h.f0
  · simpa using h.f1
  · simpa using h.f2
  · simpa using h.f3
  · simpa using h.f4
  · simpa using h.f5
  · simpa using h.lt
theorem Tryz.cellsPage : Tryz.prog.cellsOf 45 = 6 := by kernel_rfl
theorem load_page {w : World} {b : Nat} {v0 v1 v2 v3 v4 v5 : Value} (h : Pag w b v0 v1 v2 v3 v4 v5) : (loadVar 45 ⟨b, 0, none⟩).run Tryz.prog w = .ok (.agg #[v0, v1, v2, v3, v4, v5]) w := by
  have c0 := h.c0; have c1 := h.c1; have c2 := h.c2; have c3 := h.c3; have c4 := h.c4; have c5 := h.c5
  simp [loadVar, go_sem, c0, c1, c2, c3, c4, c5]
theorem results_page {fn : Func} {p u : Tmp} (h : fn.results = #[.cell p 45, .tmp u]) {tmps : Array Value} {w : World} {b : Nat} {v0 v1 v2 v3 v4 v5 : Value} (hp : tmps.getD p undef = .pointer (some ⟨b, 0, none⟩)) (hP : Pag w b v0 v1 v2 v3 v4 v5) :
    (results fn tmps).run Tryz.prog w = .ok (.tuple #[.agg #[v0, v1, v2, v3, v4, v5], tmps.getD u undef]) w := by
  have e : (asAddr (.pointer (some ⟨b, 0, none⟩))).run Tryz.prog w = .ok ⟨b, 0, none⟩ w := rfl; rw [results_cell_tmp h, hp, e]; simp only [Result.andThen, load_page hP]
set_option maxRecDepth 100000 in
set_option maxHeartbeats 800000 in
theorem psize_any (w : World) (a k v r : Int) (h : ByteArray) (B cp : Nat) (ao : Option Addr) (l : List ByteArray) (hS : Strs w B ao l) (hh : h.size ≤ 140737488355328) :
    Calls Tryz.prog 153 #[.agg #[.int .i64 a, .int .i64 k, .int .i64 v, .int .i64 r, .string h, .slice ao l.length cp]] w fun e w' => e = .returned (.int .i64 (wrap64 (20 + h.size + isz l))) ∧ Only (fun _ => False) w w' := by
  have hlen := hS.len; have HS := hide hS; clear hS
  go_enter Tryz.func153, Tryz.ntmps153
  go_wp2_with fail
  have HO := hide (onlyA w (.cells #[.int .i64 a, .int .i64 k, .int .i64 v, .int .i64 r, .string h, .slice ao l.length cp] 45))
  go_loop [3, 13] (fun x y => ∃ (j : Nat) (q : Int), j ≤ l.length ∧ y = .int .i64 (j : Int) ∧ x = .int .i64 q ∧ -9223372036854775808 ≤ q ∧ q < 9223372036854775808 ∧ Hid (q = wrap64 (20 + h.size + isz (l.take j)))) (fun _ y => l.length - (intOf y).toNat)
  case atStart => exact ⟨0, 20 + h.size, by omega, rfl, rfl, by omega, by omega, by unfold Hid wrap64; simp [isz]; omega⟩
  case round =>
    obtain ⟨j, q, hj, rfl, rfl, q0, q1, HQ⟩ := hrel
    by_cases hlt : j < l.length
    · obtain ⟨o1, e1, c1⟩ := (HS.out.more HO.out).at_ (by omega)
      have k1 := c1 j hlt; have hz := HS.out.size l[j] (List.getElem_mem hlt)
      have HT : Hid (wrap64 (20 + h.size + isz (l.take (j + 1))) = wrap64 (q + (2 + (l[j].size : Int)))) := by
        unfold Hid; rw [HQ.out, w64_w64, isz_snoc l j hlt]
        congr 1
        omega
      have hj1 : (j : Int) < (l.length : Int) := by omega
      obtain ⟨s, hs⟩ : ∃ s, l[j] = s := ⟨_, rfl⟩; rw [hs] at k1 hz HT; clear c1 hs; subst e1
      go_wp2_with fail
      go_round
      case rel => exact ⟨j + 1, _, by omega, by go_num, rfl, (w64_bd _).1, (w64_bd _).2, HT.out.symm⟩
      case measure => simp [intOf]; omega
    · have e : l.take j = l := List.take_of_length_le (by omega)
      rw [e] at HQ
      go_wp2_with fail
      go_ret
      exact ⟨ret_int HQ.out, HO.out⟩
set_option maxRecDepth 100000 in
set_option maxHeartbeats 800000 in
theorem ysize_any (w : World) (a k v r : Int) (h : ByteArray) (B cp : Nat) (ao : Option Addr) (l : List ByteArray) (hS : Strs w B ao l) (hh : h.size ≤ 140737488355328) :
    Calls Tryz.prog 95 #[.agg #[.int .i64 a, .int .i64 k, .int .i64 v, .int .i64 r, .string h, .slice ao l.length cp]] w fun e w' => e = .returned (.int .i64 (wrap64 (20 + h.size + isz l))) ∧ Only (fun _ => False) w w' := by
  have hlen := hS.len; have HS := hide hS; clear hS
  go_enter Tryz.func95, Tryz.ntmps95
  go_wp2_with fail
  have HO := hide (onlyA w (.cells #[.int .i64 a, .int .i64 k, .int .i64 v, .int .i64 r, .string h, .slice ao l.length cp] 45))
  go_loop [3, 4] (fun x y => ∃ (j : Nat) (q : Int), j ≤ l.length ∧ y = .int .i64 (j : Int) ∧ x = .int .i64 q ∧ -9223372036854775808 ≤ q ∧ q < 9223372036854775808 ∧ Hid (q = wrap64 (20 + h.size + isz (l.take j)))) (fun _ y => l.length - (intOf y).toNat)
  case atStart => exact ⟨0, 20 + h.size, by omega, rfl, rfl, by omega, by omega, by unfold Hid wrap64; simp [isz]; omega⟩
  case round =>
    obtain ⟨j, q, hj, rfl, rfl, q0, q1, HQ⟩ := hrel
    by_cases hlt : j < l.length
    · obtain ⟨o1, e1, c1⟩ := (HS.out.more HO.out).at_ (by omega)
      have k1 := c1 j hlt; have hz := HS.out.size l[j] (List.getElem_mem hlt)
      have HT : Hid (wrap64 (20 + h.size + isz (l.take (j + 1))) = wrap64 (wrap64 (q + 2) + (l[j].size : Int))) := by
        unfold Hid; rw [HQ.out, w64_w64, Int.add_assoc (wrap64 _), w64_w64, isz_snoc l j hlt]
        congr 1
        omega
      have hj1 : (j : Int) < (l.length : Int) := by omega
      obtain ⟨s, hs⟩ : ∃ s, l[j] = s := ⟨_, rfl⟩; rw [hs] at k1 hz HT; clear c1 hs; subst e1
      go_wp2_with fail
      go_round
      case rel => exact ⟨j + 1, _, by omega, by go_num, rfl, (w64_bd _).1, (w64_bd _).2, HT.out.symm⟩
      case measure => simp [intOf]; omega
    · have e : l.take j = l := List.take_of_length_le (by omega)
      rw [e] at HQ
      go_wp2_with fail
      go_ret
      exact ⟨ret_int HQ.out, HO.out⟩
theorem w64_few {h : ByteArray} {l : List ByteArray} (hs : ∀ s ∈ l, s.size ≤ 140737488355328) (hh : h.size ≤ 140737488355328) (hl : l.length ≤ 255) : wrap64 (20 + h.size + isz l) = 20 + h.size + isz l := by
  have := isz_le hs; unfold wrap64
  omega
set_option maxRecDepth 100000 in
set_option maxHeartbeats 800000 in
theorem tooLong_any (w : World) (a k v r : Int) (h : ByteArray) (B cp : Nat) (ao : Option Addr) (l : List ByteArray) (hS : Strs w B ao l) (hh : h.size ≤ 140737488355328) :
    Calls Tryz.prog 119 #[.agg #[.int .i64 a, .int .i64 k, .int .i64 v, .int .i64 r, .string h, .slice ao l.length cp]] w fun e w' => e = .returned (.bool (decide (255 < l.length ∨ 512 < 20 + h.size + isz l))) ∧ Only (fun _ => False) w w' := by
  have hlen := hS.len; have HS := hide hS; clear hS; have HO := hide (onlyA w (.cells #[.int .i64 a, .int .i64 k, .int .i64 v, .int .i64 r, .string h, .slice ao l.length cp] 45))
  by_cases hn : 255 < l.length
  · have HR : Hid (decide (255 < l.length ∨ 512 < 20 + h.size + isz l) = true) := decide_eq_true (.inl hn)
    rw [HR.out]
    go_enter Tryz.func119, Tryz.ntmps119
    go_wp2_with fail
    go_ret
    exact ⟨rfl, HO.out⟩
  · have HZ := hide (w64_few HS.out.size hh (by omega))
    have hbb := isz_le HS.out.size; obtain ⟨z, hz⟩ : ∃ z : Nat, 20 + h.size + isz l = z := ⟨_, rfl⟩
    have hz2 : (20 + h.size + isz l : Int) = z := by omega
    rw [hz2] at HZ; rw [hz]
    by_cases hc : 512 < z
    · have HR : Hid (decide (255 < l.length ∨ 512 < z) = true) := decide_eq_true (.inr hc)
      rw [HR.out]
      go_enter Tryz.func119, Tryz.ntmps119
      go_wp2_with fail
      refine (psize_any _ a k v r h B cp ao l (HS.out.more HO.out) hh).mono ?_; rw [hz2, HZ.out]; rintro e w1 ⟨rfl, ho1⟩; have HO1 := hide (o2 HO.out ho1); clear ho1
      go_wp2_with fail
      go_ret
      exact ⟨ret_bool (by simp; omega), HO1.out⟩
    · have HR : Hid (decide (255 < l.length ∨ 512 < z) = false) := decide_eq_false (by omega)
      rw [HR.out]
      go_enter Tryz.func119, Tryz.ntmps119
      go_wp2_with fail
      refine (psize_any _ a k v r h B cp ao l (HS.out.more HO.out) hh).mono ?_; rw [hz2, HZ.out]; rintro e w1 ⟨rfl, ho1⟩; have HO1 := hide (o2 HO.out ho1); clear ho1
      go_wp2_with fail
      go_ret
      exact ⟨ret_bool (by simp; omega), HO1.out⟩
end Go.Proofs.YtebijheonkagfaaGreatDoor
namespace Go.Proofs
open Go.Shelf
def Tryz.lays160_ren : Go.Shelf.Ren := ⟨fun | 160 => 108 | 232 => 133 | 231 => 132 | 227 => 134 | 234 => 136 | 233 => 135 | 236 => 138 | 235 => 137 | 228 => 167 | 271 => 170 | 151 => 169 | 197 => 168 | 120 => 184 | 152 => 183 | 260 => 182 | 137 => 186 | 119 => 187 | 224 => 188 | 225 => 189 | 217 => 190 | 266 => 191 | n => n, fun | 9 => 9 | 4 => 4 | 3 => 3 | 5 => 5 | 117 => 184 | 116 => 183 | 0 => 0 | 124 => 187 | 21 => 21 | 105 => 211 | 46 => 125 | 119 => 230 | 139 => 233 | 138 => 232 | n => n, fun | 3 => 1 | 4 => 2 | n => n⟩
theorem Tryz.lays160 : Go.Proofs.Lays.n160 Tryz.prog Tryz.lays160_ren := {
  mixed := by kernel_rfl
  f119 := Tryz.func187.trans (congrArg some (by kernel_rfl))
  f120 := Tryz.func184.trans (congrArg some (by kernel_rfl))
  f137 := Tryz.func186.trans (congrArg some (by kernel_rfl))
  f151 := Tryz.func169.trans (congrArg some (by kernel_rfl))
  f152 := Tryz.func183.trans (congrArg some (by kernel_rfl))
  f160 := Tryz.func108.trans (congrArg some (by kernel_rfl))
  f197 := Tryz.func168.trans (congrArg some (by kernel_rfl))
  f217 := Tryz.func190.trans (congrArg some (by kernel_rfl))
  f224 := Tryz.func188.trans (congrArg some (by kernel_rfl))
  f225 := Tryz.func189.trans (congrArg some (by kernel_rfl))
  f227 := Tryz.func134.trans (congrArg some (by kernel_rfl))
  f228 := Tryz.func167.trans (congrArg some (by kernel_rfl))
  f231 := Tryz.func132.trans (congrArg some (by kernel_rfl))
  f232 := Tryz.func133.trans (congrArg some (by kernel_rfl))
  f233 := Tryz.func135.trans (congrArg some (by kernel_rfl))
  f234 := Tryz.func136.trans (congrArg some (by kernel_rfl))
  f235 := Tryz.func137.trans (congrArg some (by kernel_rfl))
  f236 := Tryz.func138.trans (congrArg some (by kernel_rfl))
  f260 := Tryz.func182.trans (congrArg some (by kernel_rfl))
  f266 := Tryz.func191.trans (congrArg some (by kernel_rfl))
  f271 := Tryz.func170.trans (congrArg some (by kernel_rfl))
  t0 := Tryz.underlying0
  a0 := Tryz.isAgg0
  z0 := Tryz.sizeOf0
  v0 := Tryz.zeroValue0
  t3 := Tryz.underlying3
  a3 := Tryz.isAgg3
  z3 := Tryz.sizeOf3
  v3 := Tryz.zeroValue3
  t4 := Tryz.underlying4
  a4 := Tryz.isAgg4
  z4 := Tryz.sizeOf4
  v4 := Tryz.zeroValue4
  t5 := Tryz.underlying5
  a5 := Tryz.isAgg5
  z5 := Tryz.sizeOf5
  v5 := Tryz.zeroValue5
  t9 := Tryz.underlying9
  a9 := Tryz.isAgg9
  z9 := Tryz.sizeOf9
  v9 := Tryz.zeroValue9
  t21 := Tryz.underlying21
  a21 := Tryz.isAgg21
  z21 := Tryz.sizeOf21
  v21 := Tryz.zeroValue21
  t46 := Tryz.underlying125
  a46 := Tryz.isAgg125
  z46 := Tryz.sizeOf125
  v46 := Tryz.zeroValue125
  t105 := Tryz.underlying211
  a105 := Tryz.isAgg211
  z105 := Tryz.sizeOf211
  v105 := Tryz.zeroValue211
  t116 := Tryz.underlying183
  a116 := Tryz.isAgg183
  z116 := Tryz.sizeOf183
  t117 := Tryz.underlying184
  a117 := Tryz.isAgg184
  z117 := Tryz.sizeOf184
  v117 := Tryz.zeroValue184
  t119 := Tryz.underlying230
  a119 := Tryz.isAgg230
  z119 := Tryz.sizeOf230
  t124 := Tryz.underlying187
  a124 := Tryz.isAgg187
  z124 := Tryz.sizeOf187
  v124 := Tryz.zeroValue187
  t138 := Tryz.underlying232
  a138 := Tryz.isAgg232
  z138 := Tryz.sizeOf232
  v138 := Tryz.zeroValue232
  t139 := Tryz.underlying233
  a139 := Tryz.isAgg233
  z139 := Tryz.sizeOf233
  v139 := Tryz.zeroValue233
  g3 := by kernel_rfl
  g4 := by kernel_rfl }
open Go.RowKit in
theorem Tryz.strings_Trim_one (s : ByteArray) (c : UInt8) (hc : c.toNat < 128) (w : World) (hs : s.size ≤ 9223372036854775807) :
    Calls Tryz.prog 108 #[.string s, .string ⟨#[c]⟩] w fun e w' => e = .returned (.string ⟨(Lib.trimB s.data.toList c).toArray⟩) ∧ (w' = w ∨ w' = w.drew) := Any.strings_Trim_one Tryz.lays160 s c hc w hs
def Tryz.lays105_ren : Go.Shelf.Ren := ⟨fun | 105 => 42 | 212 => 77 | 99 => 78 | 165 => 79 | 166 => 80 | 170 => 81 | 169 => 82 | 263 => 101 | 264 => 102 | 206 => 103 | 240 => 104 | 241 => 105 | 276 => 129 | 277 => 130 | n => n, fun | 9 => 9 | 3 => 3 | 4 => 4 | 20 => 20 | 0 => 0 | 46 => 125 | 109 => 126 | 5 => 5 | 72 => 131 | 76 => 135 | 51 => 140 | 146 => 149 | 53 => 151 | 148 => 152 | 70 => 129 | 37 => 80 | 75 => 134 | 127 => 154 | 164 => 176 | 80 => 137 | n => n, fun | n => n⟩
theorem Tryz.lays105 : Go.Proofs.Lays.n105 Tryz.prog Tryz.lays105_ren := {
  mixed := by kernel_rfl
  f99 := Tryz.func78.trans (congrArg some (by kernel_rfl))
  f105 := Tryz.func42.trans (congrArg some (by kernel_rfl))
  f165 := Tryz.func79.trans (congrArg some (by kernel_rfl))
  f166 := Tryz.func80.trans (congrArg some (by kernel_rfl))
  f169 := Tryz.func82.trans (congrArg some (by kernel_rfl))
  f170 := Tryz.func81.trans (congrArg some (by kernel_rfl))
  f206 := Tryz.func103.trans (congrArg some (by kernel_rfl))
  f212 := Tryz.func77.trans (congrArg some (by kernel_rfl))
  f240 := Tryz.func104.trans (congrArg some (by kernel_rfl))
  f241 := Tryz.func105.trans (congrArg some (by kernel_rfl))
  f263 := Tryz.func101.trans (congrArg some (by kernel_rfl))
  f264 := Tryz.func102.trans (congrArg some (by kernel_rfl))
  f276 := Tryz.func129.trans (congrArg some (by kernel_rfl))
  f277 := Tryz.func130.trans (congrArg some (by kernel_rfl))
  t0 := Tryz.underlying0
  a0 := Tryz.isAgg0
  z0 := Tryz.sizeOf0
  v0 := Tryz.zeroValue0
  t3 := Tryz.underlying3
  a3 := Tryz.isAgg3
  z3 := Tryz.sizeOf3
  v3 := Tryz.zeroValue3
  t4 := Tryz.underlying4
  a4 := Tryz.isAgg4
  z4 := Tryz.sizeOf4
  v4 := Tryz.zeroValue4
  t5 := Tryz.underlying5
  a5 := Tryz.isAgg5
  z5 := Tryz.sizeOf5
  v5 := Tryz.zeroValue5
  t9 := Tryz.underlying9
  a9 := Tryz.isAgg9
  z9 := Tryz.sizeOf9
  v9 := Tryz.zeroValue9
  t20 := Tryz.underlying20
  a20 := Tryz.isAgg20
  z20 := Tryz.sizeOf20
  v20 := Tryz.zeroValue20
  t37 := Tryz.underlying80
  a37 := Tryz.isAgg80
  z37 := Tryz.sizeOf80
  v37 := Tryz.zeroValue80
  t46 := Tryz.underlying125
  a46 := Tryz.isAgg125
  z46 := Tryz.sizeOf125
  v46 := Tryz.zeroValue125
  t51 := Tryz.underlying140
  a51 := Tryz.isAgg140
  z51 := Tryz.sizeOf140
  v51 := Tryz.zeroValue140
  t53 := Tryz.underlying151
  a53 := Tryz.isAgg151
  z53 := Tryz.sizeOf151
  v53 := Tryz.zeroValue151
  t70 := Tryz.underlying129
  a70 := Tryz.isAgg129
  z70 := Tryz.sizeOf129
  v70 := Tryz.zeroValue129
  t72 := Tryz.underlying131
  a72 := Tryz.isAgg131
  z72 := Tryz.sizeOf131
  v72 := Tryz.zeroValue131
  t75 := Tryz.underlying134
  a75 := Tryz.isAgg134
  z75 := Tryz.sizeOf134
  v75 := Tryz.zeroValue134
  t76 := Tryz.underlying135
  a76 := Tryz.isAgg135
  z76 := Tryz.sizeOf135
  v76 := Tryz.zeroValue135
  t109 := Tryz.underlying126
  a109 := Tryz.isAgg126
  z109 := Tryz.sizeOf126
  v109 := Tryz.zeroValue126
  t127 := Tryz.underlying154
  a127 := Tryz.isAgg154
  z127 := Tryz.sizeOf154
  v127 := Tryz.zeroValue154
  t146 := Tryz.underlying149
  a146 := Tryz.isAgg149
  z146 := Tryz.sizeOf149
  v146 := Tryz.zeroValue149
  t148 := Tryz.underlying152
  a148 := Tryz.isAgg152
  z148 := Tryz.sizeOf152
  v148 := Tryz.zeroValue152
  t164 := Tryz.underlying176
  a164 := Tryz.isAgg176
  z164 := Tryz.sizeOf176
  v164 := Tryz.zeroValue176 }
theorem Tryz.Builder_Extra_105 : Builder.Extra Tryz.prog Tryz.lays105_ren := {
  sizeBuilder := by kernel_rfl
  liesBuilder := by kernel_rfl
  t5 := Tryz.underlying5
  a5 := Tryz.isAgg5
  z5 := Tryz.sizeOf5
  v5 := Tryz.zeroValue5
  infoByte := by kernel_rfl
  cellsByte := by kernel_rfl
  sizeByte := by kernel_rfl
  neB5 := by decide }
open Go.RowKit Go.Lib in
theorem Tryz.strings_Repeat (s : ByteArray) (c : Nat) (w : World) (hc : c ≤ 9223372036854775807) (hlen : s.size * c ≤ 140737488355328) :
    Calls Tryz.prog 42 #[.string s, .int .i64 c] w fun e w' => e = .returned (.string ⟨(Lib.repeatL s.data.toList c).toArray⟩) ∧ Below w.heap.size w w' := Any.strings_Repeat Tryz.lays105 Tryz.Builder_Extra_105 s c w hc hlen
def Tryz.laysNm216_ren : Go.Shelf.Ren := ⟨fun | 16 => 83 | n => n, fun | 24 => 43 | 9 => 9 | 4 => 4 | n => n, fun | n => n⟩
theorem Tryz.laysNm216 : Go.Proofs.Lays2.n16 Tryz.prog Tryz.laysNm216_ren := {
  mixed := by kernel_rfl
  f16 := Tryz.func83.trans (congrArg some (by kernel_rfl))
  t4 := Tryz.underlying4
  a4 := Tryz.isAgg4
  z4 := Tryz.sizeOf4
  v4 := Tryz.zeroValue4
  t9 := Tryz.underlying9
  a9 := Tryz.isAgg9
  z9 := Tryz.sizeOf9
  v9 := Tryz.zeroValue9
  t24 := Tryz.underlying43
  a24 := Tryz.isAgg43
  z24 := Tryz.sizeOf43
  v24 := Tryz.zeroValue43
  i9 := by kernel_rfl }
open Go.RowKit Go.Lib in
theorem Tryz.slices_Clone_string (b off n c : Nat) (zs : List ByteArray) (w : World) (hz : n ≤ zs.length) (hbig : n * 16 ≤ 140737488355328) (hc : ∀ j, j < zs.length → w.cell? ⟨b, off + j, none⟩ = some (.string (zs.getD j ByteArray.empty))) :
    Calls Tryz.prog 83 #[.slice (some ⟨b, off, none⟩) n c] w fun e w' => ∃ v', e = .returned v' ∧ w'.ownsRow w.heap.size 9 1 v' n ((zs.take n).map (Value.string)) ∧ v' ≠ .slice none 0 0 ∧ Below w.heap.size w w' := Any.slices_Clone_string Tryz.laysNm216 b off n c zs w hz hbig hc
open Go.RowKit Go.Lib in
theorem Tryz.slices_Clone_string_nil (n c : Nat) (w : World) :
    Calls Tryz.prog 83 #[.slice none n c] w fun e w' => e = .returned (.slice none 0 0) ∧ w' = w := Any.slices_Clone_string_nil Tryz.laysNm216 n c w
open Go.RowKit Go.Lib in
theorem Tryz.slices_Clone_string_zero (a : Addr) (c : Nat) (w : World) :
    Calls Tryz.prog 83 #[.slice (some a) 0 c] w fun e w' => ∃ v', e = .returned v' ∧ w'.ownsRow w.heap.size 9 1 v' 0 [] ∧ v' ≠ .slice none 0 0 ∧ Below w.heap.size w w' := Any.slices_Clone_string_zero Tryz.laysNm216 a c w
end Go.Proofs
namespace Go.Proofs.YtebijheonkagfaaGreatDoor
open Go.RowKit
theorem onlyN (w : World) (n : Nat) : Only (fun _ => False) w (w.drewN n) := ⟨rfl, rfl, rfl, Nat.le_refl _, fun _ _ _ => rfl⟩
theorem getD_of {l : List ByteArray} {j : Nat} (h : j < l.length) : l.getD j ByteArray.empty = l[j] := by simp [List.getD_eq_getElem?_getD, h]
theorem ba_toList {s t : ByteArray} (h : s.toList = t.toList) : s = t := by
  rw [ByteArray.toList_eq, ByteArray.toList_eq] at h; obtain ⟨⟨l⟩⟩ := s; obtain ⟨⟨m⟩⟩ := t
  simp at h
  rw [h]
set_option maxRecDepth 100000 in
set_option maxHeartbeats 800000 in
theorem inRange_any (w : World) (a k v r : Int) (h : ByteArray) (cp n : Nat) (ao : Option Addr) :
    Calls Tryz.prog 118 #[.agg #[.int .i64 a, .int .i64 k, .int .i64 v, .int .i64 r, .string h, .slice ao n cp]] w fun e w' => e = .returned (.bool (decide (0 ≤ a ∧ 1 ≤ k ∧ k ≤ 3 ∧ 0 ≤ v ∧ v ≤ 255 ∧ 0 ≤ r ∧ r ≤ 4294967295))) ∧ Only (fun _ => False) w w' := by
  have HO := hide (onlyA w (.cells #[.int .i64 a, .int .i64 k, .int .i64 v, .int .i64 r, .string h, .slice ao n cp] 45))
  go_enter Tryz.func118, Tryz.ntmps118
  go_wp2_with fail
  all_goals go_ret
  all_goals exact ⟨ret_bool (by rw [Bool.eq_iff_iff]; first | (simp; done) | (simp; omega)), HO.out⟩
set_option maxRecDepth 100000 in
set_option maxHeartbeats 1600000 in
theorem ysame_any (w : World) (a k v r a' k' v' r' : Int) (h h' : ByteArray) (B B' cp cp' : Nat) (ao ao' : Option Addr) (l l' : List ByteArray) (hS : Strs w B ao l) (hS' : Strs w B' ao' l') :
    Calls Tryz.prog 13 #[.agg #[.int .i64 a, .int .i64 k, .int .i64 v, .int .i64 r, .string h, .slice ao l.length cp], .agg #[.int .i64 a', .int .i64 k', .int .i64 v', .int .i64 r', .string h', .slice ao' l'.length cp']] w fun e w' =>
      e = .returned (.bool (decide (a = a' ∧ k = k' ∧ v = v' ∧ r = r' ∧ h = h' ∧ l = l'))) ∧ Only (fun _ => False) w w' := by
  have HO := hide (o2 (onlyA w (.cells #[.int .i64 a, .int .i64 k, .int .i64 v, .int .i64 r, .string h, .slice ao l.length cp] 45)) (onlyA _ (.cells #[.int .i64 a', .int .i64 k', .int .i64 v', .int .i64 r', .string h', .slice ao' l'.length cp'] 45))); have HP := hide ((Pag.new w (.int .i64 a) (.int .i64 k) (.int .i64 v) (.int .i64 r) (.string h) (.slice ao l.length cp)).more (onlyA _ (.cells #[.int .i64 a', .int .i64 k', .int .i64 v', .int .i64 r', .string h', .slice ao' l'.length cp'] 45))); have HQ := hide (Pag.new (w.alloc (.cells #[.int .i64 a, .int .i64 k, .int .i64 v, .int .i64 r, .string h, .slice ao l.length cp] 45)) (.int .i64 a') (.int .i64 k') (.int .i64 v') (.int .i64 r') (.string h') (.slice ao' l'.length cp')); have hl1 := hS.len; have hl2 := hS'.len; have HS := hide hS; have HS' := hide hS'; clear hS hS'
  by_cases hE : a = a' ∧ k = k' ∧ v = v' ∧ r = r' ∧ h = h' ∧ l.length = l'.length
  · obtain ⟨rfl, rfl, rfl, rfl, rfl, hn⟩ := hE
    rw [← hn] at HO HP HQ ⊢; have HNN := hide hn; clear hl2; have hl2 : l'.length = l.length := hn.symm; clear hn; have HL2 := hide hl2; clear hl2
    go_enter Tryz.func13, Tryz.ntmps13
    go_wp2_with fail
    go_loopw [5] (fun y wr => ∃ (j : Nat), j ≤ l.length ∧ y = .int .i64 (j : Int) ∧ Hid (∀ i (h : i < l.length) (h' : i < l'.length), i < j → l[i] = l'[i]) ∧ Hid (Only (fun _ => False) ((w.alloc (.cells #[.int .i64 a, .int .i64 k, .int .i64 v, .int .i64 r, .string h, .slice ao l.length cp] 45)).alloc (.cells #[.int .i64 a, .int .i64 k, .int .i64 v, .int .i64 r, .string h, .slice ao' l.length cp'] 45)) wr)) (fun y _ => l.length - (intOf y).toNat)
    case atStart => exact ⟨0, by omega, rfl, hide (fun i _ _ h => by omega), hide (Only.refl _ _)⟩
    case round =>
      obtain ⟨j, hj, rfl, HE, HW⟩ := hrel; obtain ⟨p0, p1, p2, p3, p4, p5, g0, g1, g2, g3, g4, g5, gl⟩ := HP.out.more HW.out; obtain ⟨q0, q1, q2, q3, q4, q5, t0, t1, t2, t3, t4, t5, tl⟩ := HQ.out.more HW.out
      have hsz : (w.alloc (.cells #[.int .i64 a, .int .i64 k, .int .i64 v, .int .i64 r, .string h, .slice ao l.length cp] 45)).heap.size = w.heap.size + 1 := by simp
      rw [hsz] at q0 q1 q2 q3 q4 q5 t0 t1 t2 t3 t4 t5 tl; clear hsz g0 g1 g2 g3 g4 g5 t0 t1 t2 t3 t4 t5 p0 p1 p2 p3 p4 q0 q1 q2 q3 q4
      by_cases hlt : j < l.length
      · obtain ⟨o1, e1, c1⟩ := (HS.out.more (o2 HO.out HW.out)).at_ (by omega)
        obtain ⟨o2', e2, c2⟩ := (HS'.out.more (o2 HO.out HW.out)).at_ (by have := HNN.out; omega); have k1 := c1 j hlt
        have hjl : j < l'.length := by have := HNN.out; omega
        have k2 := c2 j hjl
        have hj1 : (j : Int) < (l.length : Int) := by omega
        obtain ⟨s, hs⟩ : ∃ s, l[j] = s := ⟨_, rfl⟩; obtain ⟨s', hs'⟩ : ∃ s', l'[j] = s' := ⟨_, rfl⟩; rw [hs] at k1; rw [hs'] at k2; have HSS := hide hs; have HSS' := hide hs'; clear c1 c2 hs hs'; subst e1; subst e2
        by_cases hss : s = s'
        · subst hss
          go_wp2_with fail
          go_region
          go_wp2_with fail
          go_roundw
          case rel =>
            refine ⟨j + 1, by omega, by go_num, hide (fun i h1 h2 h3 => ?_), hide (HW.out.trans (Only.drew _ _) (fun _ _ h => h))⟩
            by_cases e : i = j
            · subst e; rw [HSS.out, HSS'.out]
            · exact HE.out i h1 h2 (by omega)
          case measure => simp [intOf]; omega
        · have hss' : ¬ s.toList = s'.toList := fun e => hss (ba_toList e)
          have HNE : Hid (l ≠ l') := fun e => hss (by rw [← HSS.out, ← HSS'.out]; simp [e])
          go_wp2_with fail
          go_region
          go_wp2_with fail
          · go_ret
            exact ⟨ret_bool (by simp [HNE.out]), o2 HO.out (HW.out.trans (Only.drew _ _) (fun _ _ h => h))⟩
          · have hx : (!s.toList == s'.toList) = false := ‹_›
            exact absurd (by simpa using hx) hss'
      · have HEQ : Hid (l = l') := List.ext_getElem HNN.out (fun i h1 h2 => HE.out i h1 h2 (by omega))
        go_wp2_with fail
        go_ret
        exact ⟨ret_bool (by simp [HEQ.out]), o2 HO.out HW.out⟩
  · have hE' : ¬ (a = a' ∧ k = k' ∧ v = v' ∧ r = r' ∧ h.toList = h'.toList ∧ (l.length : Int) = (l'.length : Int)) := by
      rintro ⟨h1, h2, h3, h4, h5, h6⟩
      exact hE ⟨h1, h2, h3, h4, ba_toList h5, by omega⟩
    have HN := hide hE; have HN' := hide hE'; clear hE hE'
    go_enter Tryz.func13, Tryz.ntmps13
    go_wp2_with fail
    all_goals first
      | exact absurd ⟨‹_›, ‹_›, ‹_›, ‹_›, ‹_›, by have hx : ((l.length : Int) != (l'.length : Int)) = false := ‹_›; simpa using hx⟩ HN'.out
      | (go_ret
         refine ⟨ret_bool ?_, o2 (onlyA _ _) (onlyA _ _)⟩
         exact (decide_eq_false (fun hh => HN.out ⟨hh.1, hh.2.1, hh.2.2.1, hh.2.2.2.1, hh.2.2.2.2.1, by rw [hh.2.2.2.2.2]⟩)).symm)
theorem add_at (b o n : Nat) : (⟨b, o, none⟩ : Addr).add n = ⟨b, o + n, none⟩ := by
  unfold Addr.add
  split
  · rename_i h; rw [h]; rfl
  · rfl
def scells (l : List ByteArray) : List Value := l.map Value.string
theorem scells_append (l m : List ByteArray) : scells (l ++ m) = scells l ++ scells m := by simp [scells]
theorem scells_one (l : List ByteArray) : ∀ u ∈ scells l, u.oneCell' = true := by
  intro u hu; obtain ⟨s, _, rfl⟩ := List.mem_map.1 hu
  rfl
def Ls (w : World) (base : Nat) (v : Value) (l : List ByteArray) : Prop := w.ownsRow base 9 1 v l.length (scells l)
structure Fit (ao : Option Addr) (n cp : Nat) : Prop where
  nil : ao = none → cp = 0
  le : n ≤ cp
  big : cp ≤ maxLen
theorem Ls.nil (w : World) (base : Nat) : Ls w base (.slice none 0 0) [] := World.ownsRow_nil _ _ _ _
theorem Ls.kept {S : Nat → Prop} {w w' : World} {base : Nat} {v : Value} {l : List ByteArray} (h : Ls w base v l) (ho : Only S w w') (hS : ∀ k, v.ownBlock = some k → ¬ S k) : Ls w' base v l := by
  obtain ⟨h1, h2⟩ := h; refine ⟨h1, ?_⟩
  rcases h2 with h2 | ⟨g, cap, cur, hv, hg, hh, r⟩
  · exact .inl h2
  · subst hv
    exact .inr ⟨g, cap, cur, rfl, hg, by rw [ho.block g (Array.getElem?_eq_some_iff.1 hh).1 (hS g rfl)]; exact hh, r⟩
theorem Ls.more {w w' : World} {base : Nat} {v : Value} {l : List ByteArray} (h : Ls w base v l) (ho : Only (fun _ => False) w w') : Ls w' base v l := h.kept ho (fun _ _ h => h)
theorem Ls.strs {w : World} {base : Nat} {v : Value} {l : List ByteArray} (h : Ls w base v l) (hl : l.length ≤ 8796093022207) (hs : ∀ s ∈ l, s.size ≤ 140737488355328) :
    ∃ B ao cp, v = .slice ao l.length cp ∧ Strs w B ao l ∧ Fit ao l.length cp ∧ (0 < l.length → base ≤ B) ∧ (ao = none ∨ ao = some ⟨B, 0, none⟩) := by
  rcases h.2 with ⟨rfl, h0⟩ | ⟨g, cap, cur, rfl, hb, hg, hn, hm, _⟩
  · have e : l = [] := List.eq_nil_of_length_eq_zero h0
    subst e
    exact ⟨0, none, 0, rfl, Strs.nil _ _ _, ⟨fun _ => rfl, by simp, by simp⟩, fun h => absurd h (by simp), .inl rfl⟩
  · refine ⟨g, some ⟨g, 0, none⟩, cap, rfl, ⟨fun _ => ⟨0, rfl, fun j hj => ?_⟩, fun _ => (Array.getElem?_eq_some_iff.1 hg).1, hl, hs⟩, ⟨(fun h => by cases h), hn, hm⟩, fun _ => hb, .inr rfl⟩
    rw [Nat.zero_add, World.ownsRow.cellAt h j (by omega)]
    simp [scells, hj]
theorem Tryz.infoStr : (Tryz.prog.info? 9).map (fun i => (i.zero, i.size, i.bytes)) = some (some (.string ⟨#[]⟩), 1, 16) := by kernel_rfl
theorem Strs.none_nil {w : World} {B : Nat} {l : List ByteArray} (h : Strs w B none l) : l = [] := by
  cases l with
  | nil => rfl
  | cons s t =>
    obtain ⟨o, e, _⟩ := h.at_ (by simp)
    cases e
theorem append_strs (w : World) (ty : TypeId) (base : Nat) (v : Value) (l : List ByteArray) (h : Ls w base v l) (B cp : Nat) (ao : Option Addr) (m : List ByteArray) (hm : Strs w B ao m) (hf : Fit ao m.length cp) (hroom : l.length + m.length ≤ 8796093022208) (hbase : base ≤ w.heap.size) :
    ∃ v' w', (Builtin.append_ #[43, 43] ty #[v, .slice ao m.length cp]).run Tryz.prog w = .ok v' w' ∧ Ls w' base v' (l ++ m) ∧ Only (fun k => base ≤ k) w w' := by
  obtain ⟨i0, hi, hz0, hz1, hz2⟩ := info_parts Tryz.infoStr
  cases ao with
  | none =>
    have e := hm.none_nil; subst e; have hc := hf.nil rfl; subst hc; refine ⟨v, w, run_append_owned_none (P := Tryz.prog) w base 43 ty 9 i0 1 Tryz.underlying43 hi v l.length (scells l) h, by rw [List.append_nil]; exact h, Only.refl _ _⟩
  | some ad =>
    obtain ⟨v', w', hr, h2, h3, _, _⟩ := run_append_own_at (P := Tryz.prog) w base 43 ty 9 i0 (.string ⟨#[]⟩) 1 16 Tryz.underlying43 hi hz0 hz1 hz2 rfl (by decide) v l.length (scells l) h ad m.length cp (scells m) (by simp [scells])
      (fun j u hu => by
        have hj : j < m.length := by have := (List.getElem?_eq_some_iff.1 hu).1; simpa [scells] using this
        obtain ⟨o, e, hc⟩ := hm.at_ (by omega)
        cases e
        rw [add_at, hc j hj, ← hu]
        simp [scells, hj]) (scells_one m) (by unfold maxLen; omega) (by omega) hbase
    refine ⟨v', w', hr, ?_, Only.grown h3 (fun k hk => (World.ownsRow.lt h k hk).1)⟩
    have e : l.length + m.length = (l ++ m).length := by simp
    unfold Ls; rw [scells_append, ← e]
    exact h2
theorem clone_any (w : World) (B cp : Nat) (ao : Option Addr) (l : List ByteArray) (h : Strs w B ao l) :
    Calls Tryz.prog 83 #[.slice ao l.length cp] w fun e w' => ∃ v, e = .returned v ∧ Ls w' w.heap.size v l ∧ Only (fun _ => False) w w' := by
  have only : ∀ w', Below w.heap.size w w' → Only (fun _ => False) w w' := fun w' hb => ⟨hb.os, hb.tape, hb.output, hb.size, fun k hk _ => hb.block k hk⟩
  cases ao with
  | none =>
    have e := h.none_nil; subst e; refine (Tryz.slices_Clone_string_nil _ cp w).mono ?_; rintro e w' ⟨rfl, rfl⟩
    exact ⟨_, rfl, Ls.nil _ _, Only.refl _ _⟩
  | some ad =>
    by_cases h0 : l.length = 0
    · have e : l = [] := List.eq_nil_of_length_eq_zero h0
      subst e; refine (Tryz.slices_Clone_string_zero ad cp w).mono ?_; rintro e w' ⟨v, rfl, ho, _, hb⟩
      exact ⟨v, rfl, ho, only _ hb⟩
    · obtain ⟨o, e, hc⟩ := h.at_ (by omega)
      cases e
      have hl := h.len; refine (Tryz.slices_Clone_string B o l.length cp l w (Nat.le_refl _) (by omega) (fun j hj => by rw [hc j hj, getD_of hj])).mono ?_; rintro e w' ⟨v, rfl, ho, _, hb⟩; rw [List.take_of_length_le (Nat.le_refl _)] at ho
      exact ⟨v, rfl, ho, only _ hb⟩
def Res (w w' : World) (e : Ending) (p : Pg) (c : Int) : Prop := ∃ B ao cp, e = .returned (.tuple #[.agg #[.int .i64 p.lsn, .int .i64 p.kind, .int .i64 p.level, .int .i64 p.right, .string p.high, .slice ao p.items.length cp], .int .i64 c]) ∧
  Strs w' B ao p.items ∧ Fit ao p.items.length cp ∧ Only (fun _ => False) w w' ∧ (0 < p.items.length → w.heap.size ≤ B)
theorem Res.none {w w' : World} (c : Int) (ho : Only (fun _ => False) w w') : Res w w' (.returned (.tuple #[.agg #[.int .i64 0, .int .i64 0, .int .i64 0, .int .i64 0, .string ⟨#[]⟩, .slice none 0 0], .int .i64 c])) .none c :=
  ⟨0, Option.none, 0, rfl, Strs.nil _ _ _, ⟨fun _ => rfl, by simp [Pg.none], by simp⟩, ho, fun h => absurd h (by simp [Pg.none])⟩
theorem Pag.set5 {w : World} {b : Nat} {v0 v1 v2 v3 v4 v5 : Value} (h : Pag w b v0 v1 v2 v3 v4 v5) (x : Value) : Pag (w.setCell ⟨b, 5, none⟩ x) b v0 v1 v2 v3 v4 x := by
  have oth : ∀ (j : Nat) (y : Value), 5 ≠ j → w.cell? ⟨b, j, none⟩ = some y → (w.setCell ⟨b, 5, none⟩ x).cell? ⟨b, j, none⟩ = some y := fun j y hij hx => (World.cell?_setCell_other _ _ _ _ (by intro e; injection e with _ e2; exact hij e2)).trans hx
  exact ⟨oth 0 _ (by omega) h.c0, oth 1 _ (by omega) h.c1, oth 2 _ (by omega) h.c2, oth 3 _ (by omega) h.c3, oth 4 _ (by omega) h.c4, World.cell?_setCell_same _ _ _ h.c5, by simpa using h.f0, by simpa using h.f1, by simpa using h.f2, by simpa using h.f3, by simpa using h.f4, by simpa using h.f5, by simpa using h.lt⟩
theorem Strs.one (w : World) (s : ByteArray) (hs : s.size ≤ 140737488355328) : Strs (w.alloc (.cells #[.string s] 9)) w.heap.size (some ⟨w.heap.size, 0, none⟩) [s] :=
  ⟨fun _ => ⟨0, rfl, fun j hj => by
    have : j = 0 := by simp at hj; omega
    subst this
    simp⟩, fun _ => by simp, by simp, fun t ht => by simp at ht; rw [ht]; exact hs⟩
def boxes (w : World) (a k v r : Int) (h : ByteArray) (sl : Value) : World := (w.alloc (.cells #[.int .i64 a, .int .i64 k, .int .i64 v, .int .i64 r, .string h, sl] 45)).alloc (.cells #[.int .i64 0, .int .i64 0, .int .i64 0, .int .i64 0, .string ⟨#[]⟩, .slice none 0 0] 45)
theorem boxes_only (w : World) (a k v r : Int) (h : ByteArray) (sl : Value) : Only (fun _ => False) w (boxes w a k v r h sl) := o2 (onlyA _ _) (onlyA _ _)
theorem boxes_size (w : World) (a k v r : Int) (h : ByteArray) (sl : Value) : (boxes w a k v r h sl).heap.size = w.heap.size + 1 + 1 := by simp [boxes]
theorem boxes_one (w : World) (a k v r : Int) (h : ByteArray) (sl : Value) : Pag (boxes w a k v r h sl) w.heap.size (.int .i64 a) (.int .i64 k) (.int .i64 v) (.int .i64 r) (.string h) sl := (Pag.new w _ _ _ _ _ _).more (onlyA _ _)
theorem boxes_two (w : World) (a k v r : Int) (h : ByteArray) (sl : Value) : Pag (boxes w a k v r h sl) (w.heap.size + 1) (.int .i64 0) (.int .i64 0) (.int .i64 0) (.int .i64 0) (.string ⟨#[]⟩) (.slice none 0 0) := by
  have h1 := Pag.new (w.alloc (.cells #[.int .i64 a, .int .i64 k, .int .i64 v, .int .i64 r, .string h, sl] 45)) (.int .i64 0) (.int .i64 0) (.int .i64 0) (.int .i64 0) (.string ⟨#[]⟩) (.slice none 0 0)
  have e : (w.alloc (.cells #[.int .i64 a, .int .i64 k, .int .i64 v, .int .i64 r, .string h, sl] 45)).heap.size = w.heap.size + 1 := by simp
  rw [e] at h1
  exact h1
end Go.Proofs.YtebijheonkagfaaGreatDoor
