/- Parts. -/
import Derived.Test.YtpnbhddmdfcjdaaGreatK07
import Derived.Handy
import Derived.Laws.ResultCell
set_option maxRecDepth 100000
namespace Go.Proofs.YtpnbhddmdfcjdaaGreat
open Go.RowKit
/-- Texts that a slice at ao leads to, in block B. -/
structure Strs (w : World) (B : Nat) (ao : Option Addr) (l : List ByteArray) : Prop where
  at_ : 0 < l.length → ∃ o, ao = some ⟨B, o, none⟩ ∧ ∀ j (h : j < l.length), w.cell? ⟨B, o + j, none⟩ = some (.string l[j])
  lt : 0 < l.length → B < w.heap.size
  len : l.length ≤ 8796093022207
  size : ∀ s ∈ l, s.size ≤ 140737488355328
theorem Strs.nil (w : World) (B : Nat) (ao : Option Addr) : Strs w B ao [] := ⟨fun h => absurd h (by simp), fun h => absurd h (by simp), by simp, fun _ h => by cases h⟩
theorem Strs.kept {S : Nat → Prop} {w w' : World} {B : Nat} {ao : Option Addr} {l : List ByteArray} (h : Strs w B ao l) (ho : Only S w w') (hS : 0 < l.length → ¬ S B) : Strs w' B ao l :=
  ⟨fun h0 => by
    obtain ⟨o, e, hc⟩ := h.at_ h0
    exact ⟨o, e, fun j hj => (ho.cell (p := ⟨B, o + j, none⟩) (h.lt h0) (hS h0)).trans (hc j hj)⟩, fun h0 => Nat.lt_of_lt_of_le (h.lt h0) ho.size, h.len, h.size⟩
theorem Strs.more {w w' : World} {B : Nat} {ao : Option Addr} {l : List ByteArray} (h : Strs w B ao l) (ho : Only (fun _ => False) w w') : Strs w' B ao l := h.kept ho (fun _ h => h)
theorem w64_w64 (a b : Int) : wrap64 (wrap64 a + b) = wrap64 (a + b) := by unfold wrap64; omega
theorem w64_bd (a : Int) : -9223372036854775808 ≤ wrap64 a ∧ wrap64 a < 9223372036854775808 := by unfold wrap64; omega
theorem isz_le {l : List ByteArray} (h : ∀ s ∈ l, s.size ≤ 140737488355328) : isz l ≤ 140737488355330 * l.length := by
  induction l with
  | nil => simp [isz]
  | cons s l ih =>
    rw [isz_cons]
    have h1 := h s (by simp)
    have h2 := ih (fun t ht => h t (by simp [ht]))
    simp only [List.length_cons]
    omega
theorem onlyA (w : World) (o : Obj) : Only (fun _ => False) w (w.alloc o) := Only.alloc _ _ _
theorem o2 {a b c : World} (h : Only (fun _ => False) a b) (k : Only (fun _ => False) b c) : Only (fun _ => False) a c := h.trans k (fun _ _ h => h)
theorem ret_bool {a b : Bool} (h : a = b) : Ending.returned (.bool a) = .returned (.bool b) := by rw [h]
/-- A page in block b, cell by cell. -/
structure Pag (w : World) (b : Nat) (v0 v1 v2 v3 v4 v5 : Value) : Prop where
  c0 : w.cell? ⟨b, 0, none⟩ = some v0
  c1 : w.cell? ⟨b, 1, none⟩ = some v1
  c2 : w.cell? ⟨b, 2, none⟩ = some v2
  c3 : w.cell? ⟨b, 3, none⟩ = some v3
  c4 : w.cell? ⟨b, 4, none⟩ = some v4
  c5 : w.cell? ⟨b, 5, none⟩ = some v5
  f0 : w.frozen? ⟨b, 0, none⟩ = false
  f1 : w.frozen? ⟨b, 1, none⟩ = false
  f2 : w.frozen? ⟨b, 2, none⟩ = false
  f3 : w.frozen? ⟨b, 3, none⟩ = false
  f4 : w.frozen? ⟨b, 4, none⟩ = false
  f5 : w.frozen? ⟨b, 5, none⟩ = false
  lt : b < w.heap.size
theorem Pag.kept {S : Nat → Prop} {w w' : World} {b : Nat} {v0 v1 v2 v3 v4 v5 : Value} (h : Pag w b v0 v1 v2 v3 v4 v5) (ho : Only S w w') (hS : ¬ S b) : Pag w' b v0 v1 v2 v3 v4 v5 :=
  ⟨(ho.cell (p := ⟨b, 0, none⟩) h.lt hS).trans h.c0, (ho.cell (p := ⟨b, 1, none⟩) h.lt hS).trans h.c1, (ho.cell (p := ⟨b, 2, none⟩) h.lt hS).trans h.c2, (ho.cell (p := ⟨b, 3, none⟩) h.lt hS).trans h.c3, (ho.cell (p := ⟨b, 4, none⟩) h.lt hS).trans h.c4, (ho.cell (p := ⟨b, 5, none⟩) h.lt hS).trans h.c5,
   (ho.frozen (p := ⟨b, 0, none⟩) h.lt hS).trans h.f0, (ho.frozen (p := ⟨b, 1, none⟩) h.lt hS).trans h.f1, (ho.frozen (p := ⟨b, 2, none⟩) h.lt hS).trans h.f2, (ho.frozen (p := ⟨b, 3, none⟩) h.lt hS).trans h.f3, (ho.frozen (p := ⟨b, 4, none⟩) h.lt hS).trans h.f4, (ho.frozen (p := ⟨b, 5, none⟩) h.lt hS).trans h.f5, Nat.lt_of_lt_of_le h.lt ho.size⟩
theorem Pag.more {w w' : World} {b : Nat} {v0 v1 v2 v3 v4 v5 : Value} (h : Pag w b v0 v1 v2 v3 v4 v5) (ho : Only (fun _ => False) w w') : Pag w' b v0 v1 v2 v3 v4 v5 := h.kept ho (fun h => h)
theorem Pag.new (w : World) (v0 v1 v2 v3 v4 v5 : Value) : Pag (w.alloc (.cells #[v0, v1, v2, v3, v4, v5] 30)) w.heap.size v0 v1 v2 v3 v4 v5 :=
  ⟨by simp, by simp, by simp, by simp, by simp, by simp, by simp, by simp, by simp, by simp, by simp, by simp, by simp⟩
theorem Only.six (w : World) (b : Nat) (v0 v1 v2 v3 v4 v5 : Value) : Only (fun k => k = b) w ((((((w.setCell ⟨b, 0, none⟩ v0).setCell ⟨b, 1, none⟩ v1).setCell ⟨b, 2, none⟩ v2).setCell ⟨b, 3, none⟩ v3).setCell ⟨b, 4, none⟩ v4).setCell ⟨b, 5, none⟩ v5) := by
  have st : ∀ (W : World) (i : Nat) (v : Value), Only (fun k => k = b) W (W.setCell ⟨b, i, none⟩ v) := fun W i v => Only.setCell W ⟨b, i, none⟩ v rfl
  exact (((((st _ 0 _).trans (st _ 1 _) (fun _ _ h => h)).trans (st _ 2 _) (fun _ _ h => h)).trans (st _ 3 _) (fun _ _ h => h)).trans (st _ 4 _) (fun _ _ h => h)).trans (st _ 5 _) (fun _ _ h => h)
theorem Pag.six {w : World} {b : Nat} {u0 u1 u2 u3 u4 u5 : Value} (h : Pag w b u0 u1 u2 u3 u4 u5) (v0 v1 v2 v3 v4 v5 : Value) : Pag ((((((w.setCell ⟨b, 0, none⟩ v0).setCell ⟨b, 1, none⟩ v1).setCell ⟨b, 2, none⟩ v2).setCell ⟨b, 3, none⟩ v3).setCell ⟨b, 4, none⟩ v4).setCell ⟨b, 5, none⟩ v5) b v0 v1 v2 v3 v4 v5 := by
  have oth : ∀ (W : World) (i j : Nat) (v x : Value), i ≠ j → W.cell? ⟨b, j, none⟩ = some x → (W.setCell ⟨b, i, none⟩ v).cell? ⟨b, j, none⟩ = some x := fun W i j v x hij hx => (World.cell?_setCell_other _ _ _ _ (by intro e; injection e with _ e2; exact hij e2)).trans hx
  have same : ∀ (W : World) (i : Nat) (v x : Value), W.cell? ⟨b, i, none⟩ = some x → (W.setCell ⟨b, i, none⟩ v).cell? ⟨b, i, none⟩ = some v := fun W i v x hx => World.cell?_setCell_same _ _ _ hx
  have a1 := oth _ 0 1 v0 _ (by omega) h.c1
  have a2 := oth _ 1 2 v1 _ (by omega) (oth _ 0 2 v0 _ (by omega) h.c2)
  have a3 := oth _ 2 3 v2 _ (by omega) (oth _ 1 3 v1 _ (by omega) (oth _ 0 3 v0 _ (by omega) h.c3))
  have a4 := oth _ 3 4 v3 _ (by omega) (oth _ 2 4 v2 _ (by omega) (oth _ 1 4 v1 _ (by omega) (oth _ 0 4 v0 _ (by omega) h.c4)))
  have a5 := oth _ 4 5 v4 _ (by omega) (oth _ 3 5 v3 _ (by omega) (oth _ 2 5 v2 _ (by omega) (oth _ 1 5 v1 _ (by omega) (oth _ 0 5 v0 _ (by omega) h.c5))))
  have b0 := same _ 0 v0 _ h.c0
  have b1 := same _ 1 v1 _ a1
  have b2 := same _ 2 v2 _ a2
  have b3 := same _ 3 v3 _ a3
  have b4 := same _ 4 v4 _ a4
  have b5 := same _ 5 v5 _ a5
  refine ⟨oth _ 5 0 _ _ (by omega) (oth _ 4 0 _ _ (by omega) (oth _ 3 0 _ _ (by omega) (oth _ 2 0 _ _ (by omega) (oth _ 1 0 _ _ (by omega) b0)))), oth _ 5 1 _ _ (by omega) (oth _ 4 1 _ _ (by omega) (oth _ 3 1 _ _ (by omega) (oth _ 2 1 _ _ (by omega) b1))),
    oth _ 5 2 _ _ (by omega) (oth _ 4 2 _ _ (by omega) (oth _ 3 2 _ _ (by omega) b2)), oth _ 5 3 _ _ (by omega) (oth _ 4 3 _ _ (by omega) b3), oth _ 5 4 _ _ (by omega) b4, b5, ?_, ?_, ?_, ?_, ?_, ?_, ?_⟩
  · simpa using h.f0
  · simpa using h.f1
  · simpa using h.f2
  · simpa using h.f3
  · simpa using h.f4
  · simpa using h.f5
  · simpa using h.lt
theorem Tryz.cellsPage : Tryz.prog.cellsOf 30 = 6 := by kernel_rfl
theorem load_page {w : World} {b : Nat} {v0 v1 v2 v3 v4 v5 : Value} (h : Pag w b v0 v1 v2 v3 v4 v5) : (loadVar 30 ⟨b, 0, none⟩).run Tryz.prog w = .ok (.agg #[v0, v1, v2, v3, v4, v5]) w := by
  have c0 := h.c0
  have c1 := h.c1
  have c2 := h.c2
  have c3 := h.c3
  have c4 := h.c4
  have c5 := h.c5
  simp [loadVar, go_sem, c0, c1, c2, c3, c4, c5]
theorem results_page {fn : Func} {p u : Tmp} (h : fn.results = #[.cell p 30, .tmp u]) {tmps : Array Value} {w : World} {b : Nat} {v0 v1 v2 v3 v4 v5 : Value} (hp : tmps.getD p undef = .pointer (some ⟨b, 0, none⟩)) (hP : Pag w b v0 v1 v2 v3 v4 v5) :
    (results fn tmps).run Tryz.prog w = .ok (.tuple #[.agg #[v0, v1, v2, v3, v4, v5], tmps.getD u undef]) w := by
  have e : (asAddr (.pointer (some ⟨b, 0, none⟩))).run Tryz.prog w = .ok ⟨b, 0, none⟩ w := rfl
  rw [results_cell_tmp h, hp, e]
  simp only [Result.andThen, load_page hP]
set_option maxRecDepth 100000 in
set_option maxHeartbeats 800000 in
theorem psize_any (w : World) (a k v r : Int) (h : ByteArray) (B cp : Nat) (ao : Option Addr) (l : List ByteArray) (hS : Strs w B ao l) (hh : h.size ≤ 140737488355328) :
    Calls Tryz.prog 181 #[.agg #[.int .i64 a, .int .i64 k, .int .i64 v, .int .i64 r, .string h, .slice ao l.length cp]] w fun e w' => e = .returned (.int .i64 (wrap64 (20 + h.size + isz l))) ∧ Only (fun _ => False) w w' := by
  have hlen := hS.len
  have HS := hide hS
  clear hS
  go_enter Tryz.func181, Tryz.ntmps181
  go_wp2_with fail
  have HO := hide (onlyA w (.cells #[.int .i64 a, .int .i64 k, .int .i64 v, .int .i64 r, .string h, .slice ao l.length cp] 30))
  go_loop [3, 13] (fun x y => ∃ (j : Nat) (q : Int), j ≤ l.length ∧ y = .int .i64 (j : Int) ∧ x = .int .i64 q ∧ -9223372036854775808 ≤ q ∧ q < 9223372036854775808 ∧ Hid (q = wrap64 (20 + h.size + isz (l.take j)))) (fun _ y => l.length - (intOf y).toNat)
  case atStart => exact ⟨0, 20 + h.size, by omega, rfl, rfl, by omega, by omega, by unfold Hid wrap64; simp [isz]; omega⟩
  case round =>
    obtain ⟨j, q, hj, rfl, rfl, q0, q1, HQ⟩ := hrel
    by_cases hlt : j < l.length
    · obtain ⟨o1, e1, c1⟩ := (HS.out.more HO.out).at_ (by omega)
      have k1 := c1 j hlt
      have hz := HS.out.size l[j] (List.getElem_mem hlt)
      have HT : Hid (wrap64 (20 + h.size + isz (l.take (j + 1))) = wrap64 (q + (2 + (l[j].size : Int)))) := by
        unfold Hid
        rw [HQ.out, w64_w64, isz_snoc l j hlt]
        congr 1
        omega
      have hj1 : (j : Int) < (l.length : Int) := by omega
      obtain ⟨s, hs⟩ : ∃ s, l[j] = s := ⟨_, rfl⟩
      rw [hs] at k1 hz HT
      clear c1 hs
      subst e1
      go_wp2_with fail
      go_round
      case rel => exact ⟨j + 1, _, by omega, by go_num, rfl, (w64_bd _).1, (w64_bd _).2, HT.out.symm⟩
      case measure => simp [intOf]; omega
    · have e : l.take j = l := List.take_of_length_le (by omega)
      rw [e] at HQ
      go_wp2_with fail
      go_ret
      exact ⟨ret_int HQ.out, HO.out⟩
/-- The number of bytes of a page whose items are few. -/
theorem w64_few {h : ByteArray} {l : List ByteArray} (hs : ∀ s ∈ l, s.size ≤ 140737488355328) (hh : h.size ≤ 140737488355328) (hl : l.length ≤ 255) : wrap64 (20 + h.size + isz l) = 20 + h.size + isz l := by
  have := isz_le hs
  unfold wrap64
  omega
set_option maxRecDepth 100000 in
set_option maxHeartbeats 800000 in
theorem tooLong_any (w : World) (a k v r : Int) (h : ByteArray) (B cp : Nat) (ao : Option Addr) (l : List ByteArray) (hS : Strs w B ao l) (hh : h.size ≤ 140737488355328) :
    Calls Tryz.prog 139 #[.agg #[.int .i64 a, .int .i64 k, .int .i64 v, .int .i64 r, .string h, .slice ao l.length cp]] w fun e w' => e = .returned (.bool (decide (255 < l.length ∨ 512 < 20 + h.size + isz l))) ∧ Only (fun _ => False) w w' := by
  have hlen := hS.len
  have HS := hide hS
  clear hS
  have HO := hide (onlyA w (.cells #[.int .i64 a, .int .i64 k, .int .i64 v, .int .i64 r, .string h, .slice ao l.length cp] 30))
  by_cases hn : 255 < l.length
  · have HR : Hid (decide (255 < l.length ∨ 512 < 20 + h.size + isz l) = true) := decide_eq_true (.inl hn)
    rw [HR.out]
    go_enter Tryz.func139, Tryz.ntmps139
    go_wp2_with fail
    go_ret
    exact ⟨rfl, HO.out⟩
  · have HZ := hide (w64_few HS.out.size hh (by omega))
    have hbb := isz_le HS.out.size
    obtain ⟨z, hz⟩ : ∃ z : Nat, 20 + h.size + isz l = z := ⟨_, rfl⟩
    have hz2 : (20 + h.size + isz l : Int) = z := by omega
    rw [hz2] at HZ
    rw [hz]
    by_cases hc : 512 < z
    · have HR : Hid (decide (255 < l.length ∨ 512 < z) = true) := decide_eq_true (.inr hc)
      rw [HR.out]
      go_enter Tryz.func139, Tryz.ntmps139
      go_wp2_with fail
      refine (psize_any _ a k v r h B cp ao l (HS.out.more HO.out) hh).mono ?_
      rw [hz2, HZ.out]
      rintro e w1 ⟨rfl, ho1⟩
      have HO1 := hide (o2 HO.out ho1)
      clear ho1
      go_wp2_with fail
      go_ret
      exact ⟨ret_bool (by simp; omega), HO1.out⟩
    · have HR : Hid (decide (255 < l.length ∨ 512 < z) = false) := decide_eq_false (by omega)
      rw [HR.out]
      go_enter Tryz.func139, Tryz.ntmps139
      go_wp2_with fail
      refine (psize_any _ a k v r h B cp ao l (HS.out.more HO.out) hh).mono ?_
      rw [hz2, HZ.out]
      rintro e w1 ⟨rfl, ho1⟩
      have HO1 := hide (o2 HO.out ho1)
      clear ho1
      go_wp2_with fail
      go_ret
      exact ⟨ret_bool (by simp; omega), HO1.out⟩
set_option maxRecDepth 100000 in
set_option maxHeartbeats 800000 in
theorem fitting_any (w : World) (a k v r : Int) (h : ByteArray) (B cp : Nat) (ao : Option Addr) (l : List ByteArray) (hS : Strs w B ao l) (hh : h.size ≤ 140737488355328) :
    Calls Tryz.prog 94 #[.agg #[.int .i64 a, .int .i64 k, .int .i64 v, .int .i64 r, .string h, .slice ao l.length cp]] w fun e w' =>
      e = .returned (if 255 < l.length ∨ 512 < 20 + h.size + isz l then .tuple #[.agg #[.int .i64 0, .int .i64 0, .int .i64 0, .int .i64 0, .string ⟨#[]⟩, .slice none 0 0], .int .i64 3] else .tuple #[.agg #[.int .i64 a, .int .i64 k, .int .i64 v, .int .i64 r, .string h, .slice ao l.length cp], .int .i64 0]) ∧ Only (fun _ => False) w w' := by
  have hlen := hS.len
  have HS := hide hS
  clear hS
  have HP := hide ((Pag.new w (.int .i64 a) (.int .i64 k) (.int .i64 v) (.int .i64 r) (.string h) (.slice ao l.length cp)).more (onlyA _ (.cells #[.int .i64 0, .int .i64 0, .int .i64 0, .int .i64 0, .string ⟨#[]⟩, .slice none 0 0] 30)))
  have HQ := hide (Pag.new (w.alloc (.cells #[.int .i64 a, .int .i64 k, .int .i64 v, .int .i64 r, .string h, .slice ao l.length cp] 30)) (.int .i64 0) (.int .i64 0) (.int .i64 0) (.int .i64 0) (.string ⟨#[]⟩) (.slice none 0 0))
  have HO := hide (o2 (onlyA w (.cells #[.int .i64 a, .int .i64 k, .int .i64 v, .int .i64 r, .string h, .slice ao l.length cp] 30)) (onlyA _ (.cells #[.int .i64 0, .int .i64 0, .int .i64 0, .int .i64 0, .string ⟨#[]⟩, .slice none 0 0] 30)))
  go_enter Tryz.func94, Tryz.ntmps94
  go_wp2_with fail
  refine (tooLong_any _ a k v r h B cp ao l (HS.out.more HO.out) hh).mono ?_
  rintro e w1 ⟨rfl, ho1⟩
  have HO1 := hide (o2 HO.out ho1)
  obtain ⟨p0, p1, p2, p3, p4, p5, g0, g1, g2, g3, g4, g5, gl⟩ := HP.out.more ho1
  obtain ⟨q0, q1, q2, q3, q4, q5, t0, t1, t2, t3, t4, t5, tl⟩ := HQ.out.more ho1
  have hsz : (w.alloc (.cells #[.int .i64 a, .int .i64 k, .int .i64 v, .int .i64 r, .string h, .slice ao l.length cp] 30)).heap.size = w.heap.size + 1 := by simp
  rw [hsz] at q0 q1 q2 q3 q4 q5 t0 t1 t2 t3 t4 t5 tl
  clear ho1 hsz
  by_cases hc : 255 < l.length ∨ 512 < 20 + h.size + isz l
  · have HR := hide (decide_eq_true hc)
    rw [HR.out]
    go_wp2_with fail
    refine bodyPost_ret (results_page rfl rfl (Pag.six ⟨q0, q1, q2, q3, q4, q5, t0, t1, t2, t3, t4, t5, tl⟩ _ _ _ _ _ _)) rfl ?_
    exact ⟨rfl, HO1.out.trans (Only.six w1 (w.heap.size + 1) _ _ _ _ _ _) (fun i hi e => by omega)⟩
  · have HR := hide (decide_eq_false hc)
    rw [HR.out]
    go_wp2_with fail
    refine bodyPost_ret (results_page rfl rfl (Pag.six ⟨q0, q1, q2, q3, q4, q5, t0, t1, t2, t3, t4, t5, tl⟩ _ _ _ _ _ _)) rfl ?_
    exact ⟨rfl, HO1.out.trans (Only.six w1 (w.heap.size + 1) _ _ _ _ _ _) (fun i hi e => by omega)⟩
end Go.Proofs.YtpnbhddmdfcjdaaGreat
