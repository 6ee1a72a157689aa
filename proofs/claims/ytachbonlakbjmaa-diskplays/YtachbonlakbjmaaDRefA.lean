/- The document's disk in memory, over the same plain disk; its small functions. -/
import Derived.Test.YtachbonlakbjmaaDAwake
namespace Go.Proofs.Ytachbonlakbjmaa
open Go.RowKit

/-- A row of one-cell values, by their places. -/
def FRow (w : World) (g : Nat) (e : TypeId) (n : Nat) (f : Nat → Value) : Prop := ∃ C, w.heap[g]? = some (.cells C e (0, 0)) ∧ ∀ k, k < n → C[k]? = some (f k)
theorem FRow.kept {S : Nat → Prop} {w w' : World} {g n : Nat} {e : TypeId} {f : Nat → Value} (h : FRow w g e n f) (ho : Only S w w') (hS : ¬ S g) : FRow w' g e n f := by
  obtain ⟨C, hb, hC⟩ := h
  exact ⟨C, (ho.block g (Array.getElem?_eq_some_iff.1 hb).1 hS).trans hb, hC⟩
theorem FRow.lt {w : World} {g n : Nat} {e : TypeId} {f : Nat → Value} (h : FRow w g e n f) : g < w.heap.size := by
  obtain ⟨C, hb, _⟩ := h
  exact (Array.getElem?_eq_some_iff.1 hb).1
theorem FRow.cell {w : World} {g n : Nat} {e : TypeId} {f : Nat → Value} (h : FRow w g e n f) {k : Nat} (hk : k < n) : w.cell? ⟨g, k, none⟩ = some (f k) := by
  obtain ⟨C, hb, hC⟩ := h
  rw [cell_of_row w g _ C _ _ hb, hC k hk]
theorem FRow.frozen {w : World} {g n : Nat} {e : TypeId} {f : Nat → Value} (h : FRow w g e n f) (j : Nat) : w.frozen? ⟨g, j, none⟩ = false := by
  obtain ⟨C, hb, hC⟩ := h
  simp [World.frozen?, hb]
theorem FRow.set {w : World} {g n : Nat} {e : TypeId} {f f' : Nat → Value} (h : FRow w g e n f) {k : Nat} (hk : k < n) (v : Value) (hv : f' k = v) (hf : ∀ j, j ≠ k → f' j = f j) : FRow (w.setCell ⟨g, k, none⟩ v) g e n f' := by
  obtain ⟨C, hb, hC⟩ := h
  refine ⟨C.set! k v, ?_, fun j hj => ?_⟩
  · simp [World.setCell, Array.getElem?_modify, hb]
  · have hs : k < C.size := (Array.getElem?_eq_some_iff.1 (hC k hk)).1
    by_cases e : j = k
    · subst e
      simp [hs, hv]
    · rw [hf j e, ← hC j hj]
      have : ¬ k = j := fun x => e x.symm
      simp [this]
theorem FRow.congr {w : World} {g n : Nat} {e : TypeId} {f f' : Nat → Value} (h : FRow w g e n f) (hf : ∀ j, j < n → f' j = f j) : FRow w g e n f' := by
  obtain ⟨C, hb, hC⟩ := h
  exact ⟨C, hb, fun j hj => by rw [hf j hj]; exact hC j hj⟩
/-- A text of bytes. -/
def txt (l : List UInt8) : Value := .string ⟨l.toArray⟩
/-- The document's disk: its struct in block x, its rows in blocks a, b, c. -/
structure Xd (w : World) (x a b c ka kb kc : Nat) (D : Dk) : Prop where
  c0 : w.cell? ⟨x, 0, none⟩ = some (.slice (some ⟨a, 0, none⟩) D.old.length ka)
  c1 : w.cell? ⟨x, 1, none⟩ = some (.slice (some ⟨b, 0, none⟩) D.old.length kb)
  c2 : w.cell? ⟨x, 2, none⟩ = some (.slice (some ⟨c, 0, none⟩) D.old.length kc)
  c3 : w.cell? ⟨x, 3, none⟩ = some (.int .i64 D.armed)
  c4 : w.cell? ⟨x, 4, none⟩ = some (.bool D.dead)
  c5 : w.cell? ⟨x, 5, none⟩ = some (.int .i64 D.acts)
  fz : ∀ j, w.frozen? ⟨x, j, none⟩ = false
  lt : x < w.heap.size
  ra : FRow w a 9 D.old.length (fun k => txt (D.old.getD k []))
  rb : FRow w b 9 D.old.length (fun k => txt (D.cur k))
  rc : FRow w c 4 D.old.length (fun k => .bool (D.fresh k).isSome)
  ok : D.Ok
  n1 : x ≠ a
  n2 : x ≠ b
  n3 : x ≠ c
  n4 : a ≠ b
  n5 : a ≠ c
  n6 : b ≠ c
def xown (x a b c : Nat) (k : Nat) : Prop := k = x ∨ k = a ∨ k = b ∨ k = c
theorem Xd.kept {S : Nat → Prop} {w w' : World} {x a b c ka kb kc : Nat} {D : Dk} (h : Xd w x a b c ka kb kc D) (ho : Only S w w') (h1 : ¬ S x) (h2 : ¬ S a) (h3 : ¬ S b) (h4 : ¬ S c) : Xd w' x a b c ka kb kc D := by
  obtain ⟨c0, c1, c2, c3, c4, c5, fz, lt, ra, rb, rc, ok, n1, n2, n3, n4, n5, n6⟩ := h
  exact ⟨(ho.cell (p := ⟨x, 0, none⟩) lt h1).trans c0, (ho.cell (p := ⟨x, 1, none⟩) lt h1).trans c1, (ho.cell (p := ⟨x, 2, none⟩) lt h1).trans c2, (ho.cell (p := ⟨x, 3, none⟩) lt h1).trans c3, (ho.cell (p := ⟨x, 4, none⟩) lt h1).trans c4, (ho.cell (p := ⟨x, 5, none⟩) lt h1).trans c5,
    fun j => (ho.frozen (p := ⟨x, j, none⟩) lt h1).trans (fz j), Nat.lt_of_lt_of_le lt ho.size, ra.kept ho h2, rb.kept ho h3, rc.kept ho h4, ok, n1, n2, n3, n4, n5, n6⟩
theorem Xd.same {w w' : World} {x a b c ka kb kc : Nat} {D : Dk} (h : Xd w x a b c ka kb kc D) (ho : Only (fun _ => False) w w') : Xd w' x a b c ka kb kc D := h.kept ho id id id id
/-- A cell of the struct is written. -/
theorem Xd.setc {w : World} {x a b c ka kb kc : Nat} {D : Dk} (h : Xd w x a b c ka kb kc D) (j : Nat) (u : Value) {D' : Dk} (hj : 3 ≤ j)
    (e3 : (if j = 3 then some u else w.cell? ⟨x, 3, none⟩) = some (.int .i64 D'.armed))
    (e4 : (if j = 4 then some u else w.cell? ⟨x, 4, none⟩) = some (.bool D'.dead))
    (e5 : (if j = 5 then some u else w.cell? ⟨x, 5, none⟩) = some (.int .i64 D'.acts))
    (ho : D'.old = D.old) (hf : D'.fresh = D.fresh) (ok : D'.Ok) : Xd (w.setCell ⟨x, j, none⟩ u) x a b c ka kb kc D' ∧ Only (xown x a b c) w (w.setCell ⟨x, j, none⟩ u) := by
  have hset : ∀ i v, w.cell? ⟨x, i, none⟩ = some v → (w.setCell ⟨x, j, none⟩ u).cell? ⟨x, i, none⟩ = if j = i then some u else w.cell? ⟨x, i, none⟩ := by
    intro i v hv
    by_cases e : j = i
    · subst e
      rw [if_pos rfl, World.cell?_setCell_same _ _ _ hv]
    · rw [if_neg e, World.cell?_setCell_other _ _ _ _ (by intro e2; cases e2; exact e rfl)]
  have hO : Only (fun k => k = x) w (w.setCell ⟨x, j, none⟩ u) := Only.setCell w ⟨x, j, none⟩ u rfl
  have hcur : D'.cur = D.cur := by funext k; unfold Dk.cur; rw [ho, hf]
  refine ⟨⟨?_, ?_, ?_, (hset 3 _ h.c3).trans e3, (hset 4 _ h.c4).trans e4, (hset 5 _ h.c5).trans e5, fun i => by simpa using h.fz i, by simpa using h.lt, ?_, ?_, ?_, ok, h.n1, h.n2, h.n3, h.n4, h.n5, h.n6⟩, hO.mono (fun k _ e => .inl e)⟩
  · rw [hset 0 _ h.c0, if_neg (by omega), ho]; exact h.c0
  · rw [hset 1 _ h.c1, if_neg (by omega), ho]; exact h.c1
  · rw [hset 2 _ h.c2, if_neg (by omega), ho]; exact h.c2
  · rw [ho]; exact h.ra.kept hO (fun e => h.n1 e.symm)
  · rw [ho, hcur]; exact h.rb.kept hO (fun e => h.n2 e.symm)
  · rw [ho, hf]; exact h.rc.kept hO (fun e => h.n3 e.symm)
theorem Xd.setActs {w : World} {x a b c ka kb kc : Nat} {D : Dk} (h : Xd w x a b c ka kb kc D) (y : Int) : Xd (w.setCell ⟨x, 5, none⟩ (.int .i64 y)) x a b c ka kb kc { D with acts := y } ∧ Only (xown x a b c) w (w.setCell ⟨x, 5, none⟩ (.int .i64 y)) :=
  h.setc 5 _ (by omega) (by simpa using h.c3) (by simpa using h.c4) (by simp) rfl rfl ⟨h.ok.lo, h.ok.hi, h.ok.o64, h.ok.f64, h.ok.arm0, h.ok.arm1⟩
theorem Xd.setArmed {w : World} {x a b c ka kb kc : Nat} {D : Dk} (h : Xd w x a b c ka kb kc D) (y : Int) (h0 : 0 ≤ y) (h1 : y < 9223372036854775808) : Xd (w.setCell ⟨x, 3, none⟩ (.int .i64 y)) x a b c ka kb kc { D with armed := y } ∧ Only (xown x a b c) w (w.setCell ⟨x, 3, none⟩ (.int .i64 y)) :=
  h.setc 3 _ (by omega) (by simp) (by simpa using h.c4) (by simpa using h.c5) rfl rfl ⟨h.ok.lo, h.ok.hi, h.ok.o64, h.ok.f64, h0, h1⟩
theorem Xd.setDead {w : World} {x a b c ka kb kc : Nat} {D : Dk} (h : Xd w x a b c ka kb kc D) (y : Bool) : Xd (w.setCell ⟨x, 4, none⟩ (.bool y)) x a b c ka kb kc { D with dead := y } ∧ Only (xown x a b c) w (w.setCell ⟨x, 4, none⟩ (.bool y)) :=
  h.setc 4 _ (by omega) (by simpa using h.c3) (by simp) (by simpa using h.c5) rfl rfl ⟨h.ok.lo, h.ok.hi, h.ok.o64, h.ok.f64, h.ok.arm0, h.ok.arm1⟩

theorem within_any (w : World) (x a b c ka kb kc : Nat) (D : Dk) (h : Xd w x a b c ka kb kc D) (p n : Int) (hp : -9223372036854775808 ≤ p ∧ p < 9223372036854775808) :
    Calls Try.prog 36 #[.pointer (some ⟨x, 0, none⟩), .int .i64 p, .int .i64 n] w fun e w' => e = .returned (.bool (hasB D.old.length p n)) ∧ w' = w := by
  have h0 := h.c0
  have hl := h.ok.hi
  obtain ⟨N, hN⟩ : ∃ N, D.old.length = N := ⟨_, rfl⟩
  rw [hN] at h0 hl ⊢
  have HX : Hid (hasB N p n = (decide (0 ≤ p) && (decide (0 ≤ n) && decide (n ≤ (N : Int) - p)))) := rfl
  by_cases h1 : 0 ≤ p
  · by_cases h2 : 0 ≤ n
    · by_cases h4 : p ≤ (N : Int)
      · by_cases h3 : n ≤ (N : Int) - p
        · go_enter Try.func36, Try.ntmps36
          go_wp2
          go_ret
          refine ⟨?_, rfl⟩
          rw [HX.out]
          simp [h1, h2, h3]
        · go_enter Try.func36, Try.ntmps36
          go_wp2
          go_ret
          refine ⟨?_, rfl⟩
          rw [HX.out]
          simp [h1, h2, h3]
      · go_enter Try.func36, Try.ntmps36
        go_wp2
        go_ret
        refine ⟨?_, rfl⟩
        rw [HX.out]
        simp [h1, h2]
        omega
    · go_enter Try.func36, Try.ntmps36
      go_wp2
      go_ret
      refine ⟨?_, rfl⟩
      rw [HX.out]
      simp [h1]
      intro h9
      omega
  · go_enter Try.func36, Try.ntmps36
    go_wp2
    go_ret
    refine ⟨?_, rfl⟩
    rw [HX.out]
    simp
    intro h9
    omega
theorem xact_any (w : World) (x a b c ka kb kc : Nat) (D : Dk) (h : Xd w x a b c ka kb kc D) (hd : D.dead = false) :
    Calls Try.prog 37 #[.pointer (some ⟨x, 0, none⟩)] w fun e w' => e = .returned (.bool (decide (D.armed = 1))) ∧ Xd w' x a b c ka kb kc D.act ∧ Only (xown x a b c) w w' := by
  have h3 := h.c3
  have h4 := h.c4
  have h5 := h.c5
  have f3 := h.fz 3
  have f4 := h.fz 4
  have f5 := h.fz 5
  have a0 := h.ok.arm0
  have a1 := h.ok.arm1
  rw [hd] at h4
  obtain ⟨x1, y1⟩ := h.setActs (wrap64 (D.acts + 1))
  by_cases ha : D.armed = 0
  · have hb : ¬ 0 < D.armed := by omega
    have HA : Hid (D.armed = 0) := ha
    have HDd := hide hd
    have X1 := hide x1
    have Y1 := hide y1
    clear h x1 y1 ha hd
    go_enter Try.func37, Try.ntmps37
    go_wp2
    go_ret
    refine ⟨by simp [HA.out], ?_, Y1.out⟩
    have e : D.act = { D with acts := wrap64 (D.acts + 1) } := by unfold Dk.act; simp [HA.out]
    rw [e]
    exact X1.out
  · obtain ⟨x2, y2⟩ := x1.setArmed (D.armed - 1) (by omega) (by omega)
    obtain ⟨x3, y3⟩ := x2.setDead (decide (D.armed = 1))
    have e : D.act = { { { D with acts := wrap64 (D.acts + 1) } with armed := D.armed - 1 } with dead := decide (D.armed = 1) } := by unfold Dk.act; simp [ha]
    have hq : (D.armed - 1 == 0) = decide (D.armed = 1) := by
      by_cases h1 : D.armed = 1
      · simp [h1]
      · simp [h1]; omega
    have HQ := hide hq
    have Z := hide (And.intro x3 ((y1.trans y2 (fun _ _ h => h)).trans y3 (fun _ _ h => h)))
    rw [e]
    have hp : 0 < D.armed := by omega
    clear x1 y1 x2 y2 x3 y3 e h ha hq hd
    go_enter Try.func37, Try.ntmps37
    go_wp2
    go_ret
    simp only [HQ.out]
    exact ⟨rfl, Z.out.1, Z.out.2⟩
theorem xarm_any (w : World) (x a b c ka kb kc : Nat) (D : Dk) (h : Xd w x a b c ka kb kc D) (n : Int) (hn : n < 9223372036854775808) :
    Calls Try.prog 22 #[.pointer (some ⟨x, 0, none⟩), .int .i64 n] w fun e w' => e = .returned (.int .i64 (D.arm n).2) ∧ Xd w' x a b c ka kb kc (D.arm n).1 ∧ Only (xown x a b c) w w' := by
  have f3 := h.fz 3
  have h3 := h.c3
  have h4 := h.c4
  have H := hide h
  clear h
  cases hd : D.dead
  · rw [hd] at h4
    by_cases h0 : n < 0
    · have e : D.arm n = (D, 1) := by unfold Dk.arm; simp [hd, h0]
      rw [e]
      clear hd e
      go_enter Try.func22, Try.ntmps22
      go_wp2
      go_ret
      exact ⟨rfl, H.out, Only.refl _ _⟩
    · have e : D.arm n = ({ D with armed := n }, 0) := by unfold Dk.arm; simp [hd, h0]
      have Z := hide (H.out.setArmed n (by omega) hn)
      rw [e]
      clear hd e
      go_enter Try.func22, Try.ntmps22
      go_wp2
      go_ret
      exact ⟨rfl, Z.out.1, Z.out.2⟩
  · have e : D.arm n = (D, 5) := by unfold Dk.arm; simp [hd]
    rw [e]
    rw [hd] at h4
    clear hd e
    go_enter Try.func22, Try.ntmps22
    go_wp2
    go_ret
    exact ⟨rfl, H.out, Only.refl _ _⟩
end Go.Proofs.Ytachbonlakbjmaa
