/- The document's disk: Sync in all cases, Write. -/
import Derived.Test.YtebijheonkagfaaGreatDoorKDH
namespace Go.Proofs.YtebijheonkagfaaGreatDoor
open Go.RowKit
def FRow (w : World) (g : Nat) (e : TypeId) (n : Nat) (f : Nat → Value) : Prop := ∃ C, w.heap[g]? = some (.cells C e (0, 0)) ∧ ∀ k, k < n → C[k]? = some (f k)
theorem FRow.kept {S : Nat → Prop} {w w' : World} {g n : Nat} {e : TypeId} {f : Nat → Value} (h : FRow w g e n f) (ho : Only S w w') (hS : ¬ S g) : FRow w' g e n f := by
  obtain ⟨C, hb, hC⟩ := h
  exact ⟨C, (ho.block g (Array.getElem?_eq_some_iff.1 hb).1 hS).trans hb, hC⟩
theorem FRow.lt {w : World} {g n : Nat} {e : TypeId} {f : Nat → Value} (h : FRow w g e n f) : g < w.heap.size := by
  obtain ⟨C, hb, _⟩ := h
  exact (Array.getElem?_eq_some_iff.1 hb).1
theorem FRow.cell {w : World} {g n : Nat} {e : TypeId} {f : Nat → Value} (h : FRow w g e n f) {k : Nat} (hk : k < n) : w.cell? ⟨g, k, none⟩ = some (f k) := by
  obtain ⟨C, hb, hC⟩ := h; rw [cell_of_row w g _ C _ _ hb, hC k hk]
theorem FRow.frozen {w : World} {g n : Nat} {e : TypeId} {f : Nat → Value} (h : FRow w g e n f) (j : Nat) : w.frozen? ⟨g, j, none⟩ = false := by
  obtain ⟨C, hb, hC⟩ := h
  simp [World.frozen?, hb]
theorem FRow.set {w : World} {g n : Nat} {e : TypeId} {f f' : Nat → Value} (h : FRow w g e n f) {k : Nat} (hk : k < n) (v : Value) (hv : f' k = v) (hf : ∀ j, j ≠ k → f' j = f j) : FRow (w.setCell ⟨g, k, none⟩ v) g e n f' := by
  obtain ⟨C, hb, hC⟩ := h; refine ⟨C.set! k v, ?_, fun j hj => ?_⟩
  · simp [World.setCell, Array.getElem?_modify, hb]
  · have hs : k < C.size := (Array.getElem?_eq_some_iff.1 (hC k hk)).1
    by_cases e : j = k
    · subst e
      simp [hs, hv]
    · rw [hf j e, ← hC j hj]
      have : ¬ k = j := fun x => e x.symm
      simp [this]
theorem FRow.congr {w : World} {g n : Nat} {e : TypeId} {f f' : Nat → Value} (h : FRow w g e n f) (hf : ∀ j, j < n → f' j = f j) : FRow w g e n f' := by
  obtain ⟨C, hb, hC⟩ := h
  exact ⟨C, hb, fun j hj => by rw [hf j hj]; exact hC j hj⟩
def txt (l : List UInt8) : Value := .string ⟨l.toArray⟩
structure Xd (w : World) (x a b c ka kb kc : Nat) (D : Dk) : Prop where
  c0 : w.cell? ⟨x, 0, none⟩ = some (.slice (some ⟨a, 0, none⟩) D.old.length ka)
  c1 : w.cell? ⟨x, 1, none⟩ = some (.slice (some ⟨b, 0, none⟩) D.old.length kb)
  c2 : w.cell? ⟨x, 2, none⟩ = some (.slice (some ⟨c, 0, none⟩) D.old.length kc)
  c3 : w.cell? ⟨x, 3, none⟩ = some (.int .i64 D.armed)
  c4 : w.cell? ⟨x, 4, none⟩ = some (.bool D.dead)
  c5 : w.cell? ⟨x, 5, none⟩ = some (.int .i64 D.acts)
  fz : ∀ j, w.frozen? ⟨x, j, none⟩ = false
  lt : x < w.heap.size
  ra : FRow w a 9 D.old.length (fun k => txt (D.old.getD k []))
  rb : FRow w b 9 D.old.length (fun k => txt (D.cur k))
  rc : FRow w c 4 D.old.length (fun k => .bool (D.fresh k).isSome)
  ok : D.Ok
  n1 : x ≠ a
  n2 : x ≠ b
  n3 : x ≠ c
  n4 : a ≠ b
  n5 : a ≠ c
  n6 : b ≠ c
def xown (x a b c : Nat) (k : Nat) : Prop := k = x ∨ k = a ∨ k = b ∨ k = c
theorem Xd.kept {S : Nat → Prop} {w w' : World} {x a b c ka kb kc : Nat} {D : Dk} (h : Xd w x a b c ka kb kc D) (ho : Only S w w') (h1 : ¬ S x) (h2 : ¬ S a) (h3 : ¬ S b) (h4 : ¬ S c) : Xd w' x a b c ka kb kc D := by
  obtain ⟨c0, c1, c2, c3, c4, c5, fz, lt, ra, rb, rc, ok, n1, n2, n3, n4, n5, n6⟩ := h
  exact ⟨(ho.cell (p := ⟨x, 0, none⟩) lt h1).trans c0, (ho.cell (p := ⟨x, 1, none⟩) lt h1).trans c1, (ho.cell (p := ⟨x, 2, none⟩) lt h1).trans c2, (ho.cell (p := ⟨x, 3, none⟩) lt h1).trans c3, (ho.cell (p := ⟨x, 4, none⟩) lt h1).trans c4, (ho.cell (p := ⟨x, 5, none⟩) lt h1).trans c5,
    fun j => (ho.frozen (p := ⟨x, j, none⟩) lt h1).trans (fz j), Nat.lt_of_lt_of_le lt ho.size, ra.kept ho h2, rb.kept ho h3, rc.kept ho h4, ok, n1, n2, n3, n4, n5, n6⟩
theorem Xd.same {w w' : World} {x a b c ka kb kc : Nat} {D : Dk} (h : Xd w x a b c ka kb kc D) (ho : Only (fun _ => False) w w') : Xd w' x a b c ka kb kc D := h.kept ho id id id id
theorem Xd.setc {w : World} {x a b c ka kb kc : Nat} {D : Dk} (h : Xd w x a b c ka kb kc D) (j : Nat) (u : Value) {D' : Dk} (hj : 3 ≤ j)
    (e3 : (if j = 3 then some u else w.cell? ⟨x, 3, none⟩) = some (.int .i64 D'.armed))
    (e4 : (if j = 4 then some u else w.cell? ⟨x, 4, none⟩) = some (.bool D'.dead))
    (e5 : (if j = 5 then some u else w.cell? ⟨x, 5, none⟩) = some (.int .i64 D'.acts))
    (ho : D'.old = D.old) (hf : D'.fresh = D.fresh) (ok : D'.Ok) : Xd (w.setCell ⟨x, j, none⟩ u) x a b c ka kb kc D' ∧ Only (xown x a b c) w (w.setCell ⟨x, j, none⟩ u) := by
  have hset : ∀ i v, w.cell? ⟨x, i, none⟩ = some v → (w.setCell ⟨x, j, none⟩ u).cell? ⟨x, i, none⟩ = if j = i then some u else w.cell? ⟨x, i, none⟩ := by
    intro i v hv
    by_cases e : j = i
    · subst e
      rw [if_pos rfl, World.cell?_setCell_same _ _ _ hv]
    · rw [if_neg e, World.cell?_setCell_other _ _ _ _ (by intro e2; cases e2; exact e rfl)]
  have hO : Only (fun k => k = x) w (w.setCell ⟨x, j, none⟩ u) := Only.setCell w ⟨x, j, none⟩ u rfl
  have hcur : D'.cur = D.cur := by funext k; unfold Dk.cur; rw [ho, hf]
  refine ⟨⟨?_, ?_, ?_, (hset 3 _ h.c3).trans e3, (hset 4 _ h.c4).trans e4, (hset 5 _ h.c5).trans e5, fun i => by simpa using h.fz i, by simpa using h.lt, ?_, ?_, ?_, ok, h.n1, h.n2, h.n3, h.n4, h.n5, h.n6⟩, hO.mono (fun k _ e => .inl e)⟩
  · rw [hset 0 _ h.c0, if_neg (by omega), ho]; exact h.c0
  · rw [hset 1 _ h.c1, if_neg (by omega), ho]; exact h.c1
  · rw [hset 2 _ h.c2, if_neg (by omega), ho]; exact h.c2
  · rw [ho]; exact h.ra.kept hO (fun e => h.n1 e.symm)
  · rw [ho, hcur]; exact h.rb.kept hO (fun e => h.n2 e.symm)
  · rw [ho, hf]; exact h.rc.kept hO (fun e => h.n3 e.symm)
theorem Xd.setActs {w : World} {x a b c ka kb kc : Nat} {D : Dk} (h : Xd w x a b c ka kb kc D) (y : Int) : Xd (w.setCell ⟨x, 5, none⟩ (.int .i64 y)) x a b c ka kb kc { D with acts := y } ∧ Only (xown x a b c) w (w.setCell ⟨x, 5, none⟩ (.int .i64 y)) :=
  h.setc 5 _ (by omega) (by simpa using h.c3) (by simpa using h.c4) (by simp) rfl rfl ⟨h.ok.lo, h.ok.hi, h.ok.o64, h.ok.f64, h.ok.arm0, h.ok.arm1⟩
theorem Xd.setArmed {w : World} {x a b c ka kb kc : Nat} {D : Dk} (h : Xd w x a b c ka kb kc D) (y : Int) (h0 : 0 ≤ y) (h1 : y < 9223372036854775808) : Xd (w.setCell ⟨x, 3, none⟩ (.int .i64 y)) x a b c ka kb kc { D with armed := y } ∧ Only (xown x a b c) w (w.setCell ⟨x, 3, none⟩ (.int .i64 y)) :=
  h.setc 3 _ (by omega) (by simp) (by simpa using h.c4) (by simpa using h.c5) rfl rfl ⟨h.ok.lo, h.ok.hi, h.ok.o64, h.ok.f64, h0, h1⟩
theorem Xd.setDead {w : World} {x a b c ka kb kc : Nat} {D : Dk} (h : Xd w x a b c ka kb kc D) (y : Bool) : Xd (w.setCell ⟨x, 4, none⟩ (.bool y)) x a b c ka kb kc { D with dead := y } ∧ Only (xown x a b c) w (w.setCell ⟨x, 4, none⟩ (.bool y)) :=
  h.setc 4 _ (by omega) (by simpa using h.c3) (by simp) (by simpa using h.c5) rfl rfl ⟨h.ok.lo, h.ok.hi, h.ok.o64, h.ok.f64, h.ok.arm0, h.ok.arm1⟩
theorem within_any (w : World) (x a b c ka kb kc : Nat) (D : Dk) (h : Xd w x a b c ka kb kc D) (p n : Int) (hp : -9223372036854775808 ≤ p ∧ p < 9223372036854775808) :
    Calls Tryz.prog 73 #[.pointer (some ⟨x, 0, none⟩), .int .i64 p, .int .i64 n] w fun e w' => e = .returned (.bool (hasB D.old.length p n)) ∧ w' = w := by
  have h0 := h.c0; have hl := h.ok.hi; obtain ⟨N, hN⟩ : ∃ N, D.old.length = N := ⟨_, rfl⟩; rw [hN] at h0 hl ⊢; have HX : Hid (hasB N p n = (decide (0 ≤ p) && (decide (0 ≤ n) && decide (n ≤ (N : Int) - p)))) := rfl
  by_cases h1 : 0 ≤ p
  · by_cases h2 : 0 ≤ n
    · by_cases h4 : p ≤ (N : Int)
      · by_cases h3 : n ≤ (N : Int) - p
        · go_enter Tryz.func73, Tryz.ntmps73
          go_wp2
          go_ret
          refine ⟨?_, rfl⟩; rw [HX.out]
          simp [h1, h2, h3]
        · go_enter Tryz.func73, Tryz.ntmps73
          go_wp2
          go_ret
          refine ⟨?_, rfl⟩; rw [HX.out]
          simp [h1, h2, h3]
      · go_enter Tryz.func73, Tryz.ntmps73
        go_wp2
        go_ret
        refine ⟨?_, rfl⟩; rw [HX.out]
        simp [h1, h2]
        omega
    · go_enter Tryz.func73, Tryz.ntmps73
      go_wp2
      go_ret
      refine ⟨?_, rfl⟩; rw [HX.out]
      simp [h1]
      intro h9
      omega
  · go_enter Tryz.func73, Tryz.ntmps73
    go_wp2
    go_ret
    refine ⟨?_, rfl⟩; rw [HX.out]
    simp
    intro h9
    omega
theorem xact_any (w : World) (x a b c ka kb kc : Nat) (D : Dk) (h : Xd w x a b c ka kb kc D) (hd : D.dead = false) :
    Calls Tryz.prog 70 #[.pointer (some ⟨x, 0, none⟩)] w fun e w' => e = .returned (.bool (decide (D.armed = 1))) ∧ Xd w' x a b c ka kb kc D.act ∧ Only (xown x a b c) w w' := by
  have h3 := h.c3; have h4 := h.c4; have h5 := h.c5; have f3 := h.fz 3; have f4 := h.fz 4; have f5 := h.fz 5; have a0 := h.ok.arm0; have a1 := h.ok.arm1; rw [hd] at h4; obtain ⟨x1, y1⟩ := h.setActs (wrap64 (D.acts + 1))
  by_cases ha : D.armed = 0
  · have hb : ¬ 0 < D.armed := by omega
    have HA : Hid (D.armed = 0) := ha; have HDd := hide hd; have X1 := hide x1; have Y1 := hide y1; clear h x1 y1 ha hd
    go_enter Tryz.func70, Tryz.ntmps70
    go_wp2
    go_ret
    refine ⟨by simp [HA.out], ?_, Y1.out⟩
    have e : D.act = { D with acts := wrap64 (D.acts + 1) } := by unfold Dk.act; simp [HA.out]
    rw [e]
    exact X1.out
  · obtain ⟨x2, y2⟩ := x1.setArmed (D.armed - 1) (by omega) (by omega)
    obtain ⟨x3, y3⟩ := x2.setDead (decide (D.armed = 1))
    have e : D.act = { { { D with acts := wrap64 (D.acts + 1) } with armed := D.armed - 1 } with dead := decide (D.armed = 1) } := by unfold Dk.act; simp [ha]
    have hq : (D.armed - 1 == 0) = decide (D.armed = 1) := by
      by_cases h1 : D.armed = 1
      · simp [h1]
      · simp [h1]; omega
    have HQ := hide hq; have Z := hide (And.intro x3 ((y1.trans y2 (fun _ _ h => h)).trans y3 (fun _ _ h => h))); rw [e]
    have hp : 0 < D.armed := by omega
    clear x1 y1 x2 y2 x3 y3 e h ha hq hd
    go_enter Tryz.func70, Tryz.ntmps70
    go_wp2
    go_ret
    simp only [HQ.out]
    exact ⟨rfl, Z.out.1, Z.out.2⟩
theorem xarm_any (w : World) (x a b c ka kb kc : Nat) (D : Dk) (h : Xd w x a b c ka kb kc D) (n : Int) (hn : n < 9223372036854775808) :
    Calls Tryz.prog 26 #[.pointer (some ⟨x, 0, none⟩), .int .i64 n] w fun e w' => e = .returned (.int .i64 (D.arm n).2) ∧ Xd w' x a b c ka kb kc (D.arm n).1 ∧ Only (xown x a b c) w w' := by
  have f3 := h.fz 3; have h3 := h.c3; have h4 := h.c4; have H := hide h; clear h
  cases hd : D.dead
  · rw [hd] at h4
    by_cases h0 : n < 0
    · have e : D.arm n = (D, 1) := by unfold Dk.arm; simp [hd, h0]
      rw [e]; clear hd e
      go_enter Tryz.func26, Tryz.ntmps26
      go_wp2
      go_ret
      exact ⟨rfl, H.out, Only.refl _ _⟩
    · have e : D.arm n = ({ D with armed := n }, 0) := by unfold Dk.arm; simp [hd, h0]
      have Z := hide (H.out.setArmed n (by omega) hn); rw [e]; clear hd e
      go_enter Tryz.func26, Tryz.ntmps26
      go_wp2
      go_ret
      exact ⟨rfl, Z.out.1, Z.out.2⟩
  · have e : D.arm n = (D, 5) := by unfold Dk.arm; simp [hd]
    rw [e]; rw [hd] at h4; clear hd e
    go_enter Tryz.func26, Tryz.ntmps26
    go_wp2
    go_ret
    exact ⟨rfl, H.out, Only.refl _ _⟩
structure Xr (w : World) (x a b c ka kb kc n : Nat) (armed acts : Int) (dead : Bool) (fa fb fc : Nat → Value) : Prop where
  c0 : w.cell? ⟨x, 0, none⟩ = some (.slice (some ⟨a, 0, none⟩) n ka)
  c1 : w.cell? ⟨x, 1, none⟩ = some (.slice (some ⟨b, 0, none⟩) n kb)
  c2 : w.cell? ⟨x, 2, none⟩ = some (.slice (some ⟨c, 0, none⟩) n kc)
  c3 : w.cell? ⟨x, 3, none⟩ = some (.int .i64 armed)
  c4 : w.cell? ⟨x, 4, none⟩ = some (.bool dead)
  c5 : w.cell? ⟨x, 5, none⟩ = some (.int .i64 acts)
  fz : ∀ j, w.frozen? ⟨x, j, none⟩ = false
  lt : x < w.heap.size
  ra : FRow w a 9 n fa
  rb : FRow w b 9 n fb
  rc : FRow w c 4 n fc
  n1 : x ≠ a
  n2 : x ≠ b
  n3 : x ≠ c
  n4 : a ≠ b
  n5 : a ≠ c
  n6 : b ≠ c
theorem Xd.raw {w : World} {x a b c ka kb kc : Nat} {D : Dk} (h : Xd w x a b c ka kb kc D) : Xr w x a b c ka kb kc D.old.length D.armed D.acts D.dead (fun k => txt (D.old.getD k [])) (fun k => txt (D.cur k)) (fun k => .bool (D.fresh k).isSome) :=
  ⟨h.c0, h.c1, h.c2, h.c3, h.c4, h.c5, h.fz, h.lt, h.ra, h.rb, h.rc, h.n1, h.n2, h.n3, h.n4, h.n5, h.n6⟩
theorem Xr.full {w : World} {x a b c ka kb kc n : Nat} {armed acts : Int} {dead : Bool} {fa fb fc : Nat → Value} (h : Xr w x a b c ka kb kc n armed acts dead fa fb fc) {D : Dk} (ok : D.Ok) (e1 : D.old.length = n) (e2 : D.armed = armed) (e3 : D.acts = acts) (e4 : D.dead = dead)
    (ea : ∀ k, k < n → txt (D.old.getD k []) = fa k) (eb : ∀ k, k < n → txt (D.cur k) = fb k) (ec : ∀ k, k < n → Value.bool (D.fresh k).isSome = fc k) : Xd w x a b c ka kb kc D := by
  subst e1; subst e2; subst e3; subst e4
  exact ⟨h.c0, h.c1, h.c2, h.c3, h.c4, h.c5, h.fz, h.lt, h.ra.congr ea, h.rb.congr eb, h.rc.congr ec, ok, h.n1, h.n2, h.n3, h.n4, h.n5, h.n6⟩
theorem Xr.kept {S : Nat → Prop} {w w' : World} {x a b c ka kb kc n : Nat} {armed acts : Int} {dead : Bool} {fa fb fc : Nat → Value} (h : Xr w x a b c ka kb kc n armed acts dead fa fb fc) (ho : Only S w w') (h1 : ¬ S x) (h2 : ¬ S a) (h3 : ¬ S b) (h4 : ¬ S c) : Xr w' x a b c ka kb kc n armed acts dead fa fb fc := by
  obtain ⟨c0, c1, c2, c3, c4, c5, fz, lt, ra, rb, rc, n1, n2, n3, n4, n5, n6⟩ := h
  exact ⟨(ho.cell (p := ⟨x, 0, none⟩) lt h1).trans c0, (ho.cell (p := ⟨x, 1, none⟩) lt h1).trans c1, (ho.cell (p := ⟨x, 2, none⟩) lt h1).trans c2, (ho.cell (p := ⟨x, 3, none⟩) lt h1).trans c3, (ho.cell (p := ⟨x, 4, none⟩) lt h1).trans c4, (ho.cell (p := ⟨x, 5, none⟩) lt h1).trans c5,
    fun j => (ho.frozen (p := ⟨x, j, none⟩) lt h1).trans (fz j), Nat.lt_of_lt_of_le lt ho.size, ra.kept ho h2, rb.kept ho h3, rc.kept ho h4, n1, n2, n3, n4, n5, n6⟩
theorem Xr.cells {w : World} {x a b c ka kb kc n : Nat} {armed acts : Int} {dead : Bool} {fa fb fc : Nat → Value} (h : Xr w x a b c ka kb kc n armed acts dead fa fb fc) {g : Nat} (hg : x ≠ g) (k : Nat) (v : Value) : let w' := w.setCell ⟨g, k, none⟩ v
    w'.cell? ⟨x, 0, none⟩ = w.cell? ⟨x, 0, none⟩ ∧ w'.cell? ⟨x, 1, none⟩ = w.cell? ⟨x, 1, none⟩ ∧ w'.cell? ⟨x, 2, none⟩ = w.cell? ⟨x, 2, none⟩ ∧ w'.cell? ⟨x, 3, none⟩ = w.cell? ⟨x, 3, none⟩ ∧ w'.cell? ⟨x, 4, none⟩ = w.cell? ⟨x, 4, none⟩ ∧ w'.cell? ⟨x, 5, none⟩ = w.cell? ⟨x, 5, none⟩ ∧ (∀ j, w'.frozen? ⟨x, j, none⟩ = false) ∧ x < w'.heap.size := by
  have hO : Only (fun i => i = g) w (w.setCell ⟨g, k, none⟩ v) := Only.setCell w ⟨g, k, none⟩ v rfl
  exact ⟨hO.cell (p := ⟨x, 0, none⟩) h.lt hg, hO.cell (p := ⟨x, 1, none⟩) h.lt hg, hO.cell (p := ⟨x, 2, none⟩) h.lt hg, hO.cell (p := ⟨x, 3, none⟩) h.lt hg, hO.cell (p := ⟨x, 4, none⟩) h.lt hg, hO.cell (p := ⟨x, 5, none⟩) h.lt hg, fun j => by simpa using h.fz j, by simpa using h.lt⟩
theorem Xr.setA {w : World} {x a b c ka kb kc n : Nat} {armed acts : Int} {dead : Bool} {fa fb fc : Nat → Value} (h : Xr w x a b c ka kb kc n armed acts dead fa fb fc) {k : Nat} (hk : k < n) (v : Value) {fa' : Nat → Value} (hv : fa' k = v) (hf : ∀ j, j ≠ k → fa' j = fa j) : Xr (w.setCell ⟨a, k, none⟩ v) x a b c ka kb kc n armed acts dead fa' fb fc ∧ Only (xown x a b c) w (w.setCell ⟨a, k, none⟩ v) := by
  obtain ⟨q0, q1, q2, q3, q4, q5, qf, ql⟩ := h.cells h.n1 k v; have hO : Only (fun i => i = a) w (w.setCell ⟨a, k, none⟩ v) := Only.setCell w ⟨a, k, none⟩ v rfl
  exact ⟨⟨q0.trans h.c0, q1.trans h.c1, q2.trans h.c2, q3.trans h.c3, q4.trans h.c4, q5.trans h.c5, qf, ql, h.ra.set hk v hv hf, h.rb.kept hO (fun e => h.n4 e.symm), h.rc.kept hO (fun e => h.n5 e.symm), h.n1, h.n2, h.n3, h.n4, h.n5, h.n6⟩, hO.mono (fun _ _ e => .inr (.inl e))⟩
theorem Xr.setB {w : World} {x a b c ka kb kc n : Nat} {armed acts : Int} {dead : Bool} {fa fb fc : Nat → Value} (h : Xr w x a b c ka kb kc n armed acts dead fa fb fc) {k : Nat} (hk : k < n) (v : Value) {fb' : Nat → Value} (hv : fb' k = v) (hf : ∀ j, j ≠ k → fb' j = fb j) : Xr (w.setCell ⟨b, k, none⟩ v) x a b c ka kb kc n armed acts dead fa fb' fc ∧ Only (xown x a b c) w (w.setCell ⟨b, k, none⟩ v) := by
  obtain ⟨q0, q1, q2, q3, q4, q5, qf, ql⟩ := h.cells h.n2 k v; have hO : Only (fun i => i = b) w (w.setCell ⟨b, k, none⟩ v) := Only.setCell w ⟨b, k, none⟩ v rfl
  exact ⟨⟨q0.trans h.c0, q1.trans h.c1, q2.trans h.c2, q3.trans h.c3, q4.trans h.c4, q5.trans h.c5, qf, ql, h.ra.kept hO h.n4, h.rb.set hk v hv hf, h.rc.kept hO (fun e => h.n6 e.symm), h.n1, h.n2, h.n3, h.n4, h.n5, h.n6⟩, hO.mono (fun _ _ e => .inr (.inr (.inl e)))⟩
theorem Xr.setC {w : World} {x a b c ka kb kc n : Nat} {armed acts : Int} {dead : Bool} {fa fb fc : Nat → Value} (h : Xr w x a b c ka kb kc n armed acts dead fa fb fc) {k : Nat} (hk : k < n) (v : Value) {fc' : Nat → Value} (hv : fc' k = v) (hf : ∀ j, j ≠ k → fc' j = fc j) : Xr (w.setCell ⟨c, k, none⟩ v) x a b c ka kb kc n armed acts dead fa fb fc' ∧ Only (xown x a b c) w (w.setCell ⟨c, k, none⟩ v) := by
  obtain ⟨q0, q1, q2, q3, q4, q5, qf, ql⟩ := h.cells h.n3 k v; have hO : Only (fun i => i = c) w (w.setCell ⟨c, k, none⟩ v) := Only.setCell w ⟨c, k, none⟩ v rfl
  exact ⟨⟨q0.trans h.c0, q1.trans h.c1, q2.trans h.c2, q3.trans h.c3, q4.trans h.c4, q5.trans h.c5, qf, ql, h.ra.kept hO h.n5, h.rb.kept hO h.n6, h.rc.set hk v hv hf, h.n1, h.n2, h.n3, h.n4, h.n5, h.n6⟩, hO.mono (fun _ _ e => .inr (.inr (.inr e)))⟩
set_option maxRecDepth 100000 in
set_option maxHeartbeats 1600000 in
theorem xsync_ok (w : World) (x a b c ka kb kc : Nat) (D : Dk) (h : Xd w x a b c ka kb kc D) (hd : D.dead = false) (h1 : D.armed ≠ 1) :
    Calls Tryz.prog 22 #[.pointer (some ⟨x, 0, none⟩)] w fun e w' => e = .returned (.int .i64 0) ∧ Xd w' x a b c ka kb kc D.act.synced ∧ Only (xown x a b c) w w' := by
  have hxa := xact_any w x a b c ka kb kc D h hd; simp only [h1, decide_false] at hxa; have h4 := h.c4; rw [hd] at h4; have h64 := h.ok.hi; have HOk := hide h.ok; clear hd h1 h
  go_enter Tryz.func22, Tryz.ntmps22
  go_wp2_with fail
  refine hxa.mono ?_; rintro e w1 ⟨rfl, hX1, hO1⟩; obtain ⟨E, hE⟩ : ∃ E, D.act = E := ⟨_, rfl⟩
  have hEl : E.old.length = D.old.length := by rw [← hE]; rfl
  rw [hE] at hX1; have HE := hide hE; obtain ⟨n, hn⟩ : ∃ n, E.old.length = n := ⟨_, rfl⟩
  have hn64 : n ≤ 65536 := by omega
  have hr := hX1.raw; rw [hn] at hr; have HR1 := hide hr; have HO1 := hide hO1; have HEk := hide hX1.ok; have HN := hide hn; clear hxa hX1 hO1 hE hEl hn hr
  go_wp2_with fail
  go_loopw [3] (fun y wr => ∃ (i : Nat), i ≤ n ∧ y = .int .i64 (i : Int) ∧ Hid (Xr wr x a b c ka kb kc n E.armed E.acts E.dead (fun k => if k < i then txt (E.cur k) else txt (E.old.getD k [])) (fun k => txt (E.cur k)) (fun k => if k < i then .bool false else .bool (E.fresh k).isSome)) ∧ Hid (Only (xown x a b c) w wr)) (fun y _ => n - (intOf y).toNat)
  case atStart => exact ⟨0, by omega, rfl, by simpa using HR1, HO1⟩
  case round =>
    obtain ⟨i, hi, rfl, HX, HO⟩ := hrel; have hc0 := HX.out.c0; have hc1 := HX.out.c1; have hc2 := HX.out.c2
    by_cases hil : i < n
    · have hb := HX.out.rb.cell hil
      have ha := HX.out.ra.cell hil; have hfa := HX.out.ra.frozen i; have hcc := HX.out.rc.cell hil; have hfc := HX.out.rc.frozen i; obtain ⟨sv, hsv⟩ : ∃ sv, txt (E.cur i) = .string sv := ⟨_, rfl⟩; rw [hsv] at hb
      obtain ⟨hX2, hO2⟩ := HX.out.setA hil (.string sv) (fa' := fun k => if k < i + 1 then txt (E.cur k) else txt (E.old.getD k [])) (by simp [hsv]) (fun j hj => by
        by_cases e : j < i
        · simp [e, show j < i + 1 by omega]
        · simp [e, show ¬ j < i + 1 by omega])
      obtain ⟨hX3, hO3⟩ := hX2.setC hil (.bool false) (fc' := fun k => if k < i + 1 then .bool false else .bool (E.fresh k).isSome) (by simp) (fun j hj => by
        by_cases e : j < i
        · simp [e, show j < i + 1 by omega]
        · simp [e, show ¬ j < i + 1 by omega])
      have hc22 := hX2.c2; have hcc2 := hX2.rc.cell hil; have hfc2 := hX2.rc.frozen i; have HZ := hide (And.intro (hX3.kept (Only.drew (fun _ => False) _) id id id id) (((HO.out.trans hO2 (fun _ _ h => h)).trans hO3 (fun _ _ h => h)).trans (Only.drew (fun _ => False) _) (fun _ _ h => h.elim)))
      have hi0 : (0 : Int) ≤ (i : Int) := by omega
      have hi1 : (i : Int) < (n : Int) := by omega
      clear hX2 hO2 hX3 hO3 hsv
      go_wp2_with fail
      go_region
      go_wp2_with fail
      go_roundw
      case rel => exact ⟨i + 1, by omega, by go_num, hide HZ.out.1, hide HZ.out.2⟩
      case measure => simp [intOf]; omega
    · have ei : i = n := by omega
      have hfull : Xd wr x a b c ka kb kc E.synced := by
        refine HX.out.full HEk.out.synced (by simp [Dk.synced, HN.out]) rfl rfl rfl (fun k hk => ?_) (fun k hk => ?_) (fun k hk => ?_)
        · have hk' : k < E.old.length := by rw [HN.out]; exact hk
          rw [if_pos (by omega)]; simp only [Dk.synced, List.getD_eq_getElem?_getD, List.getElem?_map, List.getElem?_range hk', Option.map_some, Option.getD_some]
        · have hk' : k < E.old.length := by rw [HN.out]; exact hk
          simp only [Dk.synced, Dk.cur, Option.getD_none, List.getD_eq_getElem?_getD, List.getElem?_map, List.getElem?_range hk', Option.map_some, Option.getD_some]
        · rw [if_pos (by omega)]
          simp [Dk.synced]
      have HF := hide hfull; clear hfull ei
      go_wp2_with fail
      go_ret
      rw [HE.out]
      exact ⟨rfl, HF.out, HO.out⟩
theorem xsync_any (w : World) (x a b c ka kb kc : Nat) (D : Dk) (h : Xd w x a b c ka kb kc D) :
    Calls Tryz.prog 22 #[.pointer (some ⟨x, 0, none⟩)] w fun e w' => e = .returned (.int .i64 D.sync.2) ∧ Xd w' x a b c ka kb kc D.sync.1 ∧ Only (xown x a b c) w w' := by
  unfold Dk.sync
  cases hd : D.dead
  · by_cases h1 : D.armed = 1
    · simp only [h1, if_true]
      have hxa := xact_any w x a b c ka kb kc D h hd; simp only [h1, decide_true] at hxa; have h4 := h.c4; rw [hd] at h4; clear hd h1 h
      go_enter Tryz.func22, Tryz.ntmps22
      go_wp2_with fail
      refine hxa.mono ?_; rintro e w1 ⟨rfl, hX1, hO1⟩
      go_wp2_with fail
      go_ret
      exact ⟨rfl, hX1, hO1⟩
    · simp only [h1, if_false]
      exact xsync_ok w x a b c ka kb kc D h hd h1
  · have h4 := h.c4
    rw [hd] at h4; have H := hide h; clear hd h
    go_enter Tryz.func22, Tryz.ntmps22
    go_wp2_with fail
    go_ret
    exact ⟨rfl, H.out, Only.refl _ _⟩
theorem Xd.put {w' : World} {x a b c ka kb kc n : Nat} {D : Dk} (h : D.Ok) (hn : D.old.length = n) {k : Nat} (hk : k < n) {l : List UInt8} (hl : l.length = 64)
    (hr : Xr w' x a b c ka kb kc n D.armed D.acts D.dead (fun j => txt (D.old.getD j [])) (fun j => if j = k then txt l else txt (D.cur j)) (fun j => if j = k then .bool true else .bool (D.fresh j).isSome)) : Xd w' x a b c ka kb kc (D.put k l) := by
  refine hr.full (h.put (by omega) hl) hn rfl rfl rfl (fun _ _ => rfl) (fun j _ => ?_) (fun j _ => ?_)
  · by_cases e : j = k
    · simp [Dk.cur, Dk.put, e]
    · simp [Dk.cur, Dk.put, e]
  · by_cases e : j = k
    · simp [Dk.put, e]
    · simp [Dk.put, e]
set_option maxRecDepth 100000 in
set_option maxHeartbeats 1600000 in
theorem xwrite_ok (w : World) (x a b c ka kb kc : Nat) (D : Dk) (h : Xd w x a b c ka kb kc D) (hd : D.dead = false) (p n : Nat) (s : ByteArray) (hs : s.size = n * 64) (hn : p + n ≤ D.old.length) :
    Calls Tryz.prog 44 #[.pointer (some ⟨x, 0, none⟩), .int .i64 (p : Int), .string s] w fun e w' =>
      e = .returned (.int .i64 (D.writes p (chunks n s.data.toList)).2) ∧ Xd w' x a b c ka kb kc (D.writes p (chunks n s.data.toList)).1 ∧ Only (xown x a b c) w w' := by
  have h4 := h.c4; rw [hd] at h4; have h64 := h.ok.hi; have hh := within_any w x a b c ka kb kc D h p n (by omega)
  have e : hasB D.old.length p n = true := by unfold hasB; simp; omega
  rw [e] at hh; have H := hide h; have HD := hide hd
  have hq : (s.size : Int) / 64 = (n : Int) := by omega
  have hr : (s.size : Int) % 64 = 0 := by omega
  obtain ⟨R, hR⟩ : ∃ R, D.writes p (chunks n s.data.toList) = R := ⟨_, rfl⟩; rw [hR]; have HR := hide hR; clear h hd e hR
  go_enter Tryz.func44, Tryz.ntmps44
  go_wp2_with (first
    | (go_at_call 73; refine hh.mono ?_; rintro e w' ⟨rfl, hw⟩; obtain rfl := hw.symm))
  clear hh
  go_loopw [7] (fun y wr => ∃ (j : Nat) (E : Dk), j ≤ n ∧ y = .int .i64 (j : Int) ∧ E.old.length = D.old.length ∧ Hid (Xd wr x a b c ka kb kc E ∧ E.dead = false) ∧ Hid (E.writes (p + j) ((chunks n s.data.toList).drop j) = R) ∧ Hid (Only (xown x a b c) w wr)) (fun y _ => n - (intOf y).toNat)
  case atStart => exact ⟨0, D, by omega, rfl, rfl, hide ⟨H.out, HD.out⟩, HR, hide (Only.refl _ _)⟩
  case round =>
    obtain ⟨j, E, hj, rfl, hl, HE, HW, HO⟩ := hrel
    by_cases hlt : j < n
    · obtain ⟨k, hk⟩ : ∃ k, p + j = k := ⟨_, rfl⟩
      have hkn : k < E.old.length := by omega
      obtain ⟨ch, hch⟩ : ∃ ch, (s.data.toList.drop (64 * j)).take 64 = ch := ⟨_, rfl⟩
      have hcl : ch.length = 64 := by
        rw [← hch]
        simp
        have : s.data.size = n * 64 := hs
        omega
      obtain ⟨sv, hsv⟩ : ∃ sv, s.extract (64 * j) (64 * j + 64) = sv := ⟨_, rfl⟩
      have htx : txt ch = .string sv := by
        unfold txt
        congr 1
        rw [← hsv, ← hch]
        apply ByteArray.ext
        rw [ByteArray.data_extract]
        apply Array.ext'
        rw [Array.toList_extract, List.extract_eq_take_drop, show 64 * j + 64 - 64 * j = 64 by omega]
      have hX := HE.out.1.raw; obtain ⟨N, hN⟩ : ∃ N, E.old.length = N := ⟨_, rfl⟩; rw [hN] at hX hkn; have hc1 := hX.c1; have hcb := hX.rb.cell hkn; have hfb := hX.rb.frozen k; obtain ⟨hX2, hO2⟩ := hX.setB hkn (.string sv) (fb' := fun j => if j = k then txt ch else txt (E.cur j)) (by simp [htx]) (fun j hj => by simp [hj]); obtain ⟨hX3, hO3⟩ := hX2.setC hkn (.bool true) (fc' := fun j => if j = k then .bool true else .bool (E.fresh j).isSome) (by simp) (fun j hj => by simp [hj]); have hc22 := hX2.c2; have hcc2 := hX2.rc.cell hkn; have hfc2 := hX2.rc.frozen k; have hX4 := Xd.put HE.out.1.ok hN hkn hcl (hX3.kept (Only.drew (fun _ => False) _) id id id id); have hdi := xact_any _ x a b c ka kb kc _ hX4 HE.out.2; have HO4 := hide (((HO.out.trans hO2 (fun _ _ h => h)).trans hO3 (fun _ _ h => h)).trans (Only.drew (fun _ => False) _) (fun _ _ h => h.elim)); have hws := writes_step E k ch ((chunks n s.data.toList).drop (j + 1))
      have hwr : E.writes k (ch :: (chunks n s.data.toList).drop (j + 1)) = R := by
        rw [← HW.out, chunks_drop n _ j hlt, hch, hk]
      rw [hwr] at hws; have HWS := hide hws; have ea : (E.put k ch).armed = E.armed := rfl; rw [ea] at hdi
      have hkI : (p : Int) + (j : Int) = (k : Int) := by omega
      have hk0 : (0 : Int) ≤ (k : Int) := by omega
      have hk1 : (k : Int) < (N : Int) := by omega
      have HK := hide hk; have HNN := hide hN; clear hX hX2 hX3 hO2 hO3 hX4 hws hwr htx hch hk hN
      by_cases h1 : E.armed = 1
      · have hw2 : R = ((E.put k ch).act, 5) := by have := HWS.out; rwa [if_pos h1] at this
        simp only [h1, decide_true] at hdi; have HW2 := hide hw2; clear h1 hw2
        go_wp2_with fail
        go_region
        go_wp2_with (first | (go_at_call 70; refine hdi.mono ?_; rintro e w3 ⟨rfl, hE4, hO4⟩))
        go_ret
        rw [HW2.out]
        exact ⟨rfl, hE4, HO4.out.trans hO4 (fun _ _ h => h)⟩
      · have hw2 : Dk.writes (E.put k ch).act (k + 1) ((chunks n s.data.toList).drop (j + 1)) = R := by have := HWS.out; rw [if_neg h1] at this; exact this.symm
        have hdd : ((E.put k ch).act).dead = false := by
          have e1 : (E.put k ch).dead = E.dead := rfl; simp only [Dk.act, ea, h1, e1, HE.out.2]
          simp
        simp only [h1, decide_false] at hdi; have HW2 := hide hw2; have HDD := hide hdd; clear h1 hw2 hdd
        go_wp2_with fail
        go_region
        go_wp2_with (first | (go_at_call 70; refine hdi.mono ?_; rintro e w3 ⟨rfl, hE4, hO4⟩))
        go_roundw
        case rel => exact ⟨j + 1, (E.put k ch).act, by omega, by go_num, hl, hide ⟨hE4, HDD.out⟩, by rw [← Nat.add_assoc, HK.out]; exact HW2, hide (HO4.out.trans hO4 (fun _ _ h => h))⟩
        case measure => simp [intOf]; omega
    · have ej : j = n := by omega
      have e : R = (E, 0) := by
        rw [← HW.out, List.drop_of_length_le (by rw [chunks_len]; omega)]
        rfl
      have HEE := hide e; clear e ej
      go_wp2
      go_ret
      rw [HEE.out]
      exact ⟨rfl, HE.out.1, HO.out⟩
theorem xwrite_bad (w : World) (x a b c ka kb kc : Nat) (D : Dk) (h : Xd w x a b c ka kb kc D) (hd : D.dead = false) (p : Int) (s : ByteArray) (hp : -9223372036854775808 ≤ p ∧ p < 9223372036854775808) (hs : s.size < 9223372036854775808) (hb : s.size % 64 ≠ 0 ∨ hasB D.old.length p ((s.size / 64 : Nat) : Int) = false) :
    Calls Tryz.prog 44 #[.pointer (some ⟨x, 0, none⟩), .int .i64 p, .string s] w fun e w' => e = .returned (.int .i64 20) ∧ w' = w := by
  have h4 := h.c4; rw [hd] at h4; have hh := within_any w x a b c ka kb kc D h p ((s.size / 64 : Nat) : Int) hp
  by_cases h1 : s.size % 64 = 0
  · have e : hasB D.old.length p ((s.size / 64 : Nat) : Int) = false := by rcases hb with h | h; exact absurd h1 h; exact h
    rw [e] at hh
    have h1' : (s.size : Int) % 64 = 0 := by omega
    clear hd h hb e hp
    go_enter Tryz.func44, Tryz.ntmps44
    go_wp2_with (first | (go_at_call 73; refine hh.mono ?_; rintro e w' ⟨rfl, rfl⟩))
    go_ret
    exact ⟨rfl, rfl⟩
  · have h1' : ¬ (s.size : Int) % 64 = 0 := by omega
    clear hd h hb hp h1
    go_enter Tryz.func44, Tryz.ntmps44
    go_wp2_with fail
    go_ret
    exact ⟨rfl, rfl⟩
theorem xwrite_dead (w : World) (x a b c ka kb kc : Nat) (D : Dk) (h : Xd w x a b c ka kb kc D) (hd : D.dead = true) (u v : Value) : Calls Tryz.prog 44 #[.pointer (some ⟨x, 0, none⟩), u, v] w fun e w' => e = .returned (.int .i64 5) ∧ w' = w := by
  have h4 := h.c4; rw [hd] at h4; clear hd h
  go_enter Tryz.func44, Tryz.ntmps44
  go_wp2_with fail
  go_ret
  exact ⟨rfl, rfl⟩
theorem xwrite_any (w : World) (x a b c ka kb kc : Nat) (D : Dk) (h : Xd w x a b c ka kb kc D) (p : Int) (s : ByteArray) (hp : -9223372036854775808 ≤ p ∧ p < 9223372036854775808) (hs : s.size < 9223372036854775808) :
    Calls Tryz.prog 44 #[.pointer (some ⟨x, 0, none⟩), .int .i64 p, .string s] w fun e w' =>
      e = .returned (.int .i64 (D.write p s.data.toList).2) ∧ Xd w' x a b c ka kb kc (D.write p s.data.toList).1 ∧ Only (xown x a b c) w w' := by
  have hl : s.data.toList.length = s.size := by simp
  cases hd : D.dead
  · by_cases hb : s.size % 64 = 0 ∧ hasB D.old.length p ((s.size / 64 : Nat) : Int) = true
    · have e : D.write p s.data.toList = D.writes p.toNat (chunks (s.size / 64) s.data.toList) := by unfold Dk.write; simp only [hl, hd, if_pos hb]; rfl
      rw [e]; obtain ⟨h1, h2⟩ := hb; unfold hasB at h2
      simp at h2
      obtain ⟨p', rfl⟩ := Int.eq_ofNat_of_zero_le h2.1
      exact xwrite_ok w x a b c ka kb kc D h hd p' (s.size / 64) s (by omega) (by omega)
    · have e : D.write p s.data.toList = (D, 20) := by unfold Dk.write; simp only [hl, hd, if_neg hb]; rfl
      rw [e]; refine (xwrite_bad w x a b c ka kb kc D h hd p s hp hs ?_).mono ?_
      · by_cases h1 : s.size % 64 = 0
        · right; simpa using fun e => hb ⟨h1, e⟩
        · exact .inl h1
      · rintro e w' ⟨rfl, rfl⟩
        exact ⟨rfl, h, Only.refl _ _⟩
  · have e : D.write p s.data.toList = (D, 5) := by unfold Dk.write; simp [hd]
    rw [e]; refine (xwrite_dead w x a b c ka kb kc D h hd _ _).mono ?_; rintro e w' ⟨rfl, rfl⟩
    exact ⟨rfl, h, Only.refl _ _⟩
end Go.Proofs.YtebijheonkagfaaGreatDoor
