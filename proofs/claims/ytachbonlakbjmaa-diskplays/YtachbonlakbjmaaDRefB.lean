/- The document's disk: Sync and Write. -/
import Derived.Test.YtachbonlakbjmaaDRefA
namespace Go.Proofs.Ytachbonlakbjmaa
open Go.RowKit

/-- The struct and the rows, whatever the rows hold. -/
structure Xr (w : World) (x a b c ka kb kc n : Nat) (armed acts : Int) (dead : Bool) (fa fb fc : Nat → Value) : Prop where
  c0 : w.cell? ⟨x, 0, none⟩ = some (.slice (some ⟨a, 0, none⟩) n ka)
  c1 : w.cell? ⟨x, 1, none⟩ = some (.slice (some ⟨b, 0, none⟩) n kb)
  c2 : w.cell? ⟨x, 2, none⟩ = some (.slice (some ⟨c, 0, none⟩) n kc)
  c3 : w.cell? ⟨x, 3, none⟩ = some (.int .i64 armed)
  c4 : w.cell? ⟨x, 4, none⟩ = some (.bool dead)
  c5 : w.cell? ⟨x, 5, none⟩ = some (.int .i64 acts)
  fz : ∀ j, w.frozen? ⟨x, j, none⟩ = false
  lt : x < w.heap.size
  ra : FRow w a 9 n fa
  rb : FRow w b 9 n fb
  rc : FRow w c 4 n fc
  n1 : x ≠ a
  n2 : x ≠ b
  n3 : x ≠ c
  n4 : a ≠ b
  n5 : a ≠ c
  n6 : b ≠ c
theorem Xd.raw {w : World} {x a b c ka kb kc : Nat} {D : Dk} (h : Xd w x a b c ka kb kc D) : Xr w x a b c ka kb kc D.old.length D.armed D.acts D.dead (fun k => txt (D.old.getD k [])) (fun k => txt (D.cur k)) (fun k => .bool (D.fresh k).isSome) :=
  ⟨h.c0, h.c1, h.c2, h.c3, h.c4, h.c5, h.fz, h.lt, h.ra, h.rb, h.rc, h.n1, h.n2, h.n3, h.n4, h.n5, h.n6⟩
theorem Xr.full {w : World} {x a b c ka kb kc n : Nat} {armed acts : Int} {dead : Bool} {fa fb fc : Nat → Value} (h : Xr w x a b c ka kb kc n armed acts dead fa fb fc) {D : Dk} (ok : D.Ok) (e1 : D.old.length = n) (e2 : D.armed = armed) (e3 : D.acts = acts) (e4 : D.dead = dead)
    (ea : ∀ k, k < n → txt (D.old.getD k []) = fa k) (eb : ∀ k, k < n → txt (D.cur k) = fb k) (ec : ∀ k, k < n → Value.bool (D.fresh k).isSome = fc k) : Xd w x a b c ka kb kc D := by
  subst e1; subst e2; subst e3; subst e4
  exact ⟨h.c0, h.c1, h.c2, h.c3, h.c4, h.c5, h.fz, h.lt, h.ra.congr ea, h.rb.congr eb, h.rc.congr ec, ok, h.n1, h.n2, h.n3, h.n4, h.n5, h.n6⟩
theorem Xr.kept {S : Nat → Prop} {w w' : World} {x a b c ka kb kc n : Nat} {armed acts : Int} {dead : Bool} {fa fb fc : Nat → Value} (h : Xr w x a b c ka kb kc n armed acts dead fa fb fc) (ho : Only S w w') (h1 : ¬ S x) (h2 : ¬ S a) (h3 : ¬ S b) (h4 : ¬ S c) : Xr w' x a b c ka kb kc n armed acts dead fa fb fc := by
  obtain ⟨c0, c1, c2, c3, c4, c5, fz, lt, ra, rb, rc, n1, n2, n3, n4, n5, n6⟩ := h
  exact ⟨(ho.cell (p := ⟨x, 0, none⟩) lt h1).trans c0, (ho.cell (p := ⟨x, 1, none⟩) lt h1).trans c1, (ho.cell (p := ⟨x, 2, none⟩) lt h1).trans c2, (ho.cell (p := ⟨x, 3, none⟩) lt h1).trans c3, (ho.cell (p := ⟨x, 4, none⟩) lt h1).trans c4, (ho.cell (p := ⟨x, 5, none⟩) lt h1).trans c5,
    fun j => (ho.frozen (p := ⟨x, j, none⟩) lt h1).trans (fz j), Nat.lt_of_lt_of_le lt ho.size, ra.kept ho h2, rb.kept ho h3, rc.kept ho h4, n1, n2, n3, n4, n5, n6⟩
theorem Xr.cells {w : World} {x a b c ka kb kc n : Nat} {armed acts : Int} {dead : Bool} {fa fb fc : Nat → Value} (h : Xr w x a b c ka kb kc n armed acts dead fa fb fc) {g : Nat} (hg : x ≠ g) (k : Nat) (v : Value) : let w' := w.setCell ⟨g, k, none⟩ v
    w'.cell? ⟨x, 0, none⟩ = w.cell? ⟨x, 0, none⟩ ∧ w'.cell? ⟨x, 1, none⟩ = w.cell? ⟨x, 1, none⟩ ∧ w'.cell? ⟨x, 2, none⟩ = w.cell? ⟨x, 2, none⟩ ∧ w'.cell? ⟨x, 3, none⟩ = w.cell? ⟨x, 3, none⟩ ∧ w'.cell? ⟨x, 4, none⟩ = w.cell? ⟨x, 4, none⟩ ∧ w'.cell? ⟨x, 5, none⟩ = w.cell? ⟨x, 5, none⟩ ∧ (∀ j, w'.frozen? ⟨x, j, none⟩ = false) ∧ x < w'.heap.size := by
  have hO : Only (fun i => i = g) w (w.setCell ⟨g, k, none⟩ v) := Only.setCell w ⟨g, k, none⟩ v rfl
  exact ⟨hO.cell (p := ⟨x, 0, none⟩) h.lt hg, hO.cell (p := ⟨x, 1, none⟩) h.lt hg, hO.cell (p := ⟨x, 2, none⟩) h.lt hg, hO.cell (p := ⟨x, 3, none⟩) h.lt hg, hO.cell (p := ⟨x, 4, none⟩) h.lt hg, hO.cell (p := ⟨x, 5, none⟩) h.lt hg, fun j => by simpa using h.fz j, by simpa using h.lt⟩
theorem Xr.setA {w : World} {x a b c ka kb kc n : Nat} {armed acts : Int} {dead : Bool} {fa fb fc : Nat → Value} (h : Xr w x a b c ka kb kc n armed acts dead fa fb fc) {k : Nat} (hk : k < n) (v : Value) {fa' : Nat → Value} (hv : fa' k = v) (hf : ∀ j, j ≠ k → fa' j = fa j) : Xr (w.setCell ⟨a, k, none⟩ v) x a b c ka kb kc n armed acts dead fa' fb fc ∧ Only (xown x a b c) w (w.setCell ⟨a, k, none⟩ v) := by
  obtain ⟨q0, q1, q2, q3, q4, q5, qf, ql⟩ := h.cells h.n1 k v
  have hO : Only (fun i => i = a) w (w.setCell ⟨a, k, none⟩ v) := Only.setCell w ⟨a, k, none⟩ v rfl
  exact ⟨⟨q0.trans h.c0, q1.trans h.c1, q2.trans h.c2, q3.trans h.c3, q4.trans h.c4, q5.trans h.c5, qf, ql, h.ra.set hk v hv hf, h.rb.kept hO (fun e => h.n4 e.symm), h.rc.kept hO (fun e => h.n5 e.symm), h.n1, h.n2, h.n3, h.n4, h.n5, h.n6⟩, hO.mono (fun _ _ e => .inr (.inl e))⟩
theorem Xr.setB {w : World} {x a b c ka kb kc n : Nat} {armed acts : Int} {dead : Bool} {fa fb fc : Nat → Value} (h : Xr w x a b c ka kb kc n armed acts dead fa fb fc) {k : Nat} (hk : k < n) (v : Value) {fb' : Nat → Value} (hv : fb' k = v) (hf : ∀ j, j ≠ k → fb' j = fb j) : Xr (w.setCell ⟨b, k, none⟩ v) x a b c ka kb kc n armed acts dead fa fb' fc ∧ Only (xown x a b c) w (w.setCell ⟨b, k, none⟩ v) := by
  obtain ⟨q0, q1, q2, q3, q4, q5, qf, ql⟩ := h.cells h.n2 k v
  have hO : Only (fun i => i = b) w (w.setCell ⟨b, k, none⟩ v) := Only.setCell w ⟨b, k, none⟩ v rfl
  exact ⟨⟨q0.trans h.c0, q1.trans h.c1, q2.trans h.c2, q3.trans h.c3, q4.trans h.c4, q5.trans h.c5, qf, ql, h.ra.kept hO h.n4, h.rb.set hk v hv hf, h.rc.kept hO (fun e => h.n6 e.symm), h.n1, h.n2, h.n3, h.n4, h.n5, h.n6⟩, hO.mono (fun _ _ e => .inr (.inr (.inl e)))⟩
theorem Xr.setC {w : World} {x a b c ka kb kc n : Nat} {armed acts : Int} {dead : Bool} {fa fb fc : Nat → Value} (h : Xr w x a b c ka kb kc n armed acts dead fa fb fc) {k : Nat} (hk : k < n) (v : Value) {fc' : Nat → Value} (hv : fc' k = v) (hf : ∀ j, j ≠ k → fc' j = fc j) : Xr (w.setCell ⟨c, k, none⟩ v) x a b c ka kb kc n armed acts dead fa fb fc' ∧ Only (xown x a b c) w (w.setCell ⟨c, k, none⟩ v) := by
  obtain ⟨q0, q1, q2, q3, q4, q5, qf, ql⟩ := h.cells h.n3 k v
  have hO : Only (fun i => i = c) w (w.setCell ⟨c, k, none⟩ v) := Only.setCell w ⟨c, k, none⟩ v rfl
  exact ⟨⟨q0.trans h.c0, q1.trans h.c1, q2.trans h.c2, q3.trans h.c3, q4.trans h.c4, q5.trans h.c5, qf, ql, h.ra.kept hO h.n5, h.rb.kept hO h.n6, h.rc.set hk v hv hf, h.n1, h.n2, h.n3, h.n4, h.n5, h.n6⟩, hO.mono (fun _ _ e => .inr (.inr (.inr e)))⟩
set_option maxRecDepth 100000 in
set_option maxHeartbeats 1600000 in
theorem xsync_ok (w : World) (x a b c ka kb kc : Nat) (D : Dk) (h : Xd w x a b c ka kb kc D) (hd : D.dead = false) (h1 : D.armed ≠ 1) :
    Calls Try.prog 19 #[.pointer (some ⟨x, 0, none⟩)] w fun e w' => e = .returned (.int .i64 0) ∧ Xd w' x a b c ka kb kc D.act.synced ∧ Only (xown x a b c) w w' := by
  have hxa := xact_any w x a b c ka kb kc D h hd
  simp only [h1, decide_false] at hxa
  have h4 := h.c4
  rw [hd] at h4
  have h64 := h.ok.hi
  have HOk := hide h.ok
  clear hd h1 h
  go_enter Try.func19, Try.ntmps19
  go_wp2_with fail
  refine hxa.mono ?_
  rintro e w1 ⟨rfl, hX1, hO1⟩
  obtain ⟨E, hE⟩ : ∃ E, D.act = E := ⟨_, rfl⟩
  have hEl : E.old.length = D.old.length := by rw [← hE]; rfl
  rw [hE] at hX1
  have HE := hide hE
  obtain ⟨n, hn⟩ : ∃ n, E.old.length = n := ⟨_, rfl⟩
  have hn64 : n ≤ 65536 := by omega
  have hr := hX1.raw
  rw [hn] at hr
  have HR1 := hide hr
  have HO1 := hide hO1
  have HEk := hide hX1.ok
  have HN := hide hn
  clear hxa hX1 hO1 hE hEl hn hr
  go_wp2_with fail
  go_loopw [3] (fun y wr => ∃ (i : Nat), i ≤ n ∧ y = .int .i64 (i : Int) ∧ Hid (Xr wr x a b c ka kb kc n E.armed E.acts E.dead (fun k => if k < i then txt (E.cur k) else txt (E.old.getD k [])) (fun k => txt (E.cur k)) (fun k => if k < i then .bool false else .bool (E.fresh k).isSome)) ∧ Hid (Only (xown x a b c) w wr)) (fun y _ => n - (intOf y).toNat)
  case atStart => exact ⟨0, by omega, rfl, by simpa using HR1, HO1⟩
  case round =>
    obtain ⟨i, hi, rfl, HX, HO⟩ := hrel
    have hc0 := HX.out.c0
    have hc1 := HX.out.c1
    have hc2 := HX.out.c2
    by_cases hil : i < n
    · have hb := HX.out.rb.cell hil
      have ha := HX.out.ra.cell hil
      have hfa := HX.out.ra.frozen i
      have hcc := HX.out.rc.cell hil
      have hfc := HX.out.rc.frozen i
      obtain ⟨sv, hsv⟩ : ∃ sv, txt (E.cur i) = .string sv := ⟨_, rfl⟩
      rw [hsv] at hb
      obtain ⟨hX2, hO2⟩ := HX.out.setA hil (.string sv) (fa' := fun k => if k < i + 1 then txt (E.cur k) else txt (E.old.getD k [])) (by simp [hsv]) (fun j hj => by
        by_cases e : j < i
        · simp [e, show j < i + 1 by omega]
        · simp [e, show ¬ j < i + 1 by omega])
      obtain ⟨hX3, hO3⟩ := hX2.setC hil (.bool false) (fc' := fun k => if k < i + 1 then .bool false else .bool (E.fresh k).isSome) (by simp) (fun j hj => by
        by_cases e : j < i
        · simp [e, show j < i + 1 by omega]
        · simp [e, show ¬ j < i + 1 by omega])
      have hc22 := hX2.c2
      have hcc2 := hX2.rc.cell hil
      have hfc2 := hX2.rc.frozen i
      have HZ := hide (And.intro (hX3.kept (Only.drew (fun _ => False) _) id id id id) (((HO.out.trans hO2 (fun _ _ h => h)).trans hO3 (fun _ _ h => h)).trans (Only.drew (fun _ => False) _) (fun _ _ h => h.elim)))
      have hi0 : (0 : Int) ≤ (i : Int) := by omega
      have hi1 : (i : Int) < (n : Int) := by omega
      clear hX2 hO2 hX3 hO3 hsv
      go_wp2_with fail
      go_region
      go_wp2_with fail
      go_roundw
      case rel => exact ⟨i + 1, by omega, by go_num, hide HZ.out.1, hide HZ.out.2⟩
      case measure => simp [intOf]; omega
    · have ei : i = n := by omega
      have hfull : Xd wr x a b c ka kb kc E.synced := by
        refine HX.out.full HEk.out.synced (by simp [Dk.synced, HN.out]) rfl rfl rfl (fun k hk => ?_) (fun k hk => ?_) (fun k hk => ?_)
        · have hk' : k < E.old.length := by rw [HN.out]; exact hk
          rw [if_pos (by omega)]
          simp only [Dk.synced, List.getD_eq_getElem?_getD, List.getElem?_map, List.getElem?_range hk', Option.map_some, Option.getD_some]
        · have hk' : k < E.old.length := by rw [HN.out]; exact hk
          simp only [Dk.synced, Dk.cur, Option.getD_none, List.getD_eq_getElem?_getD, List.getElem?_map, List.getElem?_range hk', Option.map_some, Option.getD_some]
        · rw [if_pos (by omega)]
          simp [Dk.synced]
      have HF := hide hfull
      clear hfull ei
      go_wp2_with fail
      go_ret
      rw [HE.out]
      exact ⟨rfl, HF.out, HO.out⟩
end Go.Proofs.Ytachbonlakbjmaa
