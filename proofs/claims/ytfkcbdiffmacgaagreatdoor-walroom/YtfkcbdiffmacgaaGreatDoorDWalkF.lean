/- What Sync does. -/
import Derived.Test.YtfkcbdiffmacgaaGreatDoorDWalkE
namespace Go.Proofs.YtfkcbdiffmacgaaGreatDoor
open Go.RowKit Go.Maps

theorem Frs.clear {w : World} {m n : Nat} {f : Nat → Option (List UInt8)} (h : Frs w m n f) :
    ∃ w', (∀ ty, (Builtin.clear_ #[53] ty #[.map (some m)]).run Tryz.prog w = .ok (.tuple #[]) w') ∧ Frs w' m n (fun _ => none) ∧ Only (fun i => i = m) w w' := by
  obtain ⟨N, D, ⟨es, clock, hb, F, hs, hD⟩, hf⟩ := h
  refine ⟨ChangeMaps.setBlock w m (.map #[] clock), fun ty => ?_, ⟨0, .map [], ⟨#[], clock, ?_, ⟨by simp, MapKept.stamped_empty _, by simp⟩, Nat.le_refl _, rfl⟩, FrsD.empty n⟩, ?_⟩
  · simp [Builtin.clear_, run_underlying Tryz.underlying53, MapKept.run_getObj_map hb, MapKept.run_setObj_map _ hb, ChangeMaps.setBlock]
  · exact ChangeMaps.heap_setBlock_same hb _
  · exact ⟨rfl, rfl, rfl, by simp [ChangeMaps.setBlock], fun i _ hi => ChangeMaps.heap_setBlock_other hb _ (fun e => hi e)⟩
/-- The sectors while a sync is under way: those that are no longer to come have their new bytes. -/
def mergeL (E : Dk) (left : Lit → Bool) : List (List UInt8) :=
  (List.range E.old.length).map fun k => if (E.fresh k).isSome && !left (.int .i64 (k : Int)) then (E.fresh k).getD [] else E.old.getD k []
theorem mergeL_len (E : Dk) (left : Lit → Bool) : (mergeL E left).length = E.old.length := by simp [mergeL]
theorem mergeL_get (E : Dk) (left : Lit → Bool) (k : Nat) (hk : k < E.old.length) : (mergeL E left).getD k [] = if (E.fresh k).isSome && !left (.int .i64 (k : Int)) then (E.fresh k).getD [] else E.old.getD k [] := by
  simp only [mergeL, List.getD_eq_getElem?_getD, List.getElem?_map, List.getElem?_range hk, Option.map_some, Option.getD_some]
theorem list_ext {l m : List (List UInt8)} (h : l.length = m.length) (he : ∀ k, k < l.length → l.getD k [] = m.getD k []) : l = m := by
  refine List.ext_getElem h (fun k h1 h2 => ?_)
  have := he k h1
  simpa [List.getD_eq_getElem?_getD, h1, h2] using this
theorem mergeL_start (E : Dk) (left : Lit → Bool) (h : ∀ k : Nat, left (.int .i64 (k : Int)) = (E.fresh k).isSome) : mergeL E left = E.old := by
  refine list_ext (mergeL_len _ _) (fun k hk => ?_)
  rw [mergeL_len] at hk
  rw [mergeL_get E left k hk, h k]
  cases (E.fresh k).isSome <;> simp
theorem mergeL_end (E : Dk) (left : Lit → Bool) (h : ∀ kl, left kl = false) : mergeL E left = E.synced.old := by
  refine list_ext (by simp [mergeL, Dk.synced]) (fun k hk => ?_)
  rw [mergeL_len] at hk
  rw [mergeL_get E left k hk, h]
  simp only [Dk.synced, List.getD_eq_getElem?_getD, List.getElem?_map, List.getElem?_range hk, Option.map_some, Option.getD_some, Dk.cur]
  cases hf : E.fresh k <;> simp
theorem mergeL_step (E : Dk) (left : Lit → Bool) (k : Nat) (b : List UInt8) (hk : k < E.old.length) (hf : E.fresh k = some b) : (mergeL E left).set k b = mergeL E (fun z => left z && !z.sameKey (.int .i64 (k : Int))) := by
  refine list_ext (by simp [mergeL]) (fun j hj => ?_)
  have hj' : j < E.old.length := by simpa [mergeL] using hj
  rw [getD_set, mergeL_get E _ j hj', mergeL_get E _ j hj', mergeL_len]
  by_cases e : j = k
  · subst e
    rw [if_pos ⟨rfl, hk⟩, WideAt.sameKey_self (a := .int .i64 (j : Int)) trivial]
    simp [hf]
  · rw [if_neg (fun h => e h.1)]
    have : (Lit.int .i64 (j : Int)).sameKey (.int .i64 (k : Int)) = false := sameKey_ne (by simp; omega)
    rw [this]
    simp
theorem mergeL_64 {E : Dk} (h : E.Ok) (left : Lit → Bool) : ∀ k, k < (mergeL E left).length → ((mergeL E left).getD k []).length = 64 := by
  intro k hk
  rw [mergeL_len] at hk
  rw [mergeL_get E left k hk]
  split
  · rename_i hc
    simp at hc
    cases hf : E.fresh k with
    | none => simp [hf] at hc
    | some b => simpa using (h.f64 k b hf).2
  · exact h.o64 k hk
def Dk.withOld (E : Dk) (o : List (List UInt8)) : Dk := { E with old := o }
theorem Dk.Ok.withOld {E : Dk} (h : E.Ok) {o : List (List UInt8)} (hl : o.length = E.old.length) (h64 : ∀ k, k < o.length → (o.getD k []).length = 64) : (E.withOld o).Ok :=
  ⟨by simpa [Dk.withOld, hl] using h.lo, by simpa [Dk.withOld, hl] using h.hi, h64, fun k b hb => by simpa [Dk.withOld, hl] using h.f64 k b hb, h.arm0, h.arm1⟩
/-- A sector of the row is written. -/
theorem Dsk.setOld {w : World} {d g m : Nat} {D : Dk} (h : Dsk w d g m D) {k : Nat} {b : List UInt8} (hk : k < D.old.length) (hb : b.length = 64) : Dsk (w.setCells g (k * 64) (cells b)) d g m (D.withOld (D.old.set k b)) := by
  have ho : Only (fun i => i = g) w (w.setCells g (k * 64) (cells b)) := Only.setCells (S := fun i => i = g) g rfl _ _ _
  obtain ⟨c0, c1, c2, c3, c4, fz, lt, old, map, ok, n1, n2, n3⟩ := h
  have hl : (D.old.set k b).length = D.old.length := by simp
  refine ⟨(ho.cell (p := ⟨d, 0, none⟩) lt n1).trans (by simpa [Dk.withOld] using c0), (ho.cell (p := ⟨d, 1, none⟩) lt n1).trans c1, (ho.cell (p := ⟨d, 2, none⟩) lt n1).trans c2, (ho.cell (p := ⟨d, 3, none⟩) lt n1).trans c3,
    (ho.cell (p := ⟨d, 4, none⟩) lt n1).trans c4, fun j => (ho.frozen (p := ⟨d, j, none⟩) lt n1).trans (fz j), Nat.lt_of_lt_of_le lt ho.size, old.set hk hb, ?_, ok.withOld hl ?_, n1, n2, n3⟩
  · have := map.kept ho (fun e => n3 e.symm)
    simpa [Dk.withOld] using this
  · exact (old.set hk hb).o64
/-- The map is emptied. -/
theorem Dsk.cleared {w w' : World} {d g m : Nat} {D : Dk} (h : Dsk w d g m D) (hf : Frs w' m D.old.length (fun _ => none)) (ho : Only (fun i => i = m) w w') : Dsk w' d g m { D with fresh := fun _ => none } := by
  obtain ⟨c0, c1, c2, c3, c4, fz, lt, old, map, ok, n1, n2, n3⟩ := h
  exact ⟨(ho.cell (p := ⟨d, 0, none⟩) lt n2).trans c0, (ho.cell (p := ⟨d, 1, none⟩) lt n2).trans c1, (ho.cell (p := ⟨d, 2, none⟩) lt n2).trans c2, (ho.cell (p := ⟨d, 3, none⟩) lt n2).trans c3,
    (ho.cell (p := ⟨d, 4, none⟩) lt n2).trans c4, fun j => (ho.frozen (p := ⟨d, j, none⟩) lt n2).trans (fz j), Nat.lt_of_lt_of_le lt ho.size, old.kept ho n3, hf, ⟨ok.lo, ok.hi, ok.o64, (fun k b hb => by cases hb), ok.arm0, ok.arm1⟩, n1, n2, n3⟩

theorem Only.toGrown {w w' : World} {x : Nat} (h : Only (fun i => i = x) w w') : w.grownBy w' (some x) := ⟨h.os, h.tape, h.output, h.size, fun i hi hne => h.block i hi (fun e => hne (by rw [e]))⟩
theorem Only.toGrown0 {w w' : World} (h : Only (fun _ => False) w w') : w.grownBy w' none := ⟨h.os, h.tape, h.output, h.size, fun i hi _ => h.block i hi (fun e => e)⟩
theorem withOld_twice (E : Dk) (a b : List (List UInt8)) : (E.withOld a).withOld b = E.withOld b := rfl
theorem inv_key : ∀ key kl, keyOf Tryz.prog 3 key = some kl → ∃ x : Int, key = Value.int .i64 x := fun key kl hk => by
  obtain ⟨x, rfl, _⟩ := Maps.keyOf_int_inv Tryz.underlying3 hk
  exact ⟨x, rfl⟩
theorem inv_sec : ∀ v y, secElem v = some y → ∃ c : List UInt8, v = sec c := fun v y hv => by
  obtain ⟨l, _, rfl, _⟩ := secElem_inv hv
  exact ⟨l, rfl⟩
/-- What an entry that has come is. -/
theorem entry_is {D : DataW Unit} {n : Nat} {f : Nat → Option (List UInt8)} (hD : FrsD D n f) {x : Int} {c : List UInt8} {kl : Lit} {yd : DataW Unit} {yp : List MemPlace} (hkey : keyOf Tryz.prog 3 (Value.int .i64 x) = some kl) (hv : secElem (sec c) = some (yd, yp)) (hat : ∀ zd, D.atKey kl zd = yd) :
    ∃ k : Nat, k < n ∧ x = (k : Int) ∧ kl = .int .i64 (k : Int) ∧ f k = some c ∧ c.length = 64 := by
  obtain ⟨x', ex, rfl, _⟩ := Maps.keyOf_int_inv Tryz.underlying3 hkey
  cases ex
  have hh := Maps.has_true_of_atKey hat
  obtain ⟨k, hk, e⟩ := hD.key _ hh
  cases e
  obtain ⟨l, hl, e2, e3⟩ := secElem_inv hv
  obtain rfl := sec_inj e2
  simp only [Prod.mk.injEq] at e3
  have hs : (f k).isSome = true := by rw [← hD.has k]; exact hh
  obtain ⟨b, hb⟩ := Option.isSome_iff_exists.1 hs
  have h1 := hD.at_ k b hb (.lit (.string []))
  rw [hat, e3.1] at h1
  simp only [DataW.lit.injEq, Lit.string.injEq] at h1
  exact ⟨k, hk, rfl, rfl, by rw [hb, h1], hl⟩
theorem sync_nil (w : World) : Calls Tryz.prog 24 #[.pointer none] w fun e w' => e = .returned (.int .i64 2) ∧ w' = w := by
  go_enter Tryz.func24, Tryz.ntmps24
  go_wp2_with (first | (go_at_call 37; refine (usable_nil _).mono ?_; rintro e w' ⟨rfl, rfl⟩))
  go_ret
  exact ⟨rfl, rfl⟩
theorem sync_dead (w : World) (d g m : Nat) (D : Dk) (h : Dsk w d g m D) (hd : D.dead = true) : Calls Tryz.prog 24 #[.pointer (some ⟨d, 0, none⟩)] w fun e w' => e = .returned (.int .i64 5) ∧ w' = w := by
  have hu := usable_any w d g m D h
  rw [hd] at hu
  clear hd h
  go_enter Tryz.func24, Tryz.ntmps24
  go_wp2_with (first | (go_at_call 37; refine hu.mono ?_; rintro e w' ⟨rfl, rfl⟩))
  go_ret
  exact ⟨rfl, rfl⟩
theorem sync_dies (w : World) (d g m : Nat) (D : Dk) (h : Dsk w d g m D) (hd : D.dead = false) (h1 : D.armed = 1) : Calls Tryz.prog 24 #[.pointer (some ⟨d, 0, none⟩)] w fun e w' => e = .returned (.int .i64 5) ∧ Dsk w' d g m D.act ∧ Only (own d g m) w w' := by
  have hu := usable_any w d g m D h
  have hdi := dies_any w d g m D h
  rw [hd] at hu
  simp only [h1, decide_true] at hdi
  clear hd h h1
  go_enter Tryz.func24, Tryz.ntmps24
  go_wp2_with (first | (go_at_call 37; refine hu.mono ?_; rintro e w' ⟨rfl, hw⟩; obtain rfl := hw.symm) | (go_at_call 39; refine hdi.mono ?_; rintro e w3 ⟨rfl, hE4, hO4⟩))
  go_ret
  exact ⟨rfl, hE4, hO4⟩
set_option maxRecDepth 100000 in
set_option maxHeartbeats 1600000 in
theorem sync_ok (w : World) (d g m : Nat) (D : Dk) (h : Dsk w d g m D) (hd : D.dead = false) (h1 : D.armed ≠ 1) : Calls Tryz.prog 24 #[.pointer (some ⟨d, 0, none⟩)] w fun e w' => e = .returned (.int .i64 0) ∧ Dsk w' d g m D.act.synced ∧ Only (own d g m) w w' := by
  have hu := usable_any w d g m D h
  have hdi := dies_any w d g m D h
  rw [hd] at hu
  simp only [h1, decide_false] at hdi
  have hlt := And.intro h.lt (And.intro h.old.lt h.map.lt)
  clear hd h h1
  go_enter Tryz.func24, Tryz.ntmps24
  go_wp2_with (first | (go_at_call 37; refine hu.mono ?_; rintro e w' ⟨rfl, hw⟩; obtain rfl := hw.symm))
  refine hdi.mono ?_
  rintro e w1 ⟨rfl, hE, hO1⟩
  clear hu hdi
  obtain ⟨E, hEq⟩ : ∃ E, D.act = E := ⟨_, rfl⟩
  have hc1 := hE.c1
  obtain ⟨N, DD, hown, hD⟩ := hE.map
  have hs1 := hO1.size
  rw [hEq] at hE hD
  have HE := hide hE
  have HD := hide hD
  have HO1 := hide hO1
  have HEq := hide hEq
  clear hE hD hO1 hEq
  go_wp2_with (first
    | (at_range; refine wpList_range_own _ rfl _ 53 rfl 3 87 keyed Tryz.underlying53 _ m N _ rfl hown ?_; intro w0 hrg0 hg0 hs0))
  go_frame
  have hO0 : Only (fun _ => False) w1 w0 := Only.grown hg0 (fun k hk => by cases hk)
  have hst : mergeL E (has DD) = E.old := mergeL_start E _ HD.out.has
  have HS0 : Hid (Dsk w0 d g m (E.withOld (mergeL E (has DD)))) := by
    unfold Hid
    rw [hst]
    exact HE.out.same hO0
  have HOw : Hid (Only (own d g m) w w0) := HO1.out.trans hO0 (fun _ _ h => h.elim)
  have HR0 := hide hrg0
  obtain ⟨r, hr⟩ : ∃ r, w1.heap.size = r := ⟨_, rfl⟩
  rw [hr] at HR0 hs1 ⊢
  clear hst hO0 hg0 hs0 hrg0 hr hc1 hown
  go_loopw [18] (fun _ wr => ∃ (left : Lit → Bool) (cnt : Nat), Hid (wr.ranges Tryz.prog 3 secElem m r N DD left cnt) ∧ Hid (Dsk wr d g m (E.withOld (mergeL E left))) ∧ Hid (Only (own d g m) w wr)) (fun _ wr => wr.rangeLeft m r)
  case atStart => exact ⟨_, _, HR0, HS0, HOw⟩
  case round =>
    obtain ⟨left, cnt, HR, HS, HO⟩ := hrel
    go_wp2_with (first
      | (at_next; refine wpList_next_ranges _ rfl _ rfl 3 keyed secElem (Value.int .i64) sec inv_key inv_sec m r N _ _ _ rfl HR.out ?_ ?_))
    · intro _ hl0
      obtain ⟨w2, hcl, hfr, hO2⟩ := HS.out.map.clear
      have hc1 := HS.out.c1
      have hS2 := HS.out.cleared hfr hO2
      rw [mergeL_end E left hl0] at hS2
      have HF := hide (And.intro hS2 (HO.out.trans hO2 (fun i _ e => .inr (.inr e))))
      clear hfr hO2 hS2
      go_wp2
      go_ret
      rw [HEq.out]
      exact ⟨rfl, HF.out.1, HF.out.2⟩
    · intro x c kl yd yp w2 cnt2 hkey hlk hv hat hrg2 hcl hg2 hs2 hen
      obtain ⟨k, hk, rfl, rfl, hf, hc64⟩ := entry_is HD.out hkey hv hat
      have hO2 : Only (fun i => i = r) wr w2 := Only.grown hg2 (fun i hi => by cases hi; rfl)
      have hS2 := HS.out.kept hO2 (by omega) (by omega) (by omega)
      have HR2 := hide hrg2
      have HS2 := hide hS2
      have HO2 : Hid (Only (own d g m) w w2) := HO.out.trans hO2 (fun i hi e => by omega)
      have HM : Hid (cnt2 < cnt) := hcl
      have HL : Hid (wr.rangeLeft m r = cnt) := HR.out.left_eq
      clear hkey hlk hv hat hrg2 hcl hg2 hs2 hO2 hS2
      go_wp2_with (first
        | (refine wpList_alloc_sec _ rfl rfl ?_)
        | (refine wpList_store_sec _ rfl (.tmp 5) (.tmp 22) rfl _ _ rfl c rfl hc64 (alloc_there _ zeros zeros_len) ?_))
      go_frame
      obtain ⟨X, hX⟩ : ∃ X, X = (w2.alloc (secObj zeros)).setCells w2.heap.size 0 (cells c) := ⟨_, rfl⟩
      rw [← hX]
      have hO3 : Only (fun _ => False) w2 X := by rw [hX]; exact secVar_only w2 c
      have hrg : X.rangeAt w2.heap.size 0 (cells c) := by rw [hX]; exact secVar_range w2 c hc64
      clear hX
      have hS3 := HS2.out.same hO3
      have hml : (E.withOld (mergeL E left)).old.length = E.old.length := mergeL_len E left
      have c0 := hS3.c0
      rw [hml] at c0
      have hth : X.there g (k * 64) 64 := hS3.old.there (by rw [hml]; exact hk)
      have hne : w2.heap.size ≠ g := by have := HS2.out.old.lt; omega
      have hus := Tryz.underlying87
      have his : (Tryz.prog.info? 87).map (·.size) = some (cells c).length := by rw [cells_length, hc64]; exact Tryz.infoSec
      have hls : (cells c).length = 64 := by rw [cells_length, hc64]
      have hon := cells_one c
      have hk0 : (0 : Int) ≤ (k : Int) := by omega
      have hk1 : (k : Int) < (E.old.length : Int) := by omega
      have hS4 := (hS3.same (Only.drew _ X)).setOld (k := k) (by rw [hml]; exact hk) hc64
      have e4 : (E.withOld (mergeL E left)).withOld ((mergeL E left).set k c) = E.withOld (mergeL E (fun z => left z && !z.sameKey (.int .i64 (k : Int)))) := by rw [mergeL_step E left k c hk hf, withOld_twice]
      have hS5 : Dsk (X.drew.setCells g (k * 64) (cells c)) d g m (E.withOld (mergeL E (fun z => left z && !z.sameKey (.int .i64 (k : Int))))) := by rw [← e4]; exact hS4
      have hO4 : Only (fun i => i = g) X.drew (X.drew.setCells g (k * 64) (cells c)) := Only.setCells (S := fun i => i = g) g rfl _ _ _
      have hR5 := ((HR2.out.kept hO3.toGrown0 (by simp) (by simp)).kept (Only.drew (fun _ => False) X).toGrown0 (by simp) (by simp)).kept hO4.toGrown (fun e => HS2.out.ne3 (Option.some.inj e).symm) (fun e => by have := Option.some.inj e; omega)
      have HO5 : Hid (Only (own d g m) w (X.drew.setCells g (k * 64) (cells c))) := ((HO2.out.trans hO3 (fun _ _ h => h.elim)).trans (Only.drew (fun _ => False) X) (fun _ _ h => h.elim)).trans hO4 (fun i _ e => .inr (.inl e))
      have HS5 := hide hS5
      have HR5 := hide hR5
      have hc0' : X.drew.cell? ⟨d, 0, none⟩ = some (.slice (some ⟨g, 0, none⟩) E.old.length E.old.length) := c0
      have hrd : X.drew.rangeAt w2.heap.size 0 (cells c) := by simpa using hrg
      have htd : X.drew.there g (k * 64) 64 := by simpa using hth
      have hdg := HS2.out.ne1
      have cz0 : (X.drew.setCells g (k * 64) (cells c)).cell? ⟨d, 0, none⟩ = some (.slice (some ⟨g, 0, none⟩) E.old.length E.old.length) := (hO4.cell (p := ⟨d, 0, none⟩) (World.block_lt_of_cell? _ _ hc0') hdg).trans hc0'
      have rz0 : (X.drew.setCells g (k * 64) (cells c)).rangeAt w2.heap.size 0 (cells c) := World.rangeAt_setCells_apart hrd _ _ _ (.inl hne)
      have tz0 : (X.drew.setCells g (k * 64) (cells c)).there g (k * 64) 64 := World.there_setCells htd _ _ _
      clear hO3 hS3 hS4 e4 hS5 hO4 hR5 hml hf hrg hth c0
      go_region_held3 (fun w' => w'.cell? ⟨d, 0, none⟩ = some (.slice (some ⟨g, 0, none⟩) E.old.length E.old.length) ∧ w'.rangeAt w2.heap.size 0 (cells c) ∧ w'.there g (k * 64) 64) (first | exact ⟨hc0', hrd, htd⟩ | exact ⟨cz0, rz0, tz0⟩) (fail)
      go_wp2_with fail
      go_roundw
      case rel => exact ⟨_, _, HR5, HS5, HO5⟩
      case measure => rw [HR5.out.left_eq, HL.out]; exact HM.out
theorem sync_any (w : World) (d g m : Nat) (D : Dk) (h : Dsk w d g m D) : Calls Tryz.prog 24 #[.pointer (some ⟨d, 0, none⟩)] w fun e w' => e = .returned (.int .i64 D.sync.2) ∧ Dsk w' d g m D.sync.1 ∧ Only (own d g m) w w' := by
  unfold Dk.sync
  cases hd : D.dead
  · by_cases h1 : D.armed = 1
    · simp only [h1, if_true]
      exact sync_dies w d g m D h hd h1
    · simp only [h1, if_false]
      exact sync_ok w d g m D h hd h1
  · refine (sync_dead w d g m D h hd).mono ?_
    rintro e w' ⟨rfl, rfl⟩
    exact ⟨rfl, h, Only.refl _ _⟩
end Go.Proofs.YtfkcbdiffmacgaaGreatDoor
