/- What Held and waitersFor do. -/
import Derived.Test.YtmmhmgndokaklaaLSort
namespace Go.Proofs.Ytmmhmgndokaklaa
open Go.RowKit Go.Maps Go.Sort

theorem inv_keyS : ∀ key kl, keyOf Try.prog 9 key = some kl → ∃ x : ByteArray, key = sv x := fun key kl hk => by
  obtain ⟨x, rfl, _⟩ := WideMaps.string_of_keyOf Try.underlying9 hk
  exact ⟨x, rfl⟩
theorem inv_keyI : ∀ key kl, keyOf Try.prog 3 key = some kl → ∃ x : Int, key = iv x := fun key kl hk => by
  obtain ⟨x, rfl, _⟩ := Maps.keyOf_int_inv Try.underlying3 hk
  exact ⟨x, rfl⟩
theorem inv_intElem : ∀ v y, intElem v = some y → ∃ c : Int, v = iv c := fun v y hv => by
  obtain ⟨c, rfl, _⟩ := intElem_inv hv
  exact ⟨c, rfl⟩
theorem inv_waitElem : ∀ v y, waitElem v = some y → ∃ c : ByteArray, v = wv c := fun v y hv => by
  obtain ⟨c, rfl, _⟩ := waitElem_inv hv
  exact ⟨c, rfl⟩
theorem hentry_is {D : DataW Unit} {f : ByteArray → Option Int} (hD : HdD D f) {x : ByteArray} {c : Int} {kl : Lit} {y : DataW Unit × List MemPlace} (hkey : keyOf Try.prog 9 (sv x) = some kl) (hv : intElem (iv c) = some y) (hat : ∀ zd, D.atKey kl zd = y.1) :
    kl = .string x.data.toList ∧ f x = some c := by
  obtain ⟨x', ex, rfl, _⟩ := WideMaps.string_of_keyOf Try.underlying9 hkey
  cases ex
  have hh := Maps.has_true_of_atKey hat
  obtain ⟨n, e1, rfl⟩ := intElem_inv hv
  unfold iv at e1
  cases e1
  have hs : (f x).isSome = true := by rw [← hD.has x]; exact hh
  obtain ⟨b, hb⟩ := Option.isSome_iff_exists.1 hs
  have h1 := hD.at_ x b hb (.lit (.string []))
  rw [hat] at h1
  simp only [DataW.lit.injEq, Lit.int.injEq, true_and] at h1
  exact ⟨rfl, by rw [hb, h1]⟩
theorem wentry_is {D : DataW Unit} {f : Int → Option ByteArray} (hD : WtD D f) {x : Int} {c : ByteArray} {kl : Lit} {y : DataW Unit × List MemPlace} (hkey : keyOf Try.prog 3 (iv x) = some kl) (hv : waitElem (wv c) = some y) (hat : ∀ zd, D.atKey kl zd = y.1) :
    kl = .int .i64 x ∧ f x = some c := by
  obtain ⟨x', ex, rfl, _⟩ := Maps.keyOf_int_inv Try.underlying3 hkey
  unfold iv at ex
  cases ex
  have hh := Maps.has_true_of_atKey hat
  obtain ⟨n, e1, rfl⟩ := waitElem_inv hv
  have e1 := wv_inj e1
  subst e1
  have hs : (f x).isSome = true := by rw [← hD.has x]; exact hh
  obtain ⟨b, hb⟩ := Option.isSome_iff_exists.1 hs
  have h1 := hD.at_ x b hb (.lit (.string []))
  rw [hat] at h1
  simp only [DataW.lit.injEq, Lit.string.injEq] at h1
  exact ⟨rfl, by rw [hb, ba_inj h1]⟩
/-- The keys met so far that meet q. -/
def ColS (q : ByteArray → Prop) (left : Lit → Bool) (zs : List ByteArray) : Prop := zs.Nodup ∧ ∀ x, x ∈ zs ↔ (q x ∧ left (.string x.data.toList) = false)
theorem ColS.start {D : DataW Unit} {f : ByteArray → Option Int} (hD : HdD D f) {q : ByteArray → Prop} (hq : ∀ x, q x → (f x).isSome = true) : ColS q (Maps.has D) [] :=
  ⟨List.nodup_nil, fun x => by
    constructor
    · intro h; cases h
    · rintro ⟨h1, h2⟩
      rw [hD.has, hq x h1] at h2
      cases h2⟩
theorem left_step {left : Lit → Bool} {kl : Lit} (hk : WideAt.IsKeyLit kl) (z : Lit) : (left z && !z.sameKey kl) = false ↔ (left z = false ∨ z = kl) := by
  by_cases e : z = kl
  · subst e
    rw [WideAt.sameKey_self hk]
    simp
  · rw [sameKey_ne e]
    simp [e]
theorem ColS.take {q : ByteArray → Prop} {left : Lit → Bool} {zs : List ByteArray} (h : ColS q left zs) {x : ByteArray} (hl : left (.string x.data.toList) = true) (hq : q x) : ColS q (fun z => left z && !z.sameKey (.string x.data.toList)) (zs ++ [x]) := by
  obtain ⟨h1, h2⟩ := h
  have hx : ¬ x ∈ zs := fun e => by have := ((h2 x).1 e).2; rw [hl] at this; cases this
  refine ⟨List.nodup_append.2 ⟨h1, by simp, ?_⟩, fun y => ?_⟩
  · intro a ha b hb e
    simp at hb
    exact hx (by rw [← hb, ← e]; exact ha)
  · show y ∈ zs ++ [x] ↔ (q y ∧ (left (.string y.data.toList) && !(Lit.string y.data.toList).sameKey (.string x.data.toList)) = false)
    rw [List.mem_append, h2 y, left_step (kl := .string x.data.toList) trivial]
    by_cases e : y = x
    · subst e
      simp [hq]
    · have : ¬ (Lit.string y.data.toList = Lit.string x.data.toList) := fun e1 => by injection e1 with e1; exact e (ba_inj e1)
      simp [this, e]
theorem ColS.skip {q : ByteArray → Prop} {left : Lit → Bool} {zs : List ByteArray} (h : ColS q left zs) {x : ByteArray} (hq : ¬ q x) : ColS q (fun z => left z && !z.sameKey (.string x.data.toList)) zs := by
  refine ⟨h.1, fun y => ?_⟩
  show y ∈ zs ↔ (q y ∧ (left (.string y.data.toList) && !(Lit.string y.data.toList).sameKey (.string x.data.toList)) = false)
  rw [h.2 y, left_step (kl := .string x.data.toList) trivial]
  by_cases e : y = x
  · subst e
    simp [hq]
  · have : ¬ (Lit.string y.data.toList = Lit.string x.data.toList) := fun e1 => by injection e1 with e1; exact e (ba_inj e1)
    simp [this]
/-- The numbers met so far that meet q. -/
def ColI (q : Int → Prop) (left : Lit → Bool) (zs : List Int) : Prop := zs.Nodup ∧ ∀ x, x ∈ zs ↔ (q x ∧ left (.int .i64 x) = false)
theorem ColI.start {D : DataW Unit} {f : Int → Option ByteArray} (hD : WtD D f) {q : Int → Prop} (hq : ∀ x, q x → (f x).isSome = true) : ColI q (Maps.has D) [] :=
  ⟨List.nodup_nil, fun x => by
    constructor
    · intro h; cases h
    · rintro ⟨h1, h2⟩
      rw [hD.has, hq x h1] at h2
      cases h2⟩
theorem ColI.take {q : Int → Prop} {left : Lit → Bool} {zs : List Int} (h : ColI q left zs) {x : Int} (hl : left (.int .i64 x) = true) (hq : q x) : ColI q (fun z => left z && !z.sameKey (.int .i64 x)) (zs ++ [x]) := by
  obtain ⟨h1, h2⟩ := h
  have hx : ¬ x ∈ zs := fun e => by have := ((h2 x).1 e).2; rw [hl] at this; cases this
  refine ⟨List.nodup_append.2 ⟨h1, by simp, ?_⟩, fun y => ?_⟩
  · intro a ha b hb e
    simp at hb
    exact hx (by rw [← hb, ← e]; exact ha)
  · show y ∈ zs ++ [x] ↔ (q y ∧ (left (.int .i64 y) && !(Lit.int .i64 y).sameKey (.int .i64 x)) = false)
    rw [List.mem_append, h2 y, left_step (kl := .int .i64 x) trivial]
    by_cases e : y = x
    · subst e
      simp [hq]
    · simp [e]
theorem ColI.skip {q : Int → Prop} {left : Lit → Bool} {zs : List Int} (h : ColI q left zs) {x : Int} (hq : ¬ q x) : ColI q (fun z => left z && !z.sameKey (.int .i64 x)) zs := by
  refine ⟨h.1, fun y => ?_⟩
  show y ∈ zs ↔ (q y ∧ (left (.int .i64 y) && !(Lit.int .i64 y).sameKey (.int .i64 x)) = false)
  rw [h.2 y, left_step (kl := .int .i64 x) trivial]
  by_cases e : y = x
  · subst e
    simp [hq]
  · simp [e]
theorem SRow.nil (w : World) (base : Nat) : SRow w base (.slice none 0 0) [] := ⟨by simp, .inl ⟨rfl, rfl⟩⟩
theorem IRow.nil (w : World) (base : Nat) : IRow w base (.slice none 0 0) [] := ⟨by simp, .inl ⟨rfl, rfl⟩⟩
theorem Tab.sizes {w : World} {t h m n : Nat} {T : Tb} (H : Tab w t h m n T) : t < w.heap.size ∧ h < w.heap.size ∧ m < w.heap.size := ⟨H.lt, H.hold.lt, H.wait.lt⟩
theorem lheld_nil (w : World) (who : Int) : Calls Try.prog 19 #[.pointer none, .int .i64 who] w fun e w' => e = .returned (.slice none 0 0) ∧ w' = w := by
  go_enter Try.func19, Try.ntmps19
  go_wp2
  go_ret
  exact ⟨rfl, rfl⟩
set_option maxRecDepth 100000 in
set_option maxHeartbeats 1600000 in
theorem lheld_any (w : World) (t h m n : Nat) (T : Tb) (H : Tab w t h m n T) (who : Int) (hn : n ≤ 4398046511104) : Calls Try.prog 19 #[.pointer (some ⟨t, 0, none⟩), .int .i64 who] w fun e w' =>
    ∃ v L, e = .returned v ∧ HeldIs T who L ∧ SRow w' w.heap.size v L ∧ L.length ≤ n ∧ Only (fun _ => False) w w' := by
  obtain ⟨i0, hi, hz0, hz1, hz2⟩ := info_parts Try.infoStr
  have c0 := H.c0
  have hml := H.sizes.2.1
  obtain ⟨D, hown, hD⟩ := H.hold
  have hsz := hown.size_le
  have HD := hide hD
  clear H hD
  go_enter Try.func19, Try.ntmps19
  go_wp2_with (first
    | (at_range; refine wpList_range_own _ rfl _ 48 rfl 9 3 keyedS Try.underlying48 _ h _ _ rfl hown ?_; intro w0 hrg0 hg0 hs0))
  go_frame
  obtain ⟨r, hr⟩ : ∃ r, w.heap.size = r := ⟨_, rfl⟩
  have HR0 : Hid (w0.ranges Try.prog 9 intElem h r n D (has D) (Maps.size D)) := by rw [← hr]; exact hrg0
  have HO0 : Hid (Only (fun _ => False) w w0) := Only.grown (S := fun _ => False) hg0 (fun k hk => by cases hk)
  have hs02 := hg0.size
  rw [hr] at hs02 hs0 hml ⊢
  have HOWN := hide hown
  have HRE := hide hr
  clear hr hrg0 hg0 c0 hown
  go_loopw [5] (fun v wr => ∃ (left : Lit → Bool) (cnt : Nat) (zs : List ByteArray), Hid (wr.ranges Try.prog 9 intElem h r n D left cnt) ∧ zs.length + cnt ≤ Maps.size D ∧
      Hid (SRow wr r v zs) ∧ Hid (ColS (fun k => T.hold k = some who) left zs) ∧ Hid (Only (fun _ => False) w wr) ∧ r < wr.heap.size)
    (fun _ wr => wr.rangeLeft h r)
  case atStart => exact ⟨_, _, [], HR0, by simp, hide (SRow.nil _ _), hide (ColS.start HD.out (fun x e => by rw [e]; rfl)), HO0, by omega⟩
  case round =>
    obtain ⟨left, cnt, zs, HR, hcs, HW, HC, HO, hrs⟩ := hrel
    go_wp2_with (first
      | (at_next; refine wpList_next_ranges _ rfl _ rfl 9 keyedS intElem sv iv inv_keyS inv_intElem h r _ _ _ _ rfl HR.out ?_ ?_))
    · intro hc0 hl0
      have hc := sortS_any wr r _ zs HW.out HC.out.1 (by omega)
      have HL := hide hl0
      clear hl0
      go_wp2_with (go_at_call 29; refine hc.mono ?_; rintro e w' ⟨rfl, M, hM1, hM2, hM3, hM4, hM5⟩)
      go_ret
      refine ⟨_, M, rfl, ⟨hM3, fun k => ?_⟩, by rw [HRE.out]; exact hM4, by omega, HO.out.trans hM5 (fun i hi e => by have := HRE.out; omega)⟩
      rw [hM2 k, HC.out.2 k, HL.out]
      simp
    · intro x c kl yd yp w2 cnt2 hkey hlk hv hat hrg2 hcl hg2 hs2 hen
      obtain ⟨rfl, hf⟩ := hentry_is HD.out hkey hv hat
      have hO2 : Only (fun i => i = r) wr w2 := Only.grown hg2 (fun i hi => by cases hi; rfl)
      have HNE : Hid (some r ≠ u5.ownBlock) := row_ne_iter HW.out HR.out
      have HW2 : Hid (SRow w2 r u5 zs) := HW.out.kept hO2 (fun k hk e => HNE.out (by rw [hk, e]))
      have HR2 := hide hrg2
      have HO2 : Hid (Only (fun _ => False) w w2) := HO.out.trans hO2 (fun i hi e => by have := HRE.out; omega)
      have HM : Hid (cnt2 < cnt) := hcl
      have HLK := hide hlk
      have hgs := hg2.size
      unfold sv iv at hen
      unfold sv iv
      clear hkey hlk hv hat hrg2 hg2 hs2 hO2 hcl
      by_cases he : c = who
      · have hb : (c == who) = true := by simp [he]
        have HF : Hid (T.hold x = some who) := he ▸ hf
        clear he hf
        go_wp2_with (first
          | (at_builtin; go_must (refine wpList_append_own_at _ rfl _ _ 41 rfl r 9 i0 (.string ⟨#[]⟩) 1 16 Try.underlying41 hi hz0 hz1 hz2 rfl (by decide) _ _ _ rfl (World.ownsRow.alloc HW2.out _) ⟨w2.heap.size, 0, none⟩ 1 1 [.string x] rfl rfl (cell_one_new _ _ _) (by simp [Value.oneCell']) (by unfold maxLen at *; omega) (by omega) (by simp; omega) ?_); intro v' w3 hown' hg3 hnil3 hloc; go_frame))
        have hrg3 := (HR2.out.alloc (.cells #[.string x] 9)).kept hg3 (row_ne_low HW2.out hml) (HNE.out)
        refine ⟨⟨_, cnt2, zs ++ [x], hide hrg3, by have := HM.out; simp; omega, hide ?_, hide (HC.out.take HLK.out HF.out), hide ?_, by have := hg3.size; simp at this; omega⟩, ?_⟩
        · unfold SRow
          simpa [sv] using hown'
        · refine (HO2.out.trans (Only.alloc (fun _ => False) _ _) (fun _ _ h => h)).trans (Only.grown (S := fun i => r ≤ i) hg3 (fun i hi => (World.ownsRow.lt HW2.out i hi).1)) (fun i hi e => by have := HRE.out; omega)
        · rw [hrg3.left_eq, HR.out.left_eq]; exact HM.out
      · have hb : (c == who) = false := by simp [he]
        have HF : Hid (¬ T.hold x = some who) := fun e => by rw [hf] at e; exact he (Option.some.inj e)
        clear he hf
        go_wp2_with fail
        refine ⟨⟨_, cnt2, zs, HR2, by have := HM.out; omega, HW2, hide (HC.out.skip HF.out), HO2, by omega⟩, ?_⟩
        rw [HR2.out.left_eq, HR.out.left_eq]; exact HM.out
set_option maxRecDepth 100000 in
set_option maxHeartbeats 1600000 in
theorem lwaiters_any (w : World) (t h m n : Nat) (T : Tb) (H : Tab w t h m n T) (who : Int) (hn : n ≤ 4398046511104) : Calls Try.prog 24 #[.pointer (some ⟨t, 0, none⟩), .int .i64 who] w fun e w' =>
    ∃ v L, e = .returned v ∧ FreeIs T who L ∧ IRow w' w.heap.size v L ∧ L.length ≤ n ∧ Only (fun _ => False) w w' := by
  obtain ⟨i0, hi, hz0, hz1, hz2⟩ := info_parts Try.infoInt
  have c1 := H.c1
  have hml := H.sizes.2.2
  have HT := hide H
  obtain ⟨D, hown, hD⟩ := H.wait
  have hsz := hown.size_le
  have HD := hide hD
  clear H hD
  go_enter Try.func24, Try.ntmps24
  go_wp2_with (first
    | (at_range; refine wpList_range_own _ rfl _ 49 rfl 3 58 keyedI Try.underlying49 _ m _ _ rfl hown ?_; intro w0 hrg0 hg0 hs0))
  go_frame
  obtain ⟨r, hr⟩ : ∃ r, w.heap.size = r := ⟨_, rfl⟩
  have HR0 : Hid (w0.ranges Try.prog 3 waitElem m r n D (has D) (Maps.size D)) := by rw [← hr]; exact hrg0
  have HO0 : Hid (Only (fun _ => False) w w0) := Only.grown (S := fun _ => False) hg0 (fun k hk => by cases hk)
  have hs02 := hg0.size
  rw [hr] at hs02 hs0 hml ⊢
  have HOWN := hide hown
  have HRE := hide hr
  clear hr hrg0 hg0 c1 hown
  go_loopw [5] (fun v wr => ∃ (left : Lit → Bool) (cnt : Nat) (zs : List Int), Hid (wr.ranges Try.prog 3 waitElem m r n D left cnt) ∧ zs.length + cnt ≤ Maps.size D ∧
      Hid (IRow wr r v zs) ∧ Hid (ColI (fun x => ∃ k, T.wait x = some k ∧ T.hold k = some who) left zs) ∧ Hid (Only (fun _ => False) w wr) ∧ r < wr.heap.size)
    (fun _ wr => wr.rangeLeft m r)
  case atStart => exact ⟨_, _, [], HR0, by simp, hide (IRow.nil _ _), hide (ColI.start HD.out (fun x e => by obtain ⟨k, e, _⟩ := e; rw [e]; rfl)), HO0, by omega⟩
  case round =>
    obtain ⟨left, cnt, zs, HR, hcs, HW, HC, HO, hrs⟩ := hrel
    go_wp2_with (first
      | (at_next; refine wpList_next_ranges _ rfl _ rfl 3 keyedI waitElem iv wv inv_keyI inv_waitElem m r _ _ _ _ rfl HR.out ?_ ?_))
    · intro hc0 hl0
      have hc := sortI_any wr r _ zs HW.out HC.out.1 (by omega)
      have HL := hide hl0
      clear hl0
      go_wp2_with (go_at_call 32; refine hc.mono ?_; rintro e w' ⟨rfl, M, hM1, hM2, hM3, hM4, hM5⟩)
      go_ret
      refine ⟨_, M, rfl, ⟨hM3, fun k => ?_⟩, by rw [HRE.out]; exact hM4, by omega, HO.out.trans hM5 (fun i hi e => by have := HRE.out; omega)⟩
      rw [hM2 k, HC.out.2 k, HL.out]
      simp
    · intro x c kl yd yp w2 cnt2 hkey hlk hv hat hrg2 hcl hg2 hs2 hen
      obtain ⟨rfl, hf⟩ := wentry_is HD.out hkey hv hat
      have hO2 : Only (fun i => i = r) wr w2 := Only.grown hg2 (fun i hi => by cases hi; rfl)
      have HNE : Hid (some r ≠ u5.ownBlock) := row_ne_iter HW.out HR.out
      have HW2 : Hid (IRow w2 r u5 zs) := HW.out.kept hO2 (fun k hk e => HNE.out (by rw [hk, e]))
      have HR2 := hide hrg2
      have HO2 : Hid (Only (fun _ => False) w w2) := HO.out.trans hO2 (fun i hi e => by have := HRE.out; omega)
      have HM : Hid (cnt2 < cnt) := hcl
      have HLK := hide hlk
      have hgs := hg2.size
      obtain ⟨y, hy⟩ := HT.out.ok.held x c hf
      have hk := (HT.out.ok.w64 x c hf).2
      have O3 : Only (fun _ => False) w2 (w2.alloc (.cells #[.string c] 58)) := Only.alloc _ _ _
      have HT3 := (HT.out.more HO2.out).more O3
      have c0 := HT3.c0
      have hl := ((HT3.more (Only.drew _ _)).hold.look hk).2
      rw [hy] at hl
      simp only [Option.getD_some] at hl
      unfold wv iv at hen
      unfold wv iv
      have c0d : (w2.alloc (.cells #[.string c] 58)).drew.cell? ⟨t, 0, none⟩ = some (.map (some h)) := c0
      clear hkey hlk hv hat hrg2 hg2 hs2 hO2 hcl hk HT3
      by_cases he : y = who
      · have hb : (y == who) = true := by simp [he]
        have HF : Hid (∃ k, T.wait x = some k ∧ T.hold k = some who) := ⟨c, hf, he ▸ hy⟩
        clear he hf hy
        go_upto_region 5 with fail
        go_region
        obtain ⟨X, hX⟩ : ∃ X, X = (w2.alloc (.cells #[.string c] 58)).drew := ⟨_, rfl⟩
        have O4 : Only (fun _ => False) w2 X := by rw [hX]; exact O3.trans (Only.drew _ _) (fun _ _ h => h)
        have hXs : w2.heap.size < X.heap.size := by rw [hX]; simp
        have HW3 : Hid (IRow X r u5 zs) := HW2.out.kept O4 (fun _ _ => id)
        have HR3 : Hid (X.ranges Try.prog 3 waitElem m r n D (fun z => left z && !z.sameKey (.int .i64 x)) cnt2) := by
          rw [hX]
          exact (HR2.out.alloc _)
        have HO3 : Hid (Only (fun _ => False) w X) := HO2.out.trans O4 (fun _ _ h => h)
        rw [← hX]
        clear hX O4 O3 hl c0 c0d
        go_wp2_with (first
          | (at_builtin; go_must (refine wpList_append_own_at _ rfl _ _ 31 rfl r 3 i0 (.int .i64 0) 1 8 Try.underlying31 hi hz0 hz1 hz2 rfl (by decide) _ _ _ rfl (World.ownsRow.alloc HW3.out _) ⟨X.heap.size, 0, none⟩ 1 1 [.int .i64 x] rfl rfl (cell_one_new _ _ _) (by simp [Value.oneCell']) (by unfold maxLen at *; omega) (by omega) (by simp; omega) ?_); intro v' w3 hown' hg3 hnil3 hloc; go_frame))
        have hrg3 := (HR3.out.alloc (.cells #[.int .i64 x] 3)).kept hg3 (row_ne_low HW3.out hml) (HNE.out)
        refine ⟨⟨_, cnt2, zs ++ [x], hide hrg3, by have := HM.out; simp; omega, hide ?_, hide (HC.out.take HLK.out HF.out), hide ?_, by have := hg3.size; simp at this; omega⟩, ?_⟩
        · unfold IRow
          simpa [iv] using hown'
        · refine (HO3.out.trans (Only.alloc (fun _ => False) _ _) (fun _ _ h => h)).trans (Only.grown (S := fun i => r ≤ i) hg3 (fun i hi => (World.ownsRow.lt HW3.out i hi).1)) (fun i hi e => by have := HRE.out; omega)
        · rw [hrg3.left_eq, HR.out.left_eq]; exact HM.out
      · have hb : (y == who) = false := by simp [he]
        have HF : Hid (¬ ∃ k, T.wait x = some k ∧ T.hold k = some who) := by
          rintro ⟨k, e1, e2⟩
          rw [hf] at e1
          cases e1
          rw [hy] at e2
          exact he (Option.some.inj e2)
        clear he hf hy
        go_upto_region 5 with fail
        go_region
        obtain ⟨X, hX⟩ : ∃ X, X = (w2.alloc (.cells #[.string c] 58)).drew := ⟨_, rfl⟩
        have O4 : Only (fun _ => False) w2 X := by rw [hX]; exact O3.trans (Only.drew _ _) (fun _ _ h => h)
        have hXs : w2.heap.size < X.heap.size := by rw [hX]; simp
        have HW3 : Hid (IRow X r u5 zs) := HW2.out.kept O4 (fun _ _ => id)
        have HR3 : Hid (X.ranges Try.prog 3 waitElem m r n D (fun z => left z && !z.sameKey (.int .i64 x)) cnt2) := by
          rw [hX]
          exact (HR2.out.alloc _)
        have HO3 : Hid (Only (fun _ => False) w X) := HO2.out.trans O4 (fun _ _ h => h)
        rw [← hX]
        clear hX O4 O3 hl c0 c0d
        go_wp2_with fail
        refine ⟨⟨_, cnt2, zs, HR3, by have := HM.out; omega, HW3, hide (HC.out.skip HF.out), HO3, by omega⟩, ?_⟩
        rw [HR3.out.left_eq, HR.out.left_eq]; exact HM.out
end Go.Proofs.Ytmmhmgndokaklaa
