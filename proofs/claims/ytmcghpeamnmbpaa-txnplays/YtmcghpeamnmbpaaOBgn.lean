/- What begun, Begun and Running do. -/
import Derived.Test.YtmcghpeamnmbpaaOTake
import Derived.Test.YtmcghpeamnmbpaaOSort
import Derived.Deep.RegionHeld3
import Derived.Lib.AppendZeros
namespace Go.Proofs.Ytmcghpeamnmbpaa
open Go.RowKit Go.Maps

theorem yieldsIf_load_cellB {ops : Array Oper} {S : World → Prop} {op : Oper} {a : Act} {v : Value} (hw : Region.wanted op (yielded ops a.tmps) = true) (ty : TypeId) (x : Operand) (ho : op.op = .load ty x)
    (p : Addr) (hx : a.eval x = .pointer (some p)) (hS : ∀ w, S w → w.cell? p = some v) (hl : ∀ w, w.cell? p = some v → (loadVar ty p).run Try.prog w = .ok v w) : YieldsIf Try.prog ops S op v a :=
  .inl ⟨hw, fun w hw' => by
    unfold execOp
    simp only [ho, hx, Instr.loadAt, Instr.sureAddr, Sem.run_bind, Sem.run_pure, Result.andThen_ok, hl w (hS w hw')]⟩
theorem ld_int {w : World} {p : Addr} {v : Value} (h : w.cell? p = some v) : (loadVar 3 p).run Try.prog w = .ok v w := by simp [loadVar, go_sem, h]
/-- Those met so far that have an id, in some order. -/
structure BgSo (f : Tt) (left : Lit → Bool) (B : List (Int × Int)) : Prop where
  mem : ∀ p, p ∈ B ↔ ∃ a t, f a = some t ∧ left (.int .i64 a) = false ∧ t.xid ≠ 0 ∧ p = (t.xid, t.lst)
  nd : (B.map (·.1)).Nodup
theorem BgSo.start {f : Tt} {left : Lit → Bool} (hl : ∀ a t, f a = some t → left (.int .i64 a) = true) : BgSo f left [] :=
  ⟨fun p => ⟨(fun h => by cases h), (fun ⟨a, t, e, l, _⟩ => by rw [hl a t e] at l; cases l)⟩, List.nodup_nil⟩
theorem BgSo.skip {f : Tt} {left : Lit → Bool} {B : List (Int × Int)} (h : BgSo f left B) {a : Int} {t : Tx} (hf : f a = some t) (h0 : t.xid = 0) : BgSo f (fun z => left z && !z.sameKey (.int .i64 a)) B := by
  refine ⟨fun p => (h.mem p).trans ⟨?_, ?_⟩, h.nd⟩
  · rintro ⟨c, s, e, l, h1, h2⟩
    exact ⟨c, s, e, (left_step (kl := .int .i64 a) trivial _).2 (.inl l), h1, h2⟩
  · rintro ⟨c, s, e, l, h1, h2⟩
    rcases (left_step (kl := .int .i64 a) trivial _).1 l with l | l
    · exact ⟨c, s, e, l, h1, h2⟩
    · injection l with _ l
      subst l
      rw [hf] at e
      cases e
      exact absurd h0 h1
theorem BgSo.add {f : Tt} {n : Nat} (hok : f.Ok n) {left : Lit → Bool} {B : List (Int × Int)} (h : BgSo f left B) {a : Int} {t : Tx} (hf : f a = some t) (hl : left (.int .i64 a) = true) (h0 : t.xid ≠ 0) : BgSo f (fun z => left z && !z.sameKey (.int .i64 a)) (B ++ [(t.xid, t.lst)]) := by
  refine ⟨fun p => ?_, ?_⟩
  · rw [List.mem_append, List.mem_singleton, h.mem p]
    constructor
    · rintro (⟨c, s, e, l, h1, h2⟩ | rfl)
      · exact ⟨c, s, e, (left_step (kl := .int .i64 a) trivial _).2 (.inl l), h1, h2⟩
      · exact ⟨a, t, hf, (left_step (kl := .int .i64 a) trivial _).2 (.inr rfl), h0, rfl⟩
    · rintro ⟨c, s, e, l, h1, h2⟩
      rcases (left_step (kl := .int .i64 a) trivial _).1 l with l | l
      · exact .inl ⟨c, s, e, l, h1, h2⟩
      · injection l with _ l
        subst l
        rw [hf] at e
        cases e
        exact .inr h2
  · rw [List.map_append]
    refine List.nodup_append.2 ⟨h.nd, by simp, ?_⟩
    intro x hx y hy e
    obtain ⟨p, hp, rfl⟩ := List.mem_map.1 hx
    obtain ⟨c, s, e1, l, h1, rfl⟩ := (h.mem p).1 hp
    simp only [List.map_cons, List.map_nil, List.mem_singleton] at hy
    have e2 : s.xid = t.xid := e.trans hy
    have := hok.one c a s t e1 hf h1 e2
    subst this
    rw [hl] at l
    cases l
theorem BgSo.done {f : Tt} {left : Lit → Bool} {B M : List (Int × Int)} (h : BgSo f left B) (hl : ∀ kl, left kl = false) (hp : M.Perm B) (hs : M.Pairwise (fun p q => p.1 < q.1)) : BgIs f M := by
  refine ⟨hs, fun p => (hp.mem_iff.trans (h.mem p)).trans ⟨?_, ?_⟩⟩
  · rintro ⟨a, t, e, _, h1, h2⟩
    exact ⟨a, t, e, h1, h2⟩
  · rintro ⟨a, t, e, h1, h2⟩
    exact ⟨a, t, e, hl _, h1, h2⟩
/-- A list of those that have begun was returned. -/
structure RB (e : Ending) (w w' : World) (n : Nat) (Q : List (Int × Int) → Prop) : Prop where
  ex : ∃ ao cp B, e = .returned (.slice ao B.length cp) ∧ BRow w' w.heap.size (.slice ao B.length cp) B ∧ Q B ∧ B.length ≤ n
set_option maxRecDepth 100000 in
set_option maxHeartbeats 3200000 in
theorem begun_any (w : World) (Z : Nat → Prop) (t m n : Nat) (g : Gm) (f : Tt) (H : Tabg w Z t m n g f) (hn : n ≤ 5864062014700) : Calls Try.prog 45 #[.map (some m)] w fun e w' => RB e w w' n (BgIs f) ∧ Only (fun _ => False) w w' := by
  have hml := H.own.lt
  obtain ⟨D, hown, hD⟩ := H.own
  have hsl := hown.size_le
  have HD := hide hD
  have HH := hide H
  clear H hD
  go_enter Try.func45, Try.ntmps45
  go_wp2_with (first
    | (at_range; refine wpList_range_own _ rfl _ 61 rfl 3 67 keyedI Try.underlying61 _ m _ _ rfl hown ?_; intro w0 hrg0 hg0 hs0))
  go_frame
  obtain ⟨r, hr⟩ : ∃ r, w.heap.size = r := ⟨_, rfl⟩
  have HR0 : Hid (w0.ranges Try.prog 3 ptrElem m r n D (has D) (Maps.size D)) := by rw [← hr]; exact hrg0
  have HO0 : Hid (Only (fun _ => False) w w0) := Only.grown (S := fun _ => False) hg0 (fun k hk => by cases hk)
  have hs02 := hg0.size
  rw [hr] at hs02 hs0 hml ⊢
  have HRE := hide hr
  clear hr hrg0 hg0 hown
  go_loopw [3] (fun v wr => ∃ (left : Lit → Bool) (cnt : Nat) (B : List (Int × Int)), Hid (wr.ranges Try.prog 3 ptrElem m r n D left cnt) ∧ Hid (BRow wr (r + 1) v B) ∧ Hid (BgSo f left B) ∧ Hid (Only (fun _ => False) w wr) ∧ r < wr.heap.size ∧ B.length + cnt ≤ n)
    (fun _ wr => wr.rangeLeft m r)
  case atStart =>
    refine ⟨_, _, [], HR0, GRow.nil _ _, BgSo.start (fun a t' e => ?_), HO0, by omega, by simpa using hsl⟩
    rw [HD.out.has, HH.out.dom a, e]
    rfl
  case round =>
    obtain ⟨left, cnt, B, HR, HB, HF, HO, hrs, hcn⟩ := hrel
    go_wp2_with (first
      | (at_next; refine wpList_next_ranges _ rfl _ rfl 3 keyedI ptrElem iv id inv_keyI inv_ptr m r _ _ _ _ rfl HR.out ?_ ?_))
    · intro hc0 hl0
      have HL := hide hl0
      have HS := hide (sortB_any wr (r + 1) u3 B HB.out HF.out.nd (by omega))
      clear hl0
      go_wp2_with fail
      refine HS.out.mono ?_
      rintro e w4 ⟨rfl, M, hp, hs, hM, ho⟩
      have hlen := hp.length_eq
      obtain ⟨ao, cp, rfl⟩ : ∃ ao cp, u3 = .slice ao M.length cp := hM.form
      have HM := hide hM
      have HB2 := hide (HF.out.done (fun kl => by rw [HL.out]) hp hs)
      have HO4 : Hid (Only (fun _ => False) w w4) := HO.out.trans ho (fun i hi e => by have := HRE.out; omega)
      have HNN : Hid (M.length ≤ n) := by unfold Hid; omega
      clear hp hs hM ho hlen HS HB
      go_wp2_with fail
      go_ret
      exact ⟨⟨ao, cp, M, rfl, GRow.base HM.out (by have := HRE.out; omega), HB2.out, HNN.out⟩, HO4.out⟩
    · intro a c kl yd yp w2 cnt2 hkey hlk hv hat hrg2 hcl hg2 hs2 hen
      obtain ⟨rfl, b, hgb, rfl⟩ := entry_is HD.out hkey hv hat
      obtain ⟨s, tx, hf, hx, _⟩ := HH.out.at_ a b hgb
      have hO2 : Only (fun i => i = r) wr w2 := Only.grown hg2 (fun i hi => by cases hi; rfl)
      have HR2 := hide hrg2
      have HO2 : Hid (Only (fun _ => False) w w2) := HO.out.trans hO2 (fun i hi e => by have := HRE.out; omega)
      have HM : Hid (cnt2 < cnt) := hcl
      have HFX := hide hf
      have HGB := hide hgb
      have hgs := hg2.size
      have HLK := hide hlk
      have hx2 := hx.kept HO2.out id
      have HX := hide hx2
      have HXC := hide (hasXid_any w2 b s tx hx2)
      have HB2 : Hid (BRow w2 (r + 1) u3 B) := HB.out.kept hO2 (fun k hk e => by have := (HB.out.low k hk).1; omega)
      unfold iv at hen
      unfold iv
      clear hkey hlk hv hat hrg2 hg2 hs2 hO2 hf hx hgb hx2
      by_cases h0 : tx.xid = 0
      · have hb : (tx.xid != 0) = false := by simp [h0]
        simp only [hb] at HXC
        have HF2 := hide (HF.out.skip HFX.out h0)
        clear h0 hb
        go_wp2_with fail
        refine HXC.out.mono ?_
        rintro e w1 ⟨rfl, rfl⟩
        go_wp2_with fail
        refine ⟨⟨_, cnt2, B, HR2, HB2, HF2, HO2, by omega, by omega⟩, ?_⟩
        rw [HR2.out.left_eq, HR.out.left_eq]; exact HM.out
      · have hb : (tx.xid != 0) = true := by simp [h0]
        simp only [hb] at HXC
        have HF2 := hide (HF.out.add HH.out.ok HFX.out HLK.out h0)
        clear h0 hb
        go_upto_region 6 with (refine HXC.out.mono ?_; rintro e w1 ⟨rfl, hw1⟩; obtain rfl := hw1.symm)
        have HBD : Hid (BRow w2.drew (r + 1) u3 B) := HB2.out.more (Only.drew _ _)
        obtain ⟨v', X3, hr, hrow, ho3, _⟩ := brow_one HBD.out (tx.xid, tx.lst) (by omega) (show r + 1 ≤ w2.drew.heap.size from by have := HO2.out.size; have := HRE.out; have : w2.drew.heap.size = w2.heap.size := rfl; omega) 51 1
        have HROW := hide hrow
        have HRA := hide hr
        have HO3 := hide ho3
        clear hrow ho3 hr
        have hxl := HX.out.lt
        have HNE : Hid (∀ k, some k = u3.ownBlock → k ≠ b) := fun k hk e => by
          have h1 := (HB2.out.low k hk.symm).1
          have h2 : b < w.heap.size := by
            obtain ⟨_, _, _, h3, _⟩ := HH.out.at_ a b HGB.out
            exact h3.lt
          have := HRE.out
          omega
        have HCC2 : Hid (∀ W, Only (fun k => some k = u3.ownBlock) w2 W → W.cell? ⟨b, 2, none⟩ = some (.int .i64 tx.xid)) := fun W ho => (HX.out.kept ho (fun e => HNE.out b e rfl)).c2
        have HCC4 : Hid (∀ W, Only (fun k => some k = u3.ownBlock) w2 W → W.cell? ⟨b, 4, none⟩ = some (.int .i64 tx.lst)) := fun W ho => (HX.out.kept ho (fun e => HNE.out b e rfl)).c4
        refine wp_region_noPanic ?_
        refine wp_region_held_drew (S := fun W => Only (fun k => some k = u3.ownBlock) w2 W) (by kernel_rfl) (Only.drew _ _) (fun hHeld => ?_)
        refine wpAnyH_take (i := 0) (oi := { dst := some 14, op := Op.move (Operand.tmp 3), type := 51, pos := "txn.go:163", after := #[], guard := none }) (v := u3) rfl (by kernel_rfl) (by kernel_rfl) (by kernel_rfl) (fun _ _ _ h => h) (Or.inl ⟨by rfl, fun w' hSw => by clear hSw; go_simp⟩) (by assumption) ?_
        simp only [Act.put, List.setIfInBounds_toArray, List.set_cons_zero, List.set_cons_succ]
        refine wpAnyH_take (i := 1) (oi := { dst := some 15, op := Op.move (Operand.tmp 5), type := 67, pos := "txn.go:163", after := #[], guard := none }) (v := .pointer (some ⟨b, 0, none⟩)) rfl (by kernel_rfl) (by kernel_rfl) (by kernel_rfl) (fun _ _ _ h => h) (Or.inl ⟨by rfl, fun w' hSw => by clear hSw; go_simp⟩) (by assumption) ?_
        simp only [Act.put, List.setIfInBounds_toArray, List.set_cons_zero, List.set_cons_succ]
        refine wpAnyH_take (i := 6) (oi := { dst := some 20, op := Op.move (Operand.tmp 5), type := 67, pos := "txn.go:163", after := #[], guard := none }) (v := .pointer (some ⟨b, 0, none⟩)) rfl (by kernel_rfl) (by kernel_rfl) (by kernel_rfl) (fun _ _ _ h => h) (Or.inl ⟨by rfl, fun w' hSw => by clear hSw; go_simp⟩) (by assumption) ?_
        simp only [Act.put, List.setIfInBounds_toArray, List.set_cons_zero, List.set_cons_succ]
        refine wpAnyH_take (i := 2) (oi := { dst := some 16, op := Op.nilCheck (Operand.tmp 15), type := 0, pos := "txn.go:163", after := #[{ on := 1, ground := Ground.data }], guard := none }) (v := .pointer (some ⟨b, 0, none⟩)) rfl (by kernel_rfl) (by kernel_rfl) (by kernel_rfl) (fun _ _ _ h => h) (Or.inl ⟨by rfl, fun w' hSw => by clear hSw; go_simp⟩) (by assumption) ?_
        simp only [Act.put, List.setIfInBounds_toArray, List.set_cons_zero, List.set_cons_succ]
        refine wpAnyH_take (i := 7) (oi := { dst := some 21, op := Op.nilCheck (Operand.tmp 20), type := 0, pos := "txn.go:163", after := #[{ on := 6, ground := Ground.data }], guard := none }) (v := .pointer (some ⟨b, 0, none⟩)) rfl (by kernel_rfl) (by kernel_rfl) (by kernel_rfl) (fun _ _ _ h => h) (Or.inl ⟨by rfl, fun w' hSw => by clear hSw; go_simp⟩) (by assumption) ?_
        simp only [Act.put, List.setIfInBounds_toArray, List.set_cons_zero, List.set_cons_succ]
        refine wpAnyH_take (i := 3) (oi := { dst := some 17, op := Op.fieldAddr 71 (Operand.tmp 16) 0, type := 0, pos := "txn.go:163", after := #[{ on := 2, ground := Ground.data }], guard := none }) (v := .pointer (some ⟨b, 0, none⟩)) rfl (by kernel_rfl) (by kernel_rfl) (by kernel_rfl) (fun _ _ _ h => h) (Or.inl ⟨by rfl, fun w' hSw => by clear hSw; go_simp⟩) (by assumption) ?_
        simp only [Act.put, List.setIfInBounds_toArray, List.set_cons_zero, List.set_cons_succ]
        refine wpAnyH_take (i := 8) (oi := { dst := some 22, op := Op.fieldAddr 71 (Operand.tmp 21) 0, type := 0, pos := "txn.go:163", after := #[{ on := 7, ground := Ground.data }], guard := none }) (v := .pointer (some ⟨b, 0, none⟩)) rfl (by kernel_rfl) (by kernel_rfl) (by kernel_rfl) (fun _ _ _ h => h) (Or.inl ⟨by rfl, fun w' hSw => by clear hSw; go_simp⟩) (by assumption) ?_
        simp only [Act.put, List.setIfInBounds_toArray, List.set_cons_zero, List.set_cons_succ]
        refine wpAnyH_take (i := 4) (oi := { dst := some 18, op := Op.fieldAddr 37 (Operand.tmp 17) 1, type := 0, pos := "txn.go:163", after := #[{ on := 3, ground := Ground.data }], guard := none }) (v := .pointer (some ⟨b, 2, none⟩)) rfl (by kernel_rfl) (by kernel_rfl) (by kernel_rfl) (fun _ _ _ h => h) (Or.inl ⟨by rfl, fun w' hSw => by clear hSw; go_simp⟩) (by assumption) ?_
        simp only [Act.put, List.setIfInBounds_toArray, List.set_cons_zero, List.set_cons_succ]
        refine wpAnyH_take (i := 9) (oi := { dst := some 23, op := Op.fieldAddr 37 (Operand.tmp 22) 3, type := 0, pos := "txn.go:163", after := #[{ on := 8, ground := Ground.data }], guard := none }) (v := .pointer (some ⟨b, 4, none⟩)) rfl (by kernel_rfl) (by kernel_rfl) (by kernel_rfl) (fun _ _ _ h => h) (Or.inl ⟨by rfl, fun w' hSw => by clear hSw; go_simp⟩) (by assumption) ?_
        simp only [Act.put, List.setIfInBounds_toArray, List.set_cons_zero, List.set_cons_succ]
        refine wpAnyH_take (i := 5) (oi := { dst := some 19, op := Op.load 3 (Operand.tmp 18), type := 3, pos := "txn.go:163", after := #[{ on := 4, ground := Ground.data }], guard := none }) (v := .int .i64 tx.xid) rfl (by kernel_rfl) (by kernel_rfl) (by kernel_rfl) (fun _ _ _ h => h) (yieldsIf_load_cellB (by rfl) 3 _ rfl _ rfl (fun W hW => HCC2.out W hW) (fun W hc => ld_int hc)) (by assumption) ?_
        simp only [Act.put, List.setIfInBounds_toArray, List.set_cons_zero, List.set_cons_succ]
        refine wpAnyH_take (i := 10) (oi := { dst := some 24, op := Op.load 3 (Operand.tmp 23), type := 3, pos := "txn.go:163", after := #[{ on := 9, ground := Ground.data }], guard := none }) (v := .int .i64 tx.lst) rfl (by kernel_rfl) (by kernel_rfl) (by kernel_rfl) (fun _ _ _ h => h) (yieldsIf_load_cellB (by rfl) 3 _ rfl _ rfl (fun W hW => HCC4.out W hW) (fun W hc => ld_int hc)) (by assumption) ?_
        simp only [Act.put, List.setIfInBounds_toArray, List.set_cons_zero, List.set_cons_succ]
        refine wpAnyH_take (i := 11) (oi := { dst := some 25, op := Op.build 59 #[(0, Operand.tmp 19), (1, Operand.tmp 24)], type := 59, pos := "txn.go:163", after := #[{ on := 5, ground := Ground.data }, { on := 10, ground := Ground.data }], guard := none }) (v := .agg #[.int .i64 tx.xid, .int .i64 tx.lst]) rfl (by kernel_rfl) (by kernel_rfl) (by kernel_rfl) (fun _ _ _ h => h) (Or.inl ⟨by rfl, fun w' hSw => by clear hSw; go_simp⟩) (by assumption) ?_
        simp only [Act.put, List.setIfInBounds_toArray, List.set_cons_zero, List.set_cons_succ]
        refine wpAnyH_ready (rs := [12]) (by kernel_rfl) (by simp) ?_
        refine AllReadyH.cons (o := { dst := some 26, op := Op.buildSlice 51 1 #[(0, Operand.tmp 25)], type := 51, pos := "txn.go:163", after := #[{ on := 11, ground := Ground.data }], guard := none }) rfl (fun K hK => ?_) (AllReadyH.nil)
        go_simp
        refine hK.out _ _ (((Only.drew (fun k => some k = u3.ownBlock) w2)).trans (Only.alloc (fun k => some k = u3.ownBlock) _ _) (fun _ _ h => h)) (fun hHeld => ?_)
        clear hK K
        try simp only [Act.put, List.setIfInBounds_toArray, List.set_cons_zero, List.set_cons_succ]
        refine wpAnyH_ready (rs := [13]) (by kernel_rfl) (by simp) ?_
        refine AllReadyH.cons (o := { dst := some 27, op := Op.call { callee := Callee.builtin Builtin.append, args := #[Operand.tmp 14, Operand.tmp 26], argTypes := #[51, 51] }, type := 51, pos := "txn.go:163", after := #[{ on := 0, ground := Ground.data }, { on := 12, ground := Ground.data }], guard := none }) rfl (fun K hK => ?_) (AllReadyH.nil)
        rw [if_pos (by rfl)]
        refine Lib.wp_append_run _ (.tmp 14) (.tmp 26) _ _ rfl _ _ rfl rfl _ _ HRA.out ?_
        refine hK.out _ _ ((Only.drew (fun k => some k = u3.ownBlock) w2).trans HO3.out (fun _ _ h => h)) (fun hHeld => ?_)
        clear hK K
        try simp only [Act.put, List.setIfInBounds_toArray, List.set_cons_zero, List.set_cons_succ]
        refine wpAnyH_take (i := 14) (oi := { dst := some 3, op := Op.assign (Operand.tmp 27), type := 51, pos := "txn.go:163", after := #[{ on := 13, ground := Ground.data }, { on := 13, ground := Ground.chain }, { on := 0, ground := Ground.phase }, { on := 1, ground := Ground.phase }, { on := 2, ground := Ground.phase }, { on := 3, ground := Ground.phase }, { on := 4, ground := Ground.phase }, { on := 5, ground := Ground.phase }, { on := 6, ground := Ground.phase }, { on := 7, ground := Ground.phase }, { on := 8, ground := Ground.phase }, { on := 9, ground := Ground.phase }, { on := 10, ground := Ground.phase }, { on := 11, ground := Ground.phase }, { on := 12, ground := Ground.phase }, { on := 13, ground := Ground.phase }], guard := none }) (v := v') rfl (by kernel_rfl) (by kernel_rfl) (by kernel_rfl) (fun _ _ _ h => h) (Or.inl ⟨by rfl, fun w' hSw => by clear hSw; go_simp⟩) (by assumption) ?_
        simp only [Act.put, List.setIfInBounds_toArray, List.set_cons_zero, List.set_cons_succ]
        refine wpAnyH_done (by kernel_rfl) ?_ _
        refine NoPanic.normal ?_
        go_wp2_with fail
        have hlow := HB2.out.low
        have hre := HRE.out
        have hml2 := HH.out.own.lt
        have HOF : Hid (Only (fun _ => False) w X3) := (HO2.out.trans (Only.drew (fun _ => False) _) (fun _ _ h => h)).trans HO3.out (fun i hi e => by have := (hlow i e.symm).1; omega)
        have HR3 : Hid (X3.ranges Try.prog 3 ptrElem m r n D (fun z => left z && !z.sameKey (.int .i64 a)) cnt2) := by
          have ho : Only (fun k => some k = u3.ownBlock) w2 X3 := (Only.drew (fun k => some k = u3.ownBlock) w2).trans HO3.out (fun _ _ h => h)
          exact HR2.out.kept ⟨ho.os, ho.tape, ho.output, ho.size, fun k hk hne => ho.block k hk hne⟩ (fun e => by have := (hlow m e.symm).1; omega) (fun e => by have := (hlow r e.symm).1; omega)
        have hsz := HO3.out.size
        have hds : w2.drew.heap.size = w2.heap.size := rfl
        refine ⟨⟨_, cnt2, B ++ [(tx.xid, tx.lst)], HR3, HROW, HF2, HOF, by omega, ?_⟩, ?_⟩
        · have := HM.out
          rw [List.length_append, List.length_singleton]
          omega
        · rw [HR3.out.left_eq, HR.out.left_eq]; exact HM.out
theorem begunN_nil (w : World) : Calls Try.prog 27 #[.pointer none] w fun e w' => e = .returned (.slice none 0 0) ∧ w' = w := by
  go_enter Try.func27, Try.ntmps27
  go_wp2_with fail
  go_ret
  exact ⟨rfl, rfl⟩
theorem begunN_any (w : World) (Z : Nat → Prop) (t m n : Nat) (f : Tt) (H : Tab w Z t m n f) (hn : n ≤ 5864062014700) : Calls Try.prog 27 #[.pointer (some ⟨t, 0, none⟩)] w fun e w' => RB e w w' n (BgIs f) ∧ Only (fun _ => False) w w' := by
  obtain ⟨g, H⟩ := H
  have HC := hide (begun_any w Z t m n g f H hn)
  have c0 := H.c0
  clear H
  go_enter Try.func27, Try.ntmps27
  go_wp2_with fail
  refine HC.out.mono ?_
  rintro e w1 ⟨⟨ao, cp, B, rfl, hB⟩, hO⟩
  have HB := hide hB
  have HO := hide hO
  clear hB hO HC
  go_wp2_with fail
  go_ret
  exact ⟨⟨ao, cp, B, rfl, HB.out⟩, HO.out⟩
end Go.Proofs.Ytmcghpeamnmbpaa
