/- What the document's Snaps, Begun and Running do. -/
import Derived.Test.YtmcghpeamnmbpaaORefE
import Derived.Deep.RegionHeld3
namespace Go.Proofs.Ytmcghpeamnmbpaa
open Go.RowKit Go.Maps

theorem RIs.whs {f : Tt} {R : List Rw} (h : RIs f R) : WhIs f (R.map (·.who)) := by
  refine ⟨List.pairwise_map.2 h.up, fun a => ?_⟩
  rw [List.mem_map]
  constructor
  · rintro ⟨x, hx, rfl⟩
    exact ⟨x.tx, (h.mem _ _).2 ⟨x, hx, rfl, rfl⟩⟩
  · rintro ⟨t, ht⟩
    obtain ⟨x, hx, hw, _⟩ := (h.mem a t).1 ht
    exact ⟨x, hx, hw⟩
theorem RIs.snaps {f : Tt} {R : List Rw} (h : RIs f R) : SnIs f ((R.map (·.s)).map Sp.p) := by
  refine ⟨_, h.whs, ?_⟩
  rw [List.map_map, List.map_map]
  refine List.map_congr_left (fun x hx => ?_)
  have := (h.mem x.who x.tx).2 ⟨x, hx, rfl, rfl⟩
  show x.s.p = snapT f x.who
  unfold snapT ofT
  rw [this]
  rfl
/-- A list of snapshots was returned. -/
structure RT (e : Ending) (w w' : World) (n : Nat) (f : Tt) : Prop where
  ex : ∃ ao cp S, e = .returned (.slice ao S.length cp) ∧ SRow w' w.heap.size (.slice ao S.length cp) S ∧ SnIs f (S.map Sp.p) ∧ S.length ≤ n ∧ ∀ s ∈ S, Nm w' (fun _ => True) s.ao s.act
set_option maxRecDepth 100000 in
set_option maxHeartbeats 1600000 in
theorem rsnaps_any (w : World) (Y : Nat → Prop) (r n : Nat) (f : Tt) (ao : Option Addr) (cp : Nat) (R : List Rw) (H : Rm w Y r n f ao cp R) (hn : n ≤ 4398046511103) : Calls Try.prog 40 #[.pointer (some ⟨r, 0, none⟩)] w fun e w' => RT e w w' n f ∧ Only (fun _ => False) w w' := by
  have c0 := H.c0
  have hlen := H.hn
  have HH := hide H
  clear H
  go_enter Try.func40, Try.ntmps40
  go_wp2_with fail
  go_loopw [3, 4] (fun v y wr => ∃ (j : Nat), j ≤ R.length ∧ y = .int .i64 (j : Int) ∧ Hid (SRow wr w.heap.size v ((R.take j).map (·.s))) ∧ Hid (Only (fun _ => False) w wr)) (fun _ y _ => R.length - (intOf y).toNat)
  case atStart => exact ⟨0, by omega, rfl, GRow.nil _ _, Only.refl _ _⟩
  case round =>
    obtain ⟨j, hj, rfl, HV, HO⟩ := hrel
    have HRr := hide (HH.out.more HO.out)
    have c0r := HRr.out.c0
    by_cases hlt : j < R.length
    · obtain ⟨g, rfl, _, _, _, hcp, _, k1, k2, _⟩ := HRr.out.row hlt
      have htk : (R.take (j + 1)).map (·.s) = (R.take j).map (·.s) ++ [R[j].s] := by rw [List.take_succ_eq_append_getElem hlt, List.map_append]; rfl
      obtain ⟨s, hs⟩ : ∃ s, R[j].s = s := ⟨_, rfl⟩
      rw [hs] at k1 k2 htk
      obtain ⟨nx, xa, xc, act⟩ := s
      simp only at k1 k2
      have HTK := hide htk
      have hwl := HO.out.size
      have hfl : ((R.take j).map (·.s)).length ≤ n := by rw [List.length_map, List.length_take]; omega
      have hj0 : (0 : Int) ≤ (j : Int) := by omega
      have hj1 : (j : Int) < (R.length : Int) := by omega
      clear hs htk
      obtain ⟨v', X3, hr, hrow, ho3, _⟩ := srow_one HV.out ⟨nx, xa, xc, act⟩ (by omega) (by omega) 44 1
      have HR := hide hr
      have HV2 : Hid (SRow X3 w.heap.size v' ((R.take (j + 1)).map (·.s))) := by
        rw [HTK.out]
        exact hrow
      have HO2 : Hid (Only (fun _ => False) w X3) := GRow.only HV.out HO.out ho3
      clear hr hrow ho3
      go_wp2_with (at_builtin; go_must (refine Lib.wpList_append_run _ rfl _ _ _ _ rfl _ _ rfl rfl _ _ HR.out ?_); go_frame)
      exact ⟨⟨j + 1, by omega, by go_num, HV2, HO2⟩, by simp [intOf]; omega⟩
    · have ej : R.take j = R := List.take_of_length_le (by omega)
      rw [ej] at HV
      have HSI := hide HH.out.hi.snaps
      have hsl : (R.map (·.s)).length ≤ n := by rw [List.length_map]; omega
      have HNM : Hid (∀ s ∈ R.map (·.s), Nm wr (fun _ => True) s.ao s.act) := fun s hs => by
        obtain ⟨x, hx, rfl⟩ := List.mem_map.1 hs
        exact (HRr.out.nm x hx).mono (fun _ _ _ => trivial)
      obtain ⟨S, hS⟩ : ∃ S, R.map (·.s) = S := ⟨_, rfl⟩
      rw [hS] at HV HSI hsl HNM
      obtain ⟨ao2, cp2, hv⟩ : ∃ ao cp, u3 = .slice ao S.length cp := HV.out.form
      subst hv
      clear ej hS
      go_wp2_with fail
      go_ret
      exact ⟨⟨ao2, cp2, S, rfl, HV.out, HSI.out, hsl, HNM.out⟩, HO.out⟩
/-- Those of the first rows that have an id, by ids. -/
structure BgTo (R : List Rw) (j : Nat) (B : List (Int × Int)) : Prop where
  up : B.Pairwise (fun p q => p.1 < q.1)
  mem : ∀ p, p ∈ B ↔ ∃ q, ∃ hq : q < R.length, q < j ∧ R[q].xid ≠ 0 ∧ p = (R[q].xid, R[q].lst)
theorem BgTo.start (R : List Rw) : BgTo R 0 [] := ⟨List.Pairwise.nil, fun p => ⟨(fun h => by cases h), (fun ⟨q, _, h, _⟩ => by omega)⟩⟩
theorem BgTo.skip {R : List Rw} {j : Nat} {B : List (Int × Int)} (h : BgTo R j B) (hj : j < R.length) (h0 : R[j].xid = 0) : BgTo R (j + 1) B := by
  refine ⟨h.up, fun p => (h.mem p).trans ⟨fun ⟨q, hq, h1, h2⟩ => ⟨q, hq, by omega, h2⟩, fun ⟨q, hq, h1, h2, h3⟩ => ?_⟩⟩
  by_cases e : q = j
  · subst e; exact absurd h0 h2
  · exact ⟨q, hq, by omega, h2, h3⟩
theorem BgTo.add {f : Tt} {n : Nat} {R : List Rw} (hR : RIs f R) (hok : f.Ok n) {j : Nat} {B : List (Int × Int)} (h : BgTo R j B) (hj : j < R.length) (h0 : R[j].xid ≠ 0) {m : Nat} (h1 : ∀ q (hq : q < B.length), q < m → B[q].1 < R[j].xid) (h2 : ∀ hq : m < B.length, ¬ B[m].1 < R[j].xid) : BgTo R (j + 1) (B.take m ++ [(R[j].xid, R[j].lst)] ++ B.drop m) := by
  have hne : ∀ p ∈ B, p.1 ≠ R[j].xid := fun p hp e => by
    obtain ⟨q, hq, hqj, hx, rfl⟩ := (h.mem p).1 hp
    have h3 := hok.one R[q].who R[j].who R[q].tx R[j].tx ((hR.mem _ _).2 ⟨R[q], List.getElem_mem hq, rfl, rfl⟩) ((hR.mem _ _).2 ⟨R[j], List.getElem_mem hj, rfl, rfl⟩) hx e
    have := List.pairwise_iff_getElem.1 hR.up q j hq hj hqj
    omega
  have htake : ∀ p ∈ B.take m, p.1 < R[j].xid := fun p hp => by
    obtain ⟨q, hq, rfl⟩ := List.getElem_of_mem hp
    rw [List.length_take] at hq
    rw [List.getElem_take]
    exact h1 q (by omega) (by omega)
  have hdrop : ∀ p ∈ B.drop m, R[j].xid < p.1 := fun p hp => by
    have hn := hne p (List.mem_of_mem_drop hp)
    obtain ⟨q, hq, rfl⟩ := List.getElem_of_mem hp
    rw [List.length_drop] at hq
    rw [List.getElem_drop] at hn ⊢
    have h3 := h2 (by omega)
    by_cases hq0 : q = 0
    · subst hq0
      simp only [Nat.add_zero] at hn ⊢
      omega
    · have := List.pairwise_iff_getElem.1 h.up m (m + q) (by omega) (by omega) (by omega)
      omega
  refine ⟨?_, fun p => ?_⟩
  · rw [List.append_assoc]
    refine List.pairwise_append.2 ⟨h.up.sublist (List.take_sublist _ _), List.pairwise_cons.2 ⟨hdrop, h.up.sublist (List.drop_sublist _ _)⟩, ?_⟩
    intro p hp q hq
    have h3 := htake p hp
    rcases List.mem_cons.1 hq with rfl | hq
    · exact h3
    · have := hdrop q hq; omega
  · have hm : p ∈ B.take m ++ [(R[j].xid, R[j].lst)] ++ B.drop m ↔ (p = (R[j].xid, R[j].lst) ∨ p ∈ B) := by
      have e := List.take_append_drop m B
      constructor
      · intro hy
        rcases List.mem_append.1 hy with hy | hy
        · rcases List.mem_append.1 hy with hy | hy
          · exact .inr (List.mem_of_mem_take hy)
          · exact .inl (List.mem_singleton.1 hy)
        · exact .inr (List.mem_of_mem_drop hy)
      · rintro (rfl | hy)
        · simp
        · rw [← e] at hy
          rcases List.mem_append.1 hy with hy | hy
          · exact List.mem_append.2 (.inl (List.mem_append.2 (.inl hy)))
          · exact List.mem_append.2 (.inr hy)
    rw [hm, h.mem p]
    constructor
    · rintro (rfl | ⟨q, hq, hqj, hx, rfl⟩)
      · exact ⟨j, hj, by omega, h0, rfl⟩
      · exact ⟨q, hq, by omega, hx, rfl⟩
    · rintro ⟨q, hq, hqj, hx, rfl⟩
      by_cases e : q = j
      · subst e; exact .inl rfl
      · exact .inr ⟨q, hq, by omega, hx, rfl⟩
theorem BgTo.done {f : Tt} {R : List Rw} (hR : RIs f R) {j : Nat} {B : List (Int × Int)} (h : BgTo R j B) (hj : R.length ≤ j) : BgIs f B := by
  refine ⟨h.up, fun p => (h.mem p).trans ⟨fun ⟨q, hq, _, hx, e⟩ => ⟨R[q].who, R[q].tx, (hR.mem _ _).2 ⟨R[q], List.getElem_mem hq, rfl, rfl⟩, hx, e⟩, fun ⟨a, t, ha, hx, e⟩ => ?_⟩⟩
  obtain ⟨y, hy, _, rfl⟩ := (hR.mem a t).1 ha
  obtain ⟨q, hq, rfl⟩ := List.getElem_of_mem hy
  exact ⟨q, hq, by omega, hx, e⟩
/-- Three appends: one pair more. -/
theorem ins_runB {w : World} {base cp : Nat} {ao : Option Addr} {L : List (Int × Int)} (h : BRow w base (.slice ao L.length cp) L) {i : Nat} (hi : i ≤ L.length) (hn : L.length ≤ 8796093022206) (x y : Int) {A2 : Option Addr} (hA : GSrc EB w A2 (L.length - i) (L.drop i)) :
    ∃ v1 w2 v2 w3 v4 w4, (Builtin.append_ #[51, 51] 51 #[.slice none 0 0, .slice ao i cp]).run Try.prog w = .ok v1 w2
      ∧ (Builtin.append_ #[51, 51] 51 #[v1, .slice (some ⟨w2.heap.size, 0, none⟩) 1 1]).run Try.prog (w2.alloc (.cells #[.int .i64 x, .int .i64 y] 59)) = .ok v2 w3
      ∧ (Builtin.append_ #[51, 51] 51 #[v2, .slice A2 (L.length - i) (cp - i)]).run Try.prog w3 = .ok v4 w4
      ∧ BRow w4 w.heap.size v4 (L.take i ++ [(x, y)] ++ L.drop i)
      ∧ Only (fun _ => False) w w2 ∧ Only (fun _ => False) w w3 ∧ Only (fun _ => False) w w4 := by
  obtain ⟨v1, w2, r1, q1, g1, _⟩ := brow_append (GRow.nil w w.heap.size) (GRow.srcT h hi) (by simp; omega) (Nat.le_refl _) 51 cp
  rw [List.nil_append] at q1
  have o1 : Only (fun _ => False) w w2 := Only.grown g1 (fun k hk => by cases hk)
  have hl1 : (L.take i).length = i := by rw [List.length_take]; omega
  obtain ⟨v2, w3, r2, q2, g2, _⟩ := brow_one q1 (x, y) (by omega) o1.size 51 1
  have o2 : Only (fun _ => False) w w3 := GRow.only q1 o1 g2
  obtain ⟨v3, w4, r3, q3, g3, _⟩ := brow_append q2 (hA.more o2) (by rw [List.length_append]; simp; omega) o2.size 51 (cp - i)
  exact ⟨v1, w2, v2, w3, v3, w4, r1, r2, r3, q3, o1, o2, o2.trans (Only.grown (S := fun k => w.heap.size ≤ k) g3 (fun b hb => (q2.low b hb).1)) (fun i hi e => by omega)⟩
theorem yieldsIf_load_cellN {ops : Array Oper} {S : World → Prop} {op : Oper} {a : Act} {v : Value} (hw : Region.wanted op (yielded ops a.tmps) = true) (ty : TypeId) (x : Operand) (ho : op.op = .load ty x)
    (p : Addr) (hx : a.eval x = .pointer (some p)) (hS : ∀ w, S w → w.cell? p = some v) (hl : ∀ w, w.cell? p = some v → (loadVar ty p).run Try.prog w = .ok v w) : YieldsIf Try.prog ops S op v a :=
  .inl ⟨hw, fun w hw' => by
    unfold execOp
    simp only [ho, hx, Instr.loadAt, Instr.sureAddr, Sem.run_bind, Sem.run_pure, Result.andThen_ok, hl w (hS w hw')]⟩
set_option maxRecDepth 100000 in
set_option maxHeartbeats 6400000 in
theorem rbegun_any (w : World) (Y : Nat → Prop) (r n : Nat) (f : Tt) (ao : Option Addr) (cp : Nat) (R : List Rw) (H : Rm w Y r n f ao cp R) (hn : n ≤ 4398046511103) : Calls Try.prog 42 #[.pointer (some ⟨r, 0, none⟩)] w fun e w' => RB e w w' n (BgIs f) ∧ Only (fun _ => False) w w' := by
  have c0 := H.c0
  have hlen := H.hn
  have HH := hide H
  clear H
  go_enter Try.func42, Try.ntmps42
  go_wp2_with fail
  go_loopw [3, 4] (fun v y wr => ∃ (j : Nat) (B : List (Int × Int)), j ≤ R.length ∧ B.length ≤ j ∧ y = .int .i64 (j : Int) ∧ Hid (BRow wr w.heap.size v B) ∧ Hid (BgTo R j B) ∧ Hid (Only (fun _ => False) w wr)) (fun _ y _ => R.length - (intOf y).toNat)
  case atStart => exact ⟨0, [], by omega, by simp, rfl, GRow.nil _ _, BgTo.start R, Only.refl _ _⟩
  case round =>
    obtain ⟨j, B, hj, hbj, rfl, HV, HB, HO⟩ := hrel
    have HRr := hide (HH.out.more HO.out)
    have c0r := HRr.out.c0
    by_cases hlt : j < R.length
    · obtain ⟨g, rfl, _, _, _, hcp, _, k1, k2, k3, k4, k5, k6⟩ := HRr.out.row hlt
      have HX3 : Hid (R[j].xid = R[j].xid ∧ R[j].lst = R[j].lst) := ⟨rfl, rfl⟩
      obtain ⟨x, hx⟩ : ∃ x, R[j] = x := ⟨_, rfl⟩
      rw [hx] at k1 k2 k3 k4 k5 k6
      obtain ⟨xw, ⟨nx, xa, xc, act⟩, xi, fi, la, un⟩ := x
      simp only at k1 k2 k3 k4 k5 k6
      have HXX : Hid (R[j].xid = xi ∧ R[j].lst = la) := by rw [hx]; exact ⟨rfl, rfl⟩
      have hj0 : (0 : Int) ≤ (j : Int) := by omega
      have hj1 : (j : Int) < (R.length : Int) := by omega
      clear hx HX3
      by_cases h0 : xi = 0
      · have hb : (xi == 0) = true := by simp [h0]
        have HB2 : Hid (BgTo R (j + 1) B) := HB.out.skip hlt (by rw [HXX.out.1]; exact h0)
        have HV2 : Hid (∀ vs ty, BRow (wr.alloc (.cells vs ty)) w.heap.size u3 B) := fun vs ty => HV.out.more (onlyA _ _ _)
        have HO2 : Hid (∀ vs ty, Only (fun _ => False) w (wr.alloc (.cells vs ty))) := fun vs ty => o2 HO.out (onlyA _ _ _)
        subst h0
        clear hb
        go_wp2_with fail
        exact ⟨⟨j + 1, B, by omega, by omega, by go_num, HV2.out _ _, HB2, HO2.out _ _⟩, by simp [intOf]; omega⟩
      · have hb : (xi == 0) = false := by simp [h0]
        have H0 := hide h0
        clear h0
        go_upto_region 6 with fail
        have HB5 : Hid (Cb (wr.alloc (.cells #[.int .i64 nx, .slice xa act.length xc, .int .i64 xi, .int .i64 fi, .int .i64 la, .int .i64 un] 37)) wr.heap.size [.int .i64 nx, .slice xa act.length xc, .int .i64 xi, .int .i64 fi, .int .i64 la, .int .i64 un]) := Cb.new wr _ _
        have HO5 := hide (o2 HO.out (onlyA wr #[.int .i64 nx, .slice xa act.length xc, .int .i64 xi, .int .i64 fi, .int .i64 la, .int .i64 un] 37))
        have HV5 := hide (HV.out.more (onlyA wr #[.int .i64 nx, .slice xa act.length xc, .int .i64 xi, .int .i64 fi, .int .i64 la, .int .i64 un] 37))
        obtain ⟨W5, hW5⟩ : ∃ x, wr.alloc (.cells #[.int .i64 nx, .slice xa act.length xc, .int .i64 xi, .int .i64 fi, .int .i64 la, .int .i64 un] 37) = x := ⟨_, rfl⟩
        rw [hW5] at HB5 HO5 HV5 ⊢
        obtain ⟨b5, hb5⟩ : ∃ b, wr.heap.size = b := ⟨_, rfl⟩
        rw [hb5] at HB5 ⊢
        clear hW5 hb5 k1 k2 k3 k4 k5 k6 c0r HV HO
        have e2 := HB5.out.c 2 _ rfl
        go_wp2_with fail
        obtain ⟨aB, cB, hv⟩ : ∃ ao cp, u3 = .slice ao B.length cp := HV5.out.form
        subst hv
        go_loopw [6] (fun y wr6 => ∃ (m : Nat), m ≤ B.length ∧ y = .int .i64 (m : Int) ∧ Hid (∀ q (hq : q < B.length), q < m → B[q].1 < xi) ∧ Hid (Only (fun _ => False) W5 wr6)) (fun y _ => B.length - (intOf y).toNat)
        case atStart => exact ⟨0, by omega, rfl, (fun q _ h => by omega), Only.refl _ _⟩
        case round =>
          obtain ⟨m, hm, rfl, HQ, HO6⟩ := hrel
          obtain ⟨wr6, hwr⟩ : ∃ x, x = wr := ⟨_, rfl⟩
          subst hwr
          have HV6 := hide (GRow.more HV5.out HO6.out)
          have HB6 := hide (HB5.out.more HO6.out)
          by_cases hlm : m < B.length
          · obtain ⟨gB, rfl, _, hgl, hcB, q1⟩ := HV6.out.at_ hlm
            have m0 : wr6.cell? ⟨gB, m * 2 + 0, none⟩ = some (.int .i64 B[m].1) := q1 0 (iv B[m].1) (by decide) rfl
            rw [Nat.add_zero] at m0
            obtain ⟨px, hpx⟩ : ∃ z, B[m].1 = z := ⟨_, rfl⟩
            rw [hpx] at m0
            have HPX := hide hpx
            have HC0 : Hid (∀ W, Only (fun _ => False) wr6 W → W.cell? ⟨gB, m * 2, none⟩ = some (.int .i64 px)) := fun W ho => (ho.cell (p := ⟨gB, m * 2, none⟩) hgl id).trans m0
            have HC2 : Hid (∀ W, Only (fun _ => False) wr6 W → W.cell? ⟨b5, 2, none⟩ = some (.int .i64 xi)) := fun W ho => (HB6.out.more ho).c 2 _ rfl
            have hm0 : (0 : Int) ≤ (m : Int) := by omega
            have hm1 : (m : Int) < (B.length : Int) := by omega
            clear q1 m0 hpx
            by_cases hpl : px < xi
            · have HPL := hide hpl
              go_upto_region 8 with fail
              refine wp_region_noPanic ?_
              refine wp_region_held_drew (S := fun W => Only (fun _ => False) wr6 W) (by kernel_rfl) (Only.drew _ wr6) (fun hHeld => ?_)
              refine wpAnyH_take (i := 0) (oi := { dst := some 28, op := Op.move (Operand.tmp 6), type := 3, pos := "ref.go:114", after := #[], guard := none }) (v := .int .i64 (m : Int)) rfl (by kernel_rfl) (by kernel_rfl) (by kernel_rfl) (fun _ _ _ h => h) (Or.inl ⟨by rfl, fun w' hSw => by clear hSw; go_simp⟩) (by assumption) ?_
              simp only [Act.put, List.setIfInBounds_toArray, List.set_cons_zero, List.set_cons_succ]
              refine wpAnyH_take (i := 1) (oi := { dst := some 29, op := Op.move (Operand.tmp 3), type := 51, pos := "ref.go:114", after := #[], guard := none }) (v := .slice (some ⟨gB, 0, none⟩) B.length cB) rfl (by kernel_rfl) (by kernel_rfl) (by kernel_rfl) (fun _ _ _ h => h) (Or.inl ⟨by rfl, fun w' hSw => by clear hSw; go_simp⟩) (by assumption) ?_
              simp only [Act.put, List.setIfInBounds_toArray, List.set_cons_zero, List.set_cons_succ]
              refine wpAnyH_take (i := 2) (oi := { dst := some 30, op := Op.call { callee := Callee.builtin Builtin.len, args := #[Operand.tmp 29], argTypes := #[51] }, type := 3, pos := "ref.go:114", after := #[{ on := 1, ground := Ground.data }], guard := none }) (v := .int .i64 (B.length : Int)) rfl (by kernel_rfl) (by kernel_rfl) (by kernel_rfl) (fun _ _ _ h => h) (Or.inl ⟨by rfl, fun w' hSw => by clear hSw; go_simp⟩) (by assumption) ?_
              simp only [Act.put, List.setIfInBounds_toArray, List.set_cons_zero, List.set_cons_succ]
              refine wpAnyH_take (i := 3) (oi := { dst := some 31, op := Op.binOp BinOp.lss 3 (Operand.tmp 28) (Operand.tmp 30) 3, type := 4, pos := "ref.go:114", after := #[{ on := 0, ground := Ground.data }, { on := 2, ground := Ground.data }], guard := none }) (v := .bool true) rfl (by kernel_rfl) (by kernel_rfl) (by kernel_rfl) (fun _ _ _ h => h) (Or.inl ⟨by rfl, fun w' hSw => by clear hSw; go_simp⟩) (by assumption) ?_
              simp only [Act.put, List.setIfInBounds_toArray, List.set_cons_zero, List.set_cons_succ]
              refine wpAnyH_take (i := 4) (oi := { dst := some 32, op := Op.move (Operand.tmp 31), type := 4, pos := "ref.go:114", after := #[{ on := 3, ground := Ground.data }], guard := none }) (v := .bool true) rfl (by kernel_rfl) (by kernel_rfl) (by kernel_rfl) (fun _ _ _ h => h) (Or.inl ⟨by rfl, fun w' hSw => by clear hSw; go_simp⟩) (by assumption) ?_
              simp only [Act.put, List.setIfInBounds_toArray, List.set_cons_zero, List.set_cons_succ]
              refine wpAnyH_take (i := 5) (oi := { dst := some 33, op := Op.move (Operand.tmp 3), type := 51, pos := "ref.go:114", after := #[{ on := 4, ground := Ground.guard }], guard := some (4, true) }) (v := .slice (some ⟨gB, 0, none⟩) B.length cB) rfl (by kernel_rfl) (by kernel_rfl) (by kernel_rfl) (fun _ _ _ h => h) (Or.inl ⟨by rfl, fun w' hSw => by clear hSw; go_simp⟩) (by assumption) ?_
              simp only [Act.put, List.setIfInBounds_toArray, List.set_cons_zero, List.set_cons_succ]
              refine wpAnyH_take (i := 6) (oi := { dst := some 34, op := Op.move (Operand.tmp 6), type := 3, pos := "ref.go:114", after := #[{ on := 4, ground := Ground.guard }], guard := some (4, true) }) (v := .int .i64 (m : Int)) rfl (by kernel_rfl) (by kernel_rfl) (by kernel_rfl) (fun _ _ _ h => h) (Or.inl ⟨by rfl, fun w' hSw => by clear hSw; go_simp⟩) (by assumption) ?_
              simp only [Act.put, List.setIfInBounds_toArray, List.set_cons_zero, List.set_cons_succ]
              refine wpAnyH_take (i := 10) (oi := { dst := some 38, op := Op.fieldAddr 37 (Operand.tmp 5) 1, type := 0, pos := "ref.go:114", after := #[{ on := 4, ground := Ground.guard }], guard := some (4, true) }) (v := .pointer (some ⟨b5, 2, none⟩)) rfl (by kernel_rfl) (by kernel_rfl) (by kernel_rfl) (fun _ _ _ h => h) (Or.inl ⟨by rfl, fun w' hSw => by clear hSw; go_simp⟩) (by assumption) ?_
              simp only [Act.put, List.setIfInBounds_toArray, List.set_cons_zero, List.set_cons_succ]
              refine wpAnyH_take (i := 7) (oi := { dst := some 35, op := Op.indexAddr 51 (Operand.tmp 33) (Operand.tmp 34), type := 0, pos := "ref.go:114", after := #[{ on := 5, ground := Ground.data }, { on := 6, ground := Ground.data }, { on := 4, ground := Ground.guard }], guard := some (4, true) }) (v := .pointer (some ⟨gB, (m * 2), none⟩)) rfl (by kernel_rfl) (by kernel_rfl) (by kernel_rfl) (fun _ _ _ h => h) (Or.inl ⟨by rfl, fun w' hSw => by clear hSw; go_simp⟩) (by assumption) ?_
              simp only [Act.put, List.setIfInBounds_toArray, List.set_cons_zero, List.set_cons_succ]
              refine wpAnyH_take (i := 11) (oi := { dst := some 39, op := Op.load 3 (Operand.tmp 38), type := 3, pos := "ref.go:114", after := #[{ on := 10, ground := Ground.data }, { on := 4, ground := Ground.guard }], guard := some (4, true) }) (v := .int .i64 xi) rfl (by kernel_rfl) (by kernel_rfl) (by kernel_rfl) (fun _ _ _ h => h) (yieldsIf_load_cellN (by rfl) 3 _ rfl _ rfl (fun W hW => HC2.out W hW) (fun W hc => ld_int hc)) (by assumption) ?_
              simp only [Act.put, List.setIfInBounds_toArray, List.set_cons_zero, List.set_cons_succ]
              refine wpAnyH_take (i := 8) (oi := { dst := some 36, op := Op.fieldAddr 59 (Operand.tmp 35) 0, type := 0, pos := "ref.go:114", after := #[{ on := 7, ground := Ground.data }, { on := 4, ground := Ground.guard }], guard := some (4, true) }) (v := .pointer (some ⟨gB, (m * 2), none⟩)) rfl (by kernel_rfl) (by kernel_rfl) (by kernel_rfl) (fun _ _ _ h => h) (Or.inl ⟨by rfl, fun w' hSw => by clear hSw; go_simp⟩) (by assumption) ?_
              simp only [Act.put, List.setIfInBounds_toArray, List.set_cons_zero, List.set_cons_succ]
              refine wpAnyH_take (i := 9) (oi := { dst := some 37, op := Op.load 3 (Operand.tmp 36), type := 3, pos := "ref.go:114", after := #[{ on := 8, ground := Ground.data }, { on := 4, ground := Ground.guard }], guard := some (4, true) }) (v := .int .i64 px) rfl (by kernel_rfl) (by kernel_rfl) (by kernel_rfl) (fun _ _ _ h => h) (yieldsIf_load_cellN (by rfl) 3 _ rfl _ rfl (fun W hW => HC0.out W hW) (fun W hc => ld_int hc)) (by assumption) ?_
              simp only [Act.put, List.setIfInBounds_toArray, List.set_cons_zero, List.set_cons_succ]
              refine wpAnyH_take (i := 12) (oi := { dst := some 40, op := Op.binOp BinOp.lss 3 (Operand.tmp 37) (Operand.tmp 39) 3, type := 4, pos := "ref.go:114", after := #[{ on := 9, ground := Ground.data }, { on := 11, ground := Ground.data }, { on := 4, ground := Ground.guard }], guard := some (4, true) }) (v := .bool true) rfl (by kernel_rfl) (by kernel_rfl) (by kernel_rfl) (fun _ _ _ h => h) (Or.inl ⟨by rfl, fun w' hSw => by clear hSw; go_simp⟩) (by assumption) ?_
              simp only [Act.put, List.setIfInBounds_toArray, List.set_cons_zero, List.set_cons_succ]
              refine wpAnyH_take (i := 13) (oi := { dst := some 41, op := Op.pick (Operand.tmp 32) (Operand.tmp 40) (Operand.const (Value.bool false)), type := 4, pos := "ref.go:114", after := #[{ on := 4, ground := Ground.data }, { on := 12, ground := Ground.data }], guard := none }) (v := .bool true) rfl (by kernel_rfl) (by kernel_rfl) (by kernel_rfl) (fun _ _ _ h => h) (Or.inl ⟨by rfl, fun w' hSw => by clear hSw; go_simp⟩) (by assumption) ?_
              simp only [Act.put, List.setIfInBounds_toArray, List.set_cons_zero, List.set_cons_succ]
              refine wpAnyH_done (by kernel_rfl) ?_ _
              refine NoPanic.normal ?_
              go_wp2_with fail
              refine ⟨⟨m + 1, by omega, by go_num, ?_, o2 HO6.out (Only.drew _ wr6)⟩, by simp [intOf]; omega⟩
              intro q hq hqm
              by_cases eq : q = m
              · subst eq; rw [HPX.out]; exact HPL.out
              · exact HQ.out q hq (by omega)
            · have HST : Hid (∀ hq : m < B.length, ¬ B[m].1 < xi) := fun hq => by rw [HPX.out]; exact hpl
              go_upto_region 8 with fail
              refine wp_region_noPanic ?_
              refine wp_region_held_drew (S := fun W => Only (fun _ => False) wr6 W) (by kernel_rfl) (Only.drew _ wr6) (fun hHeld => ?_)
              refine wpAnyH_take (i := 0) (oi := { dst := some 28, op := Op.move (Operand.tmp 6), type := 3, pos := "ref.go:114", after := #[], guard := none }) (v := .int .i64 (m : Int)) rfl (by kernel_rfl) (by kernel_rfl) (by kernel_rfl) (fun _ _ _ h => h) (Or.inl ⟨by rfl, fun w' hSw => by clear hSw; go_simp⟩) (by assumption) ?_
              simp only [Act.put, List.setIfInBounds_toArray, List.set_cons_zero, List.set_cons_succ]
              refine wpAnyH_take (i := 1) (oi := { dst := some 29, op := Op.move (Operand.tmp 3), type := 51, pos := "ref.go:114", after := #[], guard := none }) (v := .slice (some ⟨gB, 0, none⟩) B.length cB) rfl (by kernel_rfl) (by kernel_rfl) (by kernel_rfl) (fun _ _ _ h => h) (Or.inl ⟨by rfl, fun w' hSw => by clear hSw; go_simp⟩) (by assumption) ?_
              simp only [Act.put, List.setIfInBounds_toArray, List.set_cons_zero, List.set_cons_succ]
              refine wpAnyH_take (i := 2) (oi := { dst := some 30, op := Op.call { callee := Callee.builtin Builtin.len, args := #[Operand.tmp 29], argTypes := #[51] }, type := 3, pos := "ref.go:114", after := #[{ on := 1, ground := Ground.data }], guard := none }) (v := .int .i64 (B.length : Int)) rfl (by kernel_rfl) (by kernel_rfl) (by kernel_rfl) (fun _ _ _ h => h) (Or.inl ⟨by rfl, fun w' hSw => by clear hSw; go_simp⟩) (by assumption) ?_
              simp only [Act.put, List.setIfInBounds_toArray, List.set_cons_zero, List.set_cons_succ]
              refine wpAnyH_take (i := 3) (oi := { dst := some 31, op := Op.binOp BinOp.lss 3 (Operand.tmp 28) (Operand.tmp 30) 3, type := 4, pos := "ref.go:114", after := #[{ on := 0, ground := Ground.data }, { on := 2, ground := Ground.data }], guard := none }) (v := .bool true) rfl (by kernel_rfl) (by kernel_rfl) (by kernel_rfl) (fun _ _ _ h => h) (Or.inl ⟨by rfl, fun w' hSw => by clear hSw; go_simp⟩) (by assumption) ?_
              simp only [Act.put, List.setIfInBounds_toArray, List.set_cons_zero, List.set_cons_succ]
              refine wpAnyH_take (i := 4) (oi := { dst := some 32, op := Op.move (Operand.tmp 31), type := 4, pos := "ref.go:114", after := #[{ on := 3, ground := Ground.data }], guard := none }) (v := .bool true) rfl (by kernel_rfl) (by kernel_rfl) (by kernel_rfl) (fun _ _ _ h => h) (Or.inl ⟨by rfl, fun w' hSw => by clear hSw; go_simp⟩) (by assumption) ?_
              simp only [Act.put, List.setIfInBounds_toArray, List.set_cons_zero, List.set_cons_succ]
              refine wpAnyH_take (i := 5) (oi := { dst := some 33, op := Op.move (Operand.tmp 3), type := 51, pos := "ref.go:114", after := #[{ on := 4, ground := Ground.guard }], guard := some (4, true) }) (v := .slice (some ⟨gB, 0, none⟩) B.length cB) rfl (by kernel_rfl) (by kernel_rfl) (by kernel_rfl) (fun _ _ _ h => h) (Or.inl ⟨by rfl, fun w' hSw => by clear hSw; go_simp⟩) (by assumption) ?_
              simp only [Act.put, List.setIfInBounds_toArray, List.set_cons_zero, List.set_cons_succ]
              refine wpAnyH_take (i := 6) (oi := { dst := some 34, op := Op.move (Operand.tmp 6), type := 3, pos := "ref.go:114", after := #[{ on := 4, ground := Ground.guard }], guard := some (4, true) }) (v := .int .i64 (m : Int)) rfl (by kernel_rfl) (by kernel_rfl) (by kernel_rfl) (fun _ _ _ h => h) (Or.inl ⟨by rfl, fun w' hSw => by clear hSw; go_simp⟩) (by assumption) ?_
              simp only [Act.put, List.setIfInBounds_toArray, List.set_cons_zero, List.set_cons_succ]
              refine wpAnyH_take (i := 10) (oi := { dst := some 38, op := Op.fieldAddr 37 (Operand.tmp 5) 1, type := 0, pos := "ref.go:114", after := #[{ on := 4, ground := Ground.guard }], guard := some (4, true) }) (v := .pointer (some ⟨b5, 2, none⟩)) rfl (by kernel_rfl) (by kernel_rfl) (by kernel_rfl) (fun _ _ _ h => h) (Or.inl ⟨by rfl, fun w' hSw => by clear hSw; go_simp⟩) (by assumption) ?_
              simp only [Act.put, List.setIfInBounds_toArray, List.set_cons_zero, List.set_cons_succ]
              refine wpAnyH_take (i := 7) (oi := { dst := some 35, op := Op.indexAddr 51 (Operand.tmp 33) (Operand.tmp 34), type := 0, pos := "ref.go:114", after := #[{ on := 5, ground := Ground.data }, { on := 6, ground := Ground.data }, { on := 4, ground := Ground.guard }], guard := some (4, true) }) (v := .pointer (some ⟨gB, (m * 2), none⟩)) rfl (by kernel_rfl) (by kernel_rfl) (by kernel_rfl) (fun _ _ _ h => h) (Or.inl ⟨by rfl, fun w' hSw => by clear hSw; go_simp⟩) (by assumption) ?_
              simp only [Act.put, List.setIfInBounds_toArray, List.set_cons_zero, List.set_cons_succ]
              refine wpAnyH_take (i := 11) (oi := { dst := some 39, op := Op.load 3 (Operand.tmp 38), type := 3, pos := "ref.go:114", after := #[{ on := 10, ground := Ground.data }, { on := 4, ground := Ground.guard }], guard := some (4, true) }) (v := .int .i64 xi) rfl (by kernel_rfl) (by kernel_rfl) (by kernel_rfl) (fun _ _ _ h => h) (yieldsIf_load_cellN (by rfl) 3 _ rfl _ rfl (fun W hW => HC2.out W hW) (fun W hc => ld_int hc)) (by assumption) ?_
              simp only [Act.put, List.setIfInBounds_toArray, List.set_cons_zero, List.set_cons_succ]
              refine wpAnyH_take (i := 8) (oi := { dst := some 36, op := Op.fieldAddr 59 (Operand.tmp 35) 0, type := 0, pos := "ref.go:114", after := #[{ on := 7, ground := Ground.data }, { on := 4, ground := Ground.guard }], guard := some (4, true) }) (v := .pointer (some ⟨gB, (m * 2), none⟩)) rfl (by kernel_rfl) (by kernel_rfl) (by kernel_rfl) (fun _ _ _ h => h) (Or.inl ⟨by rfl, fun w' hSw => by clear hSw; go_simp⟩) (by assumption) ?_
              simp only [Act.put, List.setIfInBounds_toArray, List.set_cons_zero, List.set_cons_succ]
              refine wpAnyH_take (i := 9) (oi := { dst := some 37, op := Op.load 3 (Operand.tmp 36), type := 3, pos := "ref.go:114", after := #[{ on := 8, ground := Ground.data }, { on := 4, ground := Ground.guard }], guard := some (4, true) }) (v := .int .i64 px) rfl (by kernel_rfl) (by kernel_rfl) (by kernel_rfl) (fun _ _ _ h => h) (yieldsIf_load_cellN (by rfl) 3 _ rfl _ rfl (fun W hW => HC0.out W hW) (fun W hc => ld_int hc)) (by assumption) ?_
              simp only [Act.put, List.setIfInBounds_toArray, List.set_cons_zero, List.set_cons_succ]
              refine wpAnyH_take (i := 12) (oi := { dst := some 40, op := Op.binOp BinOp.lss 3 (Operand.tmp 37) (Operand.tmp 39) 3, type := 4, pos := "ref.go:114", after := #[{ on := 9, ground := Ground.data }, { on := 11, ground := Ground.data }, { on := 4, ground := Ground.guard }], guard := some (4, true) }) (v := .bool false) rfl (by kernel_rfl) (by kernel_rfl) (by kernel_rfl) (fun _ _ _ h => h) (Or.inl ⟨by rfl, fun w' hSw => by clear hSw; go_simp⟩) (by assumption) ?_
              simp only [Act.put, List.setIfInBounds_toArray, List.set_cons_zero, List.set_cons_succ]
              refine wpAnyH_take (i := 13) (oi := { dst := some 41, op := Op.pick (Operand.tmp 32) (Operand.tmp 40) (Operand.const (Value.bool false)), type := 4, pos := "ref.go:114", after := #[{ on := 4, ground := Ground.data }, { on := 12, ground := Ground.data }], guard := none }) (v := .bool false) rfl (by kernel_rfl) (by kernel_rfl) (by kernel_rfl) (fun _ _ _ h => h) (Or.inl ⟨by rfl, fun w' hSw => by clear hSw; go_simp⟩) (by assumption) ?_
              simp only [Act.put, List.setIfInBounds_toArray, List.set_cons_zero, List.set_cons_succ]
              refine wpAnyH_done (by kernel_rfl) ?_ _
              refine NoPanic.normal ?_
              have hA2 : (if cB = m then some (⟨gB, 0, none⟩ : Addr) else some ⟨gB, m * 2, none⟩) = some ⟨gB, m * 2, none⟩ := if_neg (by omega)
              obtain ⟨v1, w2, v2, w3, v4, w4, r1, r2, r3, q4, o1, o6, o7⟩ := ins_runB (GRow.more HV6.out (Only.drew _ wr6)) hm (by omega) xi la (GRow.srcD (GRow.more HV6.out (Only.drew _ wr6)) hm hA2)
              have HBN : Hid (BgTo R (j + 1) (B.take m ++ [(xi, la)] ++ B.drop m)) := by
                have := HB.out.add HH.out.hi HH.out.ok hlt (by rw [HXX.out.1]; exact H0.out) (m := m) (by rw [HXX.out.1]; exact HQ.out) (by rw [HXX.out.1]; exact HST.out)
                rw [HXX.out.1, HXX.out.2] at this
                exact this
              have hnl : (B.take m ++ [(xi, la)] ++ B.drop m).length ≤ j + 1 := by
                simp only [List.length_append, List.length_take, List.length_drop, List.length_singleton]
                omega
              obtain ⟨NL, hNL⟩ : ∃ l, B.take m ++ [(xi, la)] ++ B.drop m = l := ⟨_, rfl⟩
              rw [hNL] at q4 hnl HBN
              have HA1 := hide r1
              have HA3 := hide r2
              have HA4 := hide r3
              have e2 := ((HB6.out.more (Only.drew _ wr6)).more o1).c 2 _ rfl
              have e4 := ((HB6.out.more (Only.drew _ wr6)).more o1).c 4 _ rfl
              have HOD : Hid (Only (fun _ => False) w wr6.drew) := o2 (o2 HO5.out HO6.out) (Only.drew _ wr6)
              have HO7 := hide (o2 HOD.out o7)
              have HQ4 := hide (GRow.base q4 HOD.out.size)
              have hjc : (m : Int) ≤ (cB : Int) := by omega
              have hjl : (m : Int) ≤ (B.length : Int) := by omega
              have hlc : (B.length : Int) ≤ (cB : Int) := by omega
              have hm00 : (0 : Int) ≤ (m : Int) := by omega
              clear r1 r2 r3 q4 o1 o6 o7 hNL
              go_upto_region 12 with (at_builtin; go_must (refine Lib.wpList_append_run _ rfl (.tmp 44) (.tmp 47) _ _ rfl (.slice none 0 0) (.slice (some ⟨gB, 0, none⟩) m cB) rfl rfl _ _ HA1.out ?_); go_frame)
              go_upto_region 13 with (at_builtin; go_must (refine Lib.wpList_append_run _ rfl (.tmp 49) (.tmp 55) _ _ rfl v1 (.slice (some ⟨w2.heap.size, 0, none⟩) 1 1) rfl rfl _ _ HA3.out ?_); go_frame)
              go_wp2_with (at_builtin; go_must (refine Lib.wpList_append_run _ rfl (.tmp 57) (.tmp 60) _ _ rfl v2 (.slice (some ⟨gB, m * 2, none⟩) (B.length - m) (cB - m)) rfl rfl _ _ HA4.out ?_); go_frame)
              exact ⟨⟨j + 1, NL, by omega, hnl, by go_num, HQ4, HBN, HO7⟩, by simp [intOf]; omega⟩
          · have HST : Hid (∀ hq : m < B.length, ¬ B[m].1 < xi) := fun hq => absurd hq hlm
            have HC2 : Hid (∀ W, Only (fun _ => False) wr6 W → W.cell? ⟨b5, 2, none⟩ = some (.int .i64 xi)) := fun W ho => (HB6.out.more ho).c 2 _ rfl
            have hml : ¬ (m : Int) < (B.length : Int) := by omega
            rcases GRow.head HV6.out with ⟨rfl, rfl, rfl⟩ | ⟨gB, rfl, _, _, hcB, _, _, _⟩
            · obtain rfl : m = 0 := by simpa using hm
              go_upto_region 8 with fail
              refine wp_region_noPanic ?_
              refine wp_region_held_drew (S := fun W => Only (fun _ => False) wr6 W) (by kernel_rfl) (Only.drew _ wr6) (fun hHeld => ?_)
              refine wpAnyH_take (i := 0) (oi := { dst := some 28, op := Op.move (Operand.tmp 6), type := 3, pos := "ref.go:114", after := #[], guard := none }) (v := .int .i64 (0 : Int)) rfl (by kernel_rfl) (by kernel_rfl) (by kernel_rfl) (fun _ _ _ h => h) (Or.inl ⟨by rfl, fun w' hSw => by clear hSw; go_simp⟩) (by assumption) ?_
              simp only [Act.put, List.setIfInBounds_toArray, List.set_cons_zero, List.set_cons_succ]
              refine wpAnyH_take (i := 1) (oi := { dst := some 29, op := Op.move (Operand.tmp 3), type := 51, pos := "ref.go:114", after := #[], guard := none }) (v := .slice none 0 0) rfl (by kernel_rfl) (by kernel_rfl) (by kernel_rfl) (fun _ _ _ h => h) (Or.inl ⟨by rfl, fun w' hSw => by clear hSw; go_simp⟩) (by assumption) ?_
              simp only [Act.put, List.setIfInBounds_toArray, List.set_cons_zero, List.set_cons_succ]
              refine wpAnyH_take (i := 2) (oi := { dst := some 30, op := Op.call { callee := Callee.builtin Builtin.len, args := #[Operand.tmp 29], argTypes := #[51] }, type := 3, pos := "ref.go:114", after := #[{ on := 1, ground := Ground.data }], guard := none }) (v := .int .i64 0) rfl (by kernel_rfl) (by kernel_rfl) (by kernel_rfl) (fun _ _ _ h => h) (Or.inl ⟨by rfl, fun w' hSw => by clear hSw; go_simp⟩) (by assumption) ?_
              simp only [Act.put, List.setIfInBounds_toArray, List.set_cons_zero, List.set_cons_succ]
              refine wpAnyH_take (i := 3) (oi := { dst := some 31, op := Op.binOp BinOp.lss 3 (Operand.tmp 28) (Operand.tmp 30) 3, type := 4, pos := "ref.go:114", after := #[{ on := 0, ground := Ground.data }, { on := 2, ground := Ground.data }], guard := none }) (v := .bool false) rfl (by kernel_rfl) (by kernel_rfl) (by kernel_rfl) (fun _ _ _ h => h) (Or.inl ⟨by rfl, fun w' hSw => by clear hSw; go_simp⟩) (by assumption) ?_
              simp only [Act.put, List.setIfInBounds_toArray, List.set_cons_zero, List.set_cons_succ]
              refine wpAnyH_take (i := 4) (oi := { dst := some 32, op := Op.move (Operand.tmp 31), type := 4, pos := "ref.go:114", after := #[{ on := 3, ground := Ground.data }], guard := none }) (v := .bool false) rfl (by kernel_rfl) (by kernel_rfl) (by kernel_rfl) (fun _ _ _ h => h) (Or.inl ⟨by rfl, fun w' hSw => by clear hSw; go_simp⟩) (by assumption) ?_
              simp only [Act.put, List.setIfInBounds_toArray, List.set_cons_zero, List.set_cons_succ]
              refine wpAnyH_take (i := 5) (oi := { dst := some 33, op := Op.move (Operand.tmp 3), type := 51, pos := "ref.go:114", after := #[{ on := 4, ground := Ground.guard }], guard := some (4, true) }) (v := undef) rfl (by kernel_rfl) (by kernel_rfl) (by kernel_rfl) (fun _ _ _ h => h) (Or.inr ⟨by rfl, rfl⟩) (by assumption) ?_
              simp only [Act.put, List.setIfInBounds_toArray, List.set_cons_zero, List.set_cons_succ]
              refine wpAnyH_take (i := 6) (oi := { dst := some 34, op := Op.move (Operand.tmp 6), type := 3, pos := "ref.go:114", after := #[{ on := 4, ground := Ground.guard }], guard := some (4, true) }) (v := undef) rfl (by kernel_rfl) (by kernel_rfl) (by kernel_rfl) (fun _ _ _ h => h) (Or.inr ⟨by rfl, rfl⟩) (by assumption) ?_
              simp only [Act.put, List.setIfInBounds_toArray, List.set_cons_zero, List.set_cons_succ]
              refine wpAnyH_take (i := 10) (oi := { dst := some 38, op := Op.fieldAddr 37 (Operand.tmp 5) 1, type := 0, pos := "ref.go:114", after := #[{ on := 4, ground := Ground.guard }], guard := some (4, true) }) (v := undef) rfl (by kernel_rfl) (by kernel_rfl) (by kernel_rfl) (fun _ _ _ h => h) (Or.inr ⟨by rfl, rfl⟩) (by assumption) ?_
              simp only [Act.put, List.setIfInBounds_toArray, List.set_cons_zero, List.set_cons_succ]
              refine wpAnyH_take (i := 7) (oi := { dst := some 35, op := Op.indexAddr 51 (Operand.tmp 33) (Operand.tmp 34), type := 0, pos := "ref.go:114", after := #[{ on := 5, ground := Ground.data }, { on := 6, ground := Ground.data }, { on := 4, ground := Ground.guard }], guard := some (4, true) }) (v := undef) rfl (by kernel_rfl) (by kernel_rfl) (by kernel_rfl) (fun _ _ _ h => h) (Or.inr ⟨by rfl, rfl⟩) (by assumption) ?_
              simp only [Act.put, List.setIfInBounds_toArray, List.set_cons_zero, List.set_cons_succ]
              refine wpAnyH_take (i := 11) (oi := { dst := some 39, op := Op.load 3 (Operand.tmp 38), type := 3, pos := "ref.go:114", after := #[{ on := 10, ground := Ground.data }, { on := 4, ground := Ground.guard }], guard := some (4, true) }) (v := undef) rfl (by kernel_rfl) (by kernel_rfl) (by kernel_rfl) (fun _ _ _ h => h) (Or.inr ⟨by rfl, rfl⟩) (by assumption) ?_
              simp only [Act.put, List.setIfInBounds_toArray, List.set_cons_zero, List.set_cons_succ]
              refine wpAnyH_take (i := 8) (oi := { dst := some 36, op := Op.fieldAddr 59 (Operand.tmp 35) 0, type := 0, pos := "ref.go:114", after := #[{ on := 7, ground := Ground.data }, { on := 4, ground := Ground.guard }], guard := some (4, true) }) (v := undef) rfl (by kernel_rfl) (by kernel_rfl) (by kernel_rfl) (fun _ _ _ h => h) (Or.inr ⟨by rfl, rfl⟩) (by assumption) ?_
              simp only [Act.put, List.setIfInBounds_toArray, List.set_cons_zero, List.set_cons_succ]
              refine wpAnyH_take (i := 9) (oi := { dst := some 37, op := Op.load 3 (Operand.tmp 36), type := 3, pos := "ref.go:114", after := #[{ on := 8, ground := Ground.data }, { on := 4, ground := Ground.guard }], guard := some (4, true) }) (v := undef) rfl (by kernel_rfl) (by kernel_rfl) (by kernel_rfl) (fun _ _ _ h => h) (Or.inr ⟨by rfl, rfl⟩) (by assumption) ?_
              simp only [Act.put, List.setIfInBounds_toArray, List.set_cons_zero, List.set_cons_succ]
              refine wpAnyH_take (i := 12) (oi := { dst := some 40, op := Op.binOp BinOp.lss 3 (Operand.tmp 37) (Operand.tmp 39) 3, type := 4, pos := "ref.go:114", after := #[{ on := 9, ground := Ground.data }, { on := 11, ground := Ground.data }, { on := 4, ground := Ground.guard }], guard := some (4, true) }) (v := undef) rfl (by kernel_rfl) (by kernel_rfl) (by kernel_rfl) (fun _ _ _ h => h) (Or.inr ⟨by rfl, rfl⟩) (by assumption) ?_
              simp only [Act.put, List.setIfInBounds_toArray, List.set_cons_zero, List.set_cons_succ]
              refine wpAnyH_take (i := 13) (oi := { dst := some 41, op := Op.pick (Operand.tmp 32) (Operand.tmp 40) (Operand.const (Value.bool false)), type := 4, pos := "ref.go:114", after := #[{ on := 4, ground := Ground.data }, { on := 12, ground := Ground.data }], guard := none }) (v := .bool false) rfl (by kernel_rfl) (by kernel_rfl) (by kernel_rfl) (fun _ _ _ h => h) (Or.inl ⟨by rfl, fun w' hSw => by clear hSw; go_simp⟩) (by assumption) ?_
              simp only [Act.put, List.setIfInBounds_toArray, List.set_cons_zero, List.set_cons_succ]
              refine wpAnyH_done (by kernel_rfl) ?_ _
              refine NoPanic.normal ?_
              obtain ⟨v1, w2, v2, w3, v4, w4, r1, r2, r3, q4, o1, o6, o7⟩ := ins_runB (i := 0) (GRow.more HV6.out (Only.drew _ wr6)) (Nat.zero_le _) (by simp) xi la (A2 := none) ⟨by simp, .inl ⟨rfl, by simp⟩⟩
              have HBN : Hid (BgTo R (j + 1) (([] : List (Int × Int)).take 0 ++ [(xi, la)] ++ ([] : List (Int × Int)).drop 0)) := by
                have := HB.out.add HH.out.hi HH.out.ok hlt (by rw [HXX.out.1]; exact H0.out) (m := 0) (by rw [HXX.out.1]; exact fun q hq h => by omega) (by rw [HXX.out.1]; exact fun h => by simp at h)
                rw [HXX.out.1, HXX.out.2] at this
                exact this
              have hnl : (([] : List (Int × Int)).take 0 ++ [(xi, la)] ++ ([] : List (Int × Int)).drop 0).length ≤ j + 1 := by
                simp only [List.length_append, List.length_take, List.length_drop, List.length_singleton, List.length_nil]
                omega
              obtain ⟨NL, hNL⟩ : ∃ l, ([] : List (Int × Int)).take 0 ++ [(xi, la)] ++ ([] : List (Int × Int)).drop 0 = l := ⟨_, rfl⟩
              rw [hNL] at q4 hnl HBN
              have HA1 := hide r1
              have HA3 := hide r2
              have HA4 := hide r3
              have e2 := ((HB6.out.more (Only.drew _ wr6)).more o1).c 2 _ rfl
              have e4 := ((HB6.out.more (Only.drew _ wr6)).more o1).c 4 _ rfl
              have HOD : Hid (Only (fun _ => False) w wr6.drew) := o2 (o2 HO5.out HO6.out) (Only.drew _ wr6)
              have HO7 := hide (o2 HOD.out o7)
              have HQ4 := hide (GRow.base q4 HOD.out.size)
              have hjc : (0 : Int) ≤ (0 : Int) := by omega
              have hjl : (0 : Int) ≤ (([] : List (Int × Int)).length : Int) := by omega
              have hlc : (([] : List (Int × Int)).length : Int) ≤ (0 : Int) := by omega
              clear r1 r2 r3 q4 o1 o6 o7 hNL
              go_upto_region 12 with (at_builtin; go_must (refine Lib.wpList_append_run _ rfl (.tmp 44) (.tmp 47) _ _ rfl (.slice none 0 0) (.slice none 0 0) rfl rfl _ _ HA1.out ?_); go_frame)
              go_upto_region 13 with (at_builtin; go_must (refine Lib.wpList_append_run _ rfl (.tmp 49) (.tmp 55) _ _ rfl v1 (.slice (some ⟨w2.heap.size, 0, none⟩) 1 1) rfl rfl _ _ HA3.out ?_); go_frame)
              go_wp2_with (at_builtin; go_must (refine Lib.wpList_append_run _ rfl (.tmp 57) (.tmp 60) _ _ rfl v2 (.slice none 0 0) rfl rfl _ _ HA4.out ?_); go_frame)
              exact ⟨⟨j + 1, NL, by omega, hnl, by go_num, HQ4, HBN, HO7⟩, by simp [intOf]; omega⟩
            · go_upto_region 8 with fail
              refine wp_region_noPanic ?_
              refine wp_region_held_drew (S := fun W => Only (fun _ => False) wr6 W) (by kernel_rfl) (Only.drew _ wr6) (fun hHeld => ?_)
              refine wpAnyH_take (i := 0) (oi := { dst := some 28, op := Op.move (Operand.tmp 6), type := 3, pos := "ref.go:114", after := #[], guard := none }) (v := .int .i64 (m : Int)) rfl (by kernel_rfl) (by kernel_rfl) (by kernel_rfl) (fun _ _ _ h => h) (Or.inl ⟨by rfl, fun w' hSw => by clear hSw; go_simp⟩) (by assumption) ?_
              simp only [Act.put, List.setIfInBounds_toArray, List.set_cons_zero, List.set_cons_succ]
              refine wpAnyH_take (i := 1) (oi := { dst := some 29, op := Op.move (Operand.tmp 3), type := 51, pos := "ref.go:114", after := #[], guard := none }) (v := .slice (some ⟨gB, 0, none⟩) B.length cB) rfl (by kernel_rfl) (by kernel_rfl) (by kernel_rfl) (fun _ _ _ h => h) (Or.inl ⟨by rfl, fun w' hSw => by clear hSw; go_simp⟩) (by assumption) ?_
              simp only [Act.put, List.setIfInBounds_toArray, List.set_cons_zero, List.set_cons_succ]
              refine wpAnyH_take (i := 2) (oi := { dst := some 30, op := Op.call { callee := Callee.builtin Builtin.len, args := #[Operand.tmp 29], argTypes := #[51] }, type := 3, pos := "ref.go:114", after := #[{ on := 1, ground := Ground.data }], guard := none }) (v := .int .i64 (B.length : Int)) rfl (by kernel_rfl) (by kernel_rfl) (by kernel_rfl) (fun _ _ _ h => h) (Or.inl ⟨by rfl, fun w' hSw => by clear hSw; go_simp⟩) (by assumption) ?_
              simp only [Act.put, List.setIfInBounds_toArray, List.set_cons_zero, List.set_cons_succ]
              refine wpAnyH_take (i := 3) (oi := { dst := some 31, op := Op.binOp BinOp.lss 3 (Operand.tmp 28) (Operand.tmp 30) 3, type := 4, pos := "ref.go:114", after := #[{ on := 0, ground := Ground.data }, { on := 2, ground := Ground.data }], guard := none }) (v := .bool false) rfl (by kernel_rfl) (by kernel_rfl) (by kernel_rfl) (fun _ _ _ h => h) (Or.inl ⟨by rfl, fun w' hSw => by clear hSw; go_simp⟩) (by assumption) ?_
              simp only [Act.put, List.setIfInBounds_toArray, List.set_cons_zero, List.set_cons_succ]
              refine wpAnyH_take (i := 4) (oi := { dst := some 32, op := Op.move (Operand.tmp 31), type := 4, pos := "ref.go:114", after := #[{ on := 3, ground := Ground.data }], guard := none }) (v := .bool false) rfl (by kernel_rfl) (by kernel_rfl) (by kernel_rfl) (fun _ _ _ h => h) (Or.inl ⟨by rfl, fun w' hSw => by clear hSw; go_simp⟩) (by assumption) ?_
              simp only [Act.put, List.setIfInBounds_toArray, List.set_cons_zero, List.set_cons_succ]
              refine wpAnyH_take (i := 5) (oi := { dst := some 33, op := Op.move (Operand.tmp 3), type := 51, pos := "ref.go:114", after := #[{ on := 4, ground := Ground.guard }], guard := some (4, true) }) (v := undef) rfl (by kernel_rfl) (by kernel_rfl) (by kernel_rfl) (fun _ _ _ h => h) (Or.inr ⟨by rfl, rfl⟩) (by assumption) ?_
              simp only [Act.put, List.setIfInBounds_toArray, List.set_cons_zero, List.set_cons_succ]
              refine wpAnyH_take (i := 6) (oi := { dst := some 34, op := Op.move (Operand.tmp 6), type := 3, pos := "ref.go:114", after := #[{ on := 4, ground := Ground.guard }], guard := some (4, true) }) (v := undef) rfl (by kernel_rfl) (by kernel_rfl) (by kernel_rfl) (fun _ _ _ h => h) (Or.inr ⟨by rfl, rfl⟩) (by assumption) ?_
              simp only [Act.put, List.setIfInBounds_toArray, List.set_cons_zero, List.set_cons_succ]
              refine wpAnyH_take (i := 10) (oi := { dst := some 38, op := Op.fieldAddr 37 (Operand.tmp 5) 1, type := 0, pos := "ref.go:114", after := #[{ on := 4, ground := Ground.guard }], guard := some (4, true) }) (v := undef) rfl (by kernel_rfl) (by kernel_rfl) (by kernel_rfl) (fun _ _ _ h => h) (Or.inr ⟨by rfl, rfl⟩) (by assumption) ?_
              simp only [Act.put, List.setIfInBounds_toArray, List.set_cons_zero, List.set_cons_succ]
              refine wpAnyH_take (i := 7) (oi := { dst := some 35, op := Op.indexAddr 51 (Operand.tmp 33) (Operand.tmp 34), type := 0, pos := "ref.go:114", after := #[{ on := 5, ground := Ground.data }, { on := 6, ground := Ground.data }, { on := 4, ground := Ground.guard }], guard := some (4, true) }) (v := undef) rfl (by kernel_rfl) (by kernel_rfl) (by kernel_rfl) (fun _ _ _ h => h) (Or.inr ⟨by rfl, rfl⟩) (by assumption) ?_
              simp only [Act.put, List.setIfInBounds_toArray, List.set_cons_zero, List.set_cons_succ]
              refine wpAnyH_take (i := 11) (oi := { dst := some 39, op := Op.load 3 (Operand.tmp 38), type := 3, pos := "ref.go:114", after := #[{ on := 10, ground := Ground.data }, { on := 4, ground := Ground.guard }], guard := some (4, true) }) (v := undef) rfl (by kernel_rfl) (by kernel_rfl) (by kernel_rfl) (fun _ _ _ h => h) (Or.inr ⟨by rfl, rfl⟩) (by assumption) ?_
              simp only [Act.put, List.setIfInBounds_toArray, List.set_cons_zero, List.set_cons_succ]
              refine wpAnyH_take (i := 8) (oi := { dst := some 36, op := Op.fieldAddr 59 (Operand.tmp 35) 0, type := 0, pos := "ref.go:114", after := #[{ on := 7, ground := Ground.data }, { on := 4, ground := Ground.guard }], guard := some (4, true) }) (v := undef) rfl (by kernel_rfl) (by kernel_rfl) (by kernel_rfl) (fun _ _ _ h => h) (Or.inr ⟨by rfl, rfl⟩) (by assumption) ?_
              simp only [Act.put, List.setIfInBounds_toArray, List.set_cons_zero, List.set_cons_succ]
              refine wpAnyH_take (i := 9) (oi := { dst := some 37, op := Op.load 3 (Operand.tmp 36), type := 3, pos := "ref.go:114", after := #[{ on := 8, ground := Ground.data }, { on := 4, ground := Ground.guard }], guard := some (4, true) }) (v := undef) rfl (by kernel_rfl) (by kernel_rfl) (by kernel_rfl) (fun _ _ _ h => h) (Or.inr ⟨by rfl, rfl⟩) (by assumption) ?_
              simp only [Act.put, List.setIfInBounds_toArray, List.set_cons_zero, List.set_cons_succ]
              refine wpAnyH_take (i := 12) (oi := { dst := some 40, op := Op.binOp BinOp.lss 3 (Operand.tmp 37) (Operand.tmp 39) 3, type := 4, pos := "ref.go:114", after := #[{ on := 9, ground := Ground.data }, { on := 11, ground := Ground.data }, { on := 4, ground := Ground.guard }], guard := some (4, true) }) (v := undef) rfl (by kernel_rfl) (by kernel_rfl) (by kernel_rfl) (fun _ _ _ h => h) (Or.inr ⟨by rfl, rfl⟩) (by assumption) ?_
              simp only [Act.put, List.setIfInBounds_toArray, List.set_cons_zero, List.set_cons_succ]
              refine wpAnyH_take (i := 13) (oi := { dst := some 41, op := Op.pick (Operand.tmp 32) (Operand.tmp 40) (Operand.const (Value.bool false)), type := 4, pos := "ref.go:114", after := #[{ on := 4, ground := Ground.data }, { on := 12, ground := Ground.data }], guard := none }) (v := .bool false) rfl (by kernel_rfl) (by kernel_rfl) (by kernel_rfl) (fun _ _ _ h => h) (Or.inl ⟨by rfl, fun w' hSw => by clear hSw; go_simp⟩) (by assumption) ?_
              simp only [Act.put, List.setIfInBounds_toArray, List.set_cons_zero, List.set_cons_succ]
              refine wpAnyH_done (by kernel_rfl) ?_ _
              refine NoPanic.normal ?_
              obtain ⟨A2, hA2⟩ : ∃ A2, (if cB = m then some (⟨gB, 0, none⟩ : Addr) else some ⟨gB, m * 2, none⟩) = A2 := ⟨_, rfl⟩
              obtain ⟨v1, w2, v2, w3, v4, w4, r1, r2, r3, q4, o1, o6, o7⟩ := ins_runB (GRow.more HV6.out (Only.drew _ wr6)) hm (by omega) xi la (GRow.srcD (GRow.more HV6.out (Only.drew _ wr6)) hm hA2)
              have HBN : Hid (BgTo R (j + 1) (B.take m ++ [(xi, la)] ++ B.drop m)) := by
                have := HB.out.add HH.out.hi HH.out.ok hlt (by rw [HXX.out.1]; exact H0.out) (m := m) (by rw [HXX.out.1]; exact HQ.out) (by rw [HXX.out.1]; exact HST.out)
                rw [HXX.out.1, HXX.out.2] at this
                exact this
              have hnl : (B.take m ++ [(xi, la)] ++ B.drop m).length ≤ j + 1 := by
                simp only [List.length_append, List.length_take, List.length_drop, List.length_singleton]
                omega
              obtain ⟨NL, hNL⟩ : ∃ l, B.take m ++ [(xi, la)] ++ B.drop m = l := ⟨_, rfl⟩
              rw [hNL] at q4 hnl HBN
              have HA1 := hide r1
              have HA3 := hide r2
              have HA4 := hide r3
              have e2 := ((HB6.out.more (Only.drew _ wr6)).more o1).c 2 _ rfl
              have e4 := ((HB6.out.more (Only.drew _ wr6)).more o1).c 4 _ rfl
              have HOD : Hid (Only (fun _ => False) w wr6.drew) := o2 (o2 HO5.out HO6.out) (Only.drew _ wr6)
              have HO7 := hide (o2 HOD.out o7)
              have HQ4 := hide (GRow.base q4 HOD.out.size)
              have hjc : (m : Int) ≤ (cB : Int) := by omega
              have hjl : (m : Int) ≤ (B.length : Int) := by omega
              have hlc : (B.length : Int) ≤ (cB : Int) := by omega
              have hm00 : (0 : Int) ≤ (m : Int) := by omega
              clear r1 r2 r3 q4 o1 o6 o7 hNL
              go_upto_region 12 with (at_builtin; go_must (refine Lib.wpList_append_run _ rfl (.tmp 44) (.tmp 47) _ _ rfl (.slice none 0 0) (.slice (some ⟨gB, 0, none⟩) m cB) rfl rfl _ _ HA1.out ?_); go_frame)
              go_upto_region 13 with (at_builtin; go_must (refine Lib.wpList_append_run _ rfl (.tmp 49) (.tmp 55) _ _ rfl v1 (.slice (some ⟨w2.heap.size, 0, none⟩) 1 1) rfl rfl _ _ HA3.out ?_); go_frame)
              go_wp2_with (at_builtin; go_must (refine Lib.wpList_append_run _ rfl (.tmp 57) (.tmp 60) _ _ rfl v2 (.slice A2 (B.length - m) (cB - m)) rfl rfl _ _ HA4.out ?_); go_frame)
              exact ⟨⟨j + 1, NL, by omega, hnl, by go_num, HQ4, HBN, HO7⟩, by simp [intOf]; omega⟩
    · obtain ⟨aB, cB, hv⟩ : ∃ ao cp, u3 = .slice ao B.length cp := HV.out.form
      subst hv
      have HE := hide (HB.out.done HH.out.hi (by omega))
      go_wp2_with fail
      go_ret
      exact ⟨⟨aB, cB, B, rfl, HV.out, HE.out, by omega⟩, HO.out⟩
end Go.Proofs.Ytmcghpeamnmbpaa
