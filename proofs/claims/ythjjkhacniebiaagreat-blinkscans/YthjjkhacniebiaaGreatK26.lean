/- A leaf split: Split of package node. -/
import Derived.Test.YthjjkhacniebiaaGreatK25
namespace Go.Proofs.YthjjkhacniebiaaGreat
open Go.RowKit

theorem results_split {fn : Func} {p q s u : Tmp} (h : fn.results = #[.cell p 24, .cell q 24, .cell s 41, .tmp u]) {tmps : Array Value} {w : World} {b c d : Nat} {v0 v1 v2 v3 v4 v5 u0 u1 u2 u3 u4 u5 : Value} {e : En} (hp : tmps.getD p undef = .pointer (some ⟨b, 0, none⟩)) (hq : tmps.getD q undef = .pointer (some ⟨c, 0, none⟩)) (hs : tmps.getD s undef = .pointer (some ⟨d, 0, none⟩)) (hP : Pag w b v0 v1 v2 v3 v4 v5) (hQ : Pag w c u0 u1 u2 u3 u4 u5) (hE : Ev w d e) :
    (results fn tmps).run Tryz.prog w = .ok (.tuple #[.agg #[v0, v1, v2, v3, v4, v5], .agg #[u0, u1, u2, u3, u4, u5], e.agg, tmps.getD u undef]) w := by
  have e1 : ∀ x, (asAddr (.pointer (some ⟨x, 0, none⟩))).run Tryz.prog w = .ok ⟨x, 0, none⟩ w := fun x => rfl
  have hp' : tmps[p]?.getD undef = .pointer (some ⟨b, 0, none⟩) := by simpa using hp
  have hq' : tmps[q]?.getD undef = .pointer (some ⟨c, 0, none⟩) := by simpa using hq
  have hs' : tmps[s]?.getD undef = .pointer (some ⟨d, 0, none⟩) := by simpa using hs
  simp only [results, h]
  simp [Sem.run_bind, Result.andThen, hp', hq', hs', e1, load_page hP, load_page hQ, load_ev hE]
/-- The variables of Split: the page, both halves and the entry that are answered. -/
structure Sv (w W : World) (a r : Int) (h : ByteArray) (ao : Option Addr) (n cp : Nat) : Prop where
  pag : Pag W w.heap.size (.int .i64 a) (.int .i64 3) (.int .i64 0) (.int .i64 r) (.string h) (.slice ao n cp)
  r1 : Pag W (w.heap.size + 1) (.int .i64 0) (.int .i64 0) (.int .i64 0) (.int .i64 0) (.string ⟨#[]⟩) (.slice none 0 0)
  r2 : Pag W (w.heap.size + 1 + 1) (.int .i64 0) (.int .i64 0) (.int .i64 0) (.int .i64 0) (.string ⟨#[]⟩) (.slice none 0 0)
  r3 : Ev W (w.heap.size + 1 + 1 + 1) noE
  only : Only (fun _ => False) w W
theorem Sv.more {w W W' : World} {a r : Int} {h : ByteArray} {ao : Option Addr} {n cp : Nat} (x : Sv w W a r h ao n cp) (ho : Only (fun _ => False) W W') : Sv w W' a r h ao n cp := ⟨x.pag.more ho, x.r1.more ho, x.r2.more ho, x.r3.more ho, o2 x.only ho⟩
theorem Sv.kept {w W W' : World} {a r : Int} {h : ByteArray} {ao : Option Addr} {n cp : Nat} {S : Nat → Prop} (x : Sv w W a r h ao n cp) (ho : Only S W W') (hS : ∀ k, S k → w.heap.size + 1 + 1 + 1 < k) : Sv w W' a r h ao n cp :=
  ⟨x.pag.kept ho (fun s => by have := hS _ s; omega), x.r1.kept ho (fun s => by have := hS _ s; omega), x.r2.kept ho (fun s => by have := hS _ s; omega), x.r3.kept ho (fun s => by have := hS _ s; omega), x.only.trans ho (fun i hi s => by have := hS _ s; omega)⟩
def svW (w : World) (a r : Int) (h : ByteArray) (ao : Option Addr) (n cp : Nat) : World := (((w.alloc (.cells #[.int .i64 a, .int .i64 3, .int .i64 0, .int .i64 r, .string h, .slice ao n cp] 24)).alloc (.cells #[.int .i64 0, .int .i64 0, .int .i64 0, .int .i64 0, .string ⟨#[]⟩, .slice none 0 0] 24)).alloc (.cells #[.int .i64 0, .int .i64 0, .int .i64 0, .int .i64 0, .string ⟨#[]⟩, .slice none 0 0] 24)).alloc (.cells #[.string ⟨#[]⟩, .int .i64 0, .int .i64 0] 41)
theorem Sv.new (w : World) (a r : Int) (h : ByteArray) (ao : Option Addr) (n cp : Nat) : Sv w (svW w a r h ao n cp) a r h ao n cp := by
  unfold svW
  have e1 := Pag.new (w.alloc (.cells #[.int .i64 a, .int .i64 3, .int .i64 0, .int .i64 r, .string h, .slice ao n cp] 24)) (.int .i64 0) (.int .i64 0) (.int .i64 0) (.int .i64 0) (.string ⟨#[]⟩) (.slice none 0 0)
  rw [World.size_alloc] at e1
  have e2 := Pag.new ((w.alloc (.cells #[.int .i64 a, .int .i64 3, .int .i64 0, .int .i64 r, .string h, .slice ao n cp] 24)).alloc (.cells #[.int .i64 0, .int .i64 0, .int .i64 0, .int .i64 0, .string ⟨#[]⟩, .slice none 0 0] 24)) (.int .i64 0) (.int .i64 0) (.int .i64 0) (.int .i64 0) (.string ⟨#[]⟩) (.slice none 0 0)
  rw [World.size_alloc, World.size_alloc] at e2
  have e3 := Ev.zero (((w.alloc (.cells #[.int .i64 a, .int .i64 3, .int .i64 0, .int .i64 r, .string h, .slice ao n cp] 24)).alloc (.cells #[.int .i64 0, .int .i64 0, .int .i64 0, .int .i64 0, .string ⟨#[]⟩, .slice none 0 0] 24)).alloc (.cells #[.int .i64 0, .int .i64 0, .int .i64 0, .int .i64 0, .string ⟨#[]⟩, .slice none 0 0] 24))
  rw [World.size_alloc, World.size_alloc, World.size_alloc] at e3
  exact ⟨(Pag.new w _ _ _ _ _ _).more (o2 (o2 (onlyA _ _) (onlyA _ _)) (onlyA _ _)), e1.more (o2 (onlyA _ _) (onlyA _ _)), e2.more (onlyA _ _), e3, o2 (o2 (o2 (onlyA _ _) (onlyA _ _)) (onlyA _ _)) (onlyA _ _)⟩
/-- What Split answers of a leaf of two entries or more. -/
def SplR (w w' : World) (x : Ending) (a r : Int) (h : ByteArray) (c : Int) (l : List ByteArray) (es : List En) : Prop :=
  ∃ B1 ao1 cp1 B2 ao2 cp2, x = .returned (.tuple #[.agg #[.int .i64 a, .int .i64 3, .int .i64 0, .int .i64 c, .string (es.getD ((l.length + 1) / 2 - 1) noE).enc, .slice ao1 ((l.length + 1) / 2) cp1], .agg #[.int .i64 a, .int .i64 3, .int .i64 0, .int .i64 r, .string h, .slice ao2 (l.length - (l.length + 1) / 2) cp2], (es.getD ((l.length + 1) / 2 - 1) noE).agg, .int .i64 0]) ∧ Strs w' B1 ao1 (l.take ((l.length + 1) / 2)) ∧ Strs w' B2 ao2 (l.drop ((l.length + 1) / 2)) ∧ Only (fun _ => False) w w'
theorem half_eq (n : Nat) (hn : n ≤ 1048576) : wrap64 ((wrap64 ((n : Int) + 1)).tdiv 2) = (((n + 1) / 2 : Nat) : Int) := by
  have h1 : wrap64 ((n : Int) + 1) = (n : Int) + 1 := by unfold wrap64; omega
  rw [h1, Int.tdiv_eq_ediv_of_nonneg (by omega)]
  unfold wrap64
  omega
/-- A list cloned: what is read of it. -/
theorem clone_strs (W : World) (B cp n : Nat) (ao : Option Addr) (l : List ByteArray) (hn : l.length = n) (hS : Strs W B ao l) :
    Calls Tryz.prog 105 #[.slice ao n cp] W fun x w' => ∃ B5 ao5 cp5, x = .returned (.slice ao5 n cp5) ∧ Strs w' B5 ao5 l ∧ Only (fun _ => False) W w' ∧ (0 < l.length → W.heap.size ≤ B5) := by
  subst hn
  refine (clone_any W B cp ao l hS).mono ?_
  rintro x w' ⟨v, rfl, hl, ho⟩
  obtain ⟨B5, ao5, cp5, rfl, hs, hf, hb, _⟩ := hl.strs hS.len hS.size
  exact ⟨B5, ao5, cp5, rfl, hs, ho, hb⟩
theorem Pag.left {w : World} {b : Nat} {v0 v1 v2 v3 v4 v5 : Value} (h : Pag w b v0 v1 v2 v3 v4 v5) (x y z : Value) : Pag (((w.setCell ⟨b, 3, none⟩ x).setCell ⟨b, 4, none⟩ y).setCell ⟨b, 5, none⟩ z) b v0 v1 v2 x y z := by
  have a0 := othN _ b 3 0 x _ (by omega) h.c0
  have a1 := othN _ b 3 1 x _ (by omega) h.c1
  have a2 := othN _ b 3 2 x _ (by omega) h.c2
  have a3 : (w.setCell ⟨b, 3, none⟩ x).cell? ⟨b, 3, none⟩ = some x := World.cell?_setCell_same _ _ _ h.c3
  have a4 := othN _ b 3 4 x _ (by omega) h.c4
  have a5 := othN _ b 3 5 x _ (by omega) h.c5
  have b0 := othN _ b 4 0 y _ (by omega) a0
  have b1 := othN _ b 4 1 y _ (by omega) a1
  have b2 := othN _ b 4 2 y _ (by omega) a2
  have b3 := othN _ b 4 3 y _ (by omega) a3
  have b4 : ((w.setCell ⟨b, 3, none⟩ x).setCell ⟨b, 4, none⟩ y).cell? ⟨b, 4, none⟩ = some y := World.cell?_setCell_same _ _ _ a4
  have b5 := othN _ b 4 5 y _ (by omega) a5
  exact ⟨othN _ b 5 0 z _ (by omega) b0, othN _ b 5 1 z _ (by omega) b1, othN _ b 5 2 z _ (by omega) b2, othN _ b 5 3 z _ (by omega) b3, othN _ b 5 4 z _ (by omega) b4, World.cell?_setCell_same _ _ _ b5, by simpa using h.f0, by simpa using h.f1, by simpa using h.f2, by simpa using h.f3, by simpa using h.f4, by simpa using h.f5, by simpa using h.lt⟩
theorem Only.left (w : World) (b : Nat) (x y z : Value) : Only (fun k => k = b) w (((w.setCell ⟨b, 3, none⟩ x).setCell ⟨b, 4, none⟩ y).setCell ⟨b, 5, none⟩ z) := by
  have st : ∀ (W : World) (i : Nat) (v : Value), Only (fun k => k = b) W (W.setCell ⟨b, i, none⟩ v) := fun W i v => Only.setCell W ⟨b, i, none⟩ v rfl
  exact ((st _ 3 _).trans (st _ 4 _) (fun _ _ h => h)).trans (st _ 5 _) (fun _ _ h => h)
theorem Pag.at (w : World) (b : Nat) (hb : b = w.heap.size) (v0 v1 v2 v3 v4 v5 : Value) : Pag (w.alloc (.cells #[v0, v1, v2, v3, v4, v5] 24)) b v0 v1 v2 v3 v4 v5 := by subst hb; exact Pag.new w _ _ _ _ _ _
set_option maxRecDepth 100000 in
set_option maxHeartbeats 3200000 in
theorem split_ok (w : World) (a r : Int) (h : ByteArray) (hi : En) (c : Int) (B cp : Nat) (ao : Option Addr) (l : List ByteArray) (es : List En) (hP : Lp w r h hi B ao l es) (hF : Fit ao l.length cp) (hc : okC c = true) (hn : 2 ≤ l.length) :
    Calls Tryz.prog 65 #[.agg #[.int .i64 a, .int .i64 3, .int .i64 0, .int .i64 r, .string h, .slice ao l.length cp], .int .i64 c] w fun x w' => SplR w w' x a r h c l es := by
  obtain ⟨o, rfl, _⟩ := hP.strs.at_ (by omega)
  have HX := hide (Sv.new w a r h (some ⟨B, o, none⟩) l.length cp)
  have HR := hide (read_leaf _ a r h hi B cp (some ⟨B, o, none⟩) l es (hP.more HX.out.only))
  have HIC : Hid (∀ W, Calls Tryz.prog 88 #[.int .i64 c] W fun x w' => x = .returned (.bool true) ∧ w' = W) := fun W => by
    have := isChild_any c W
    rwa [hc] at this
  have HLEN := hide hP.lf.len
  have HFEW := hide hP.few
  have HS := hide hP.strs
  have HOK := hide hP.lf.ok
  have HF := hide hF
  have hn2 : ¬ (l.length : Int) < 2 := by omega
  have HCP := hide (And.intro hF.le hF.big)
  have HM0 := hide (half_eq l.length hP.few)
  obtain ⟨m, hm⟩ : ∃ m, (l.length + 1) / 2 = m := ⟨_, rfl⟩
  have hmb : 1 ≤ m ∧ m < l.length := by omega
  obtain ⟨P, hPm⟩ : ∃ P, m = P + 1 := ⟨m - 1, by omega⟩
  have HPE : Hid (P < es.length) := by have := HLEN.out; unfold Hid; omega
  obtain ⟨A2, hA2⟩ : ∃ A2, (if cp = m then some (⟨B, o, none⟩ : Addr) else some ⟨B, o + m, none⟩) = A2 := ⟨_, rfl⟩
  have HCL2 : Hid (∀ W, Only (fun _ => False) w W → Calls Tryz.prog 105 #[.slice A2 (l.length - m) (cp - m)] W fun x w' => ∃ B5 ao5 cp5, x = .returned (.slice ao5 (l.length - m) cp5) ∧ Strs w' B5 ao5 (l.drop m) ∧ Only (fun _ => False) W w' ∧ (0 < (l.drop m).length → W.heap.size ≤ B5)) := fun W ho => clone_strs W B (cp - m) (l.length - m) A2 (l.drop m) (by simp) ((hP.strs.more ho).drop m A2 (fun _ => by rw [← hA2, if_neg (by have := hF.le; omega)]))
  have HCL1 : Hid (∀ W, Only (fun _ => False) w W → Calls Tryz.prog 105 #[.slice (some ⟨B, o, none⟩) m cp] W fun x w' => ∃ B5 ao5 cp5, x = .returned (.slice ao5 m cp5) ∧ Strs w' B5 ao5 (l.take m) ∧ Only (fun _ => False) W w' ∧ (0 < (l.take m).length → W.heap.size ≤ B5)) := fun W ho => clone_strs W B cp m (some ⟨B, o, none⟩) (l.take m) (by simp; omega) ((hP.strs.more ho).take m)
  have HDL : Hid (0 < (l.drop m).length ∧ 0 < (l.take m).length) := by unfold Hid; rw [List.length_drop, List.length_take]; omega
  have HLD : Hid (∀ W, Calls Tryz.prog 43 #[.agg #[.string (es[P]'HPE.out).key, .int .i64 (es[P]'HPE.out).page, .int .i64 (es[P]'HPE.out).slot], .slice none 0 0] W fun x w' => x = .returned (.string (es[P]'HPE.out).enc) ∧ Only (fun _ => False) W w') := fun W => laid_one _ W (En.few_ok (hP.lf.ok _ (List.getElem_mem _)))
  have HBD : Hid (es.getD (m - 1) noE = es[P]'HPE.out) := by
    unfold Hid
    rw [hPm, Nat.add_sub_cancel, List.getD_eq_getElem?_getD, List.getElem?_eq_getElem HPE.out]
    rfl
  have HMP : Hid ((m : Int) - 1 = (P : Int)) := by unfold Hid; omega
  rw [hm] at HM0
  have HMM := hide hm
  have HA2 := hide hA2
  have HMB := hide hmb
  clear hP hF hc hm hPm hA2 hmb
  go_enter Tryz.func65, Tryz.ntmps65
  go_upto_region 1 with fail
  obtain ⟨W0, hW0⟩ : ∃ x, svW w a r h (some ⟨B, o, none⟩) l.length cp = x := ⟨_, rfl⟩
  rw [hW0] at HX HR
  unfold svW at hW0
  rw [hW0]
  clear hW0
  obtain ⟨p0, p1, p2, p3, p4, p5, _⟩ := HX.out.pag
  go_wp2_with fail
  refine HR.out.mono ?_
  rintro x w1 ⟨A, C, rfl, he, ho⟩
  unfold cvv
  have HX1 := hide (HX.out.more ho)
  have HE1 := hide he
  clear he ho p0 p1 p2 p3 p4 p5 HR HX
  go_upto_region 2 with fail
  have HA := hide (onlyA w1 (.cells #[.slice A es.length C, .slice none 0 0, .string hi.key, .int .i64 hi.page, .int .i64 hi.slot] 107))
  have HC := hide (Cv.new w1 (.slice A es.length C) (.slice none 0 0) hi)
  obtain ⟨cb, hcb⟩ : ∃ b, w1.heap.size = b := ⟨_, rfl⟩
  rw [hcb] at HC ⊢
  clear hcb
  obtain ⟨w2, hw2⟩ : ∃ x, w1.alloc (.cells #[.slice A es.length C, .slice none 0 0, .string hi.key, .int .i64 hi.page, .int .i64 hi.slot] 107) = x := ⟨_, rfl⟩
  rw [hw2] at HA HC ⊢
  clear hw2
  have HX2 := hide (HX1.out.more HA.out)
  have HE2 := hide (HE1.out.more HA.out)
  clear HA HX1 HE1
  have p5 := HX2.out.pag.c5
  go_wp2_with fail
  refine (HIC.out _).mono ?_
  rintro x w3 ⟨rfl, h4⟩
  obtain rfl := h4.symm
  go_upto_region 5 with fail
  rw [HM0.out]
  clear p5 HM0 HIC
  obtain ⟨Be, hels, _⟩ := HE2.out.elsOf
  obtain ⟨oe, rfl, heb⟩ := hels.of P HPE.out
  obtain ⟨f, hf⟩ : ∃ f, es[P]'HPE.out = f := ⟨_, rfl⟩
  rw [hf] at heb HLD HBD
  clear hels hf
  obtain ⟨e0, e1, e2, _⟩ := heb
  have q0 := HC.out.c0
  have hmp := HMP.out
  have hwp : IntKind.i64.wrap (P : Int) = (P : Int) := by have := HPE.out; have := HLEN.out; have := HFEW.out; rw [IntKind.wrap_i64]; omega
  have hb1 : ¬ (es.length : Int) ≤ (P : Int) := by have := HPE.out; omega
  have hb2 : (P : Int) < (es.length : Int) := by have := HPE.out; omega
  go_upto_region 6 with fail
  clear e0 e1 e2 q0 hmp hwp hb1 hb2 HMP HE2
  have HA := hide (onlyA w2 (.cells #[.string f.key, .int .i64 f.page, .int .i64 f.slot] 41))
  have HV3 := hide (Ev.new w2 f)
  have HZ3 : Hid (w.heap.size + 1 + 1 + 1 < w2.heap.size) := HX2.out.r3.lt
  obtain ⟨bb, hbb⟩ : ∃ b, w2.heap.size = b := ⟨_, rfl⟩
  rw [hbb] at HV3 HZ3 ⊢
  clear hbb
  obtain ⟨w3, hw3⟩ : ∃ x, w2.alloc (.cells #[.string f.key, .int .i64 f.page, .int .i64 f.slot] 41) = x := ⟨_, rfl⟩
  rw [hw3] at HA HV3 ⊢
  clear hw3
  have HX3 := hide (HX2.out.more HA.out)
  clear HA HX2 HC
  have p5 := HX3.out.pag.c5
  have hcl := HCP.out.1
  have hcb := HCP.out.2
  unfold maxLen at hcb
  have hA2 := HA2.out
  have hm0 : (0 : Int) ≤ (m : Int) := by omega
  have hm1 : (m : Int) ≤ (l.length : Int) := by have := HMB.out; omega
  have hm2 : ¬ (l.length : Int) < (m : Int) := by omega
  go_wp2_with fail
  clear p5 hA2
  refine (HCL2.out _ HX3.out.only).mono ?_
  rintro x w4 ⟨B5, ao5, cp5, rfl, hS5, ho5, hB5⟩
  have HX4 := hide (HX3.out.more ho5)
  have HV4 := hide (HV3.out.more ho5)
  have HS5 := hide hS5
  have HB5 : Hid (bb < B5) := by
    have := hB5 HDL.out.1
    have := HV3.out.lt
    unfold Hid
    omega
  clear hS5 ho5 hB5 HX3 HV3 HCL2
  have p2 := HX4.out.pag.c2
  go_upto_region 10 with fail
  clear p2 hcl hcb hm0 hm1 hm2
  go_cut [13, 14] (fun x y wx => ∃ b d, x = .pointer (some ⟨b, 0, none⟩) ∧ y = .pointer (some ⟨d, 0, none⟩) ∧ Hid (Pag wx b (.int .i64 a) (.int .i64 3) (.int .i64 0) (.int .i64 r) (.string h) (.slice (some ⟨B, o, none⟩) l.length cp) ∧ Pag wx d (.int .i64 a) (.int .i64 3) (.int .i64 0) (.int .i64 r) (.string h) (.slice (some ⟨B, o, none⟩) l.length cp)) ∧ Hid (Only (fun _ => False) w4 wx ∧ w4.heap.size ≤ b ∧ w4.heap.size ≤ d ∧ b ≠ d))
  case first =>
    -- {r10
    refine wp_region_noPanic ?_
    refine wp_region_held_drew (S := fun W => Only (fun _ => False) w4 W) (by kernel_rfl) (Only.drew _ _) (fun hHeld => ?_)
    refine wpAnyH_take (i := 0) (oi := { dst := some 70, op := Op.load 24 (Operand.tmp 2), type := 24, pos := "node.go:171", after := #[], guard := none }) (v := .agg #[.int .i64 a, .int .i64 3, .int .i64 0, .int .i64 r, .string h, .slice (some ⟨B, o, none⟩) l.length cp]) rfl (by kernel_rfl) (by kernel_rfl) (by kernel_rfl) (fun _ _ _ h => h) (yieldsIf_load_page (by rfl) _ rfl _ rfl (fun W hW => HX4.out.pag.more hW)) (by assumption) ?_
    simp only [Act.put, List.setIfInBounds_toArray, List.set_cons_zero, List.set_cons_succ]
    refine wpAnyH_take (i := 1) (oi := { dst := some 71, op := Op.load 24 (Operand.tmp 2), type := 24, pos := "node.go:171", after := #[{ on := 4, ground := Ground.gcOnly Departure.lateStores }], guard := none }) (v := .agg #[.int .i64 a, .int .i64 3, .int .i64 0, .int .i64 r, .string h, .slice (some ⟨B, o, none⟩) l.length cp]) rfl (by kernel_rfl) (by kernel_rfl) (by kernel_rfl) (fun _ _ _ h => h) (yieldsIf_load_page (by rfl) _ rfl _ rfl (fun W hW => HX4.out.pag.more hW)) (by assumption) ?_
    simp only [Act.put, List.setIfInBounds_toArray, List.set_cons_zero, List.set_cons_succ]
    refine wpAnyH_ready (rs := [2, 3]) (by kernel_rfl) (by simp) ?_
    refine AllReadyH.cons (o := { dst := some 13, op := Op.alloc 24, type := 0, pos := "node.go:171", after := #[], guard := none }) rfl (fun K hK => ?_) (AllReadyH.cons (o := { dst := some 14, op := Op.alloc 24, type := 0, pos := "node.go:171", after := #[], guard := none }) rfl (fun K hK => ?_) (AllReadyH.nil))
    · go_simp
      refine hK.out _ _ (o2 (onlyA _ _) (Only.drew _ _)) (fun hHeld => ?_)
      clear hK K
      try simp only [Act.put, List.setIfInBounds_toArray, List.set_cons_zero, List.set_cons_succ]
      refine wpAnyH_ready (rs := [3]) (by kernel_rfl) (by simp) ?_
      refine AllReadyH.cons (o := { dst := some 14, op := Op.alloc 24, type := 0, pos := "node.go:171", after := #[], guard := none }) rfl (fun K hK => ?_) (AllReadyH.nil)
      go_simp
      refine hK.out _ _ (o2 (o2 (onlyA _ _) (onlyA _ _)) (Only.drew _ _)) (fun hHeld => ?_)
      clear hK K
      try simp only [Act.put, List.setIfInBounds_toArray, List.set_cons_zero, List.set_cons_succ]
      refine wpAnyH_ready (rs := [4]) (by kernel_rfl) (by simp) ?_
      refine AllReadyH.cons (o := { dst := none, op := Op.store 24 (Operand.tmp 13) (Operand.tmp 70), type := 0, pos := "node.go:171", after := #[{ on := 2, ground := Ground.data }, { on := 0, ground := Ground.data }, { on := 0, ground := Ground.phase }, { on := 1, ground := Ground.textOnly Departure.lateStores }, { on := 2, ground := Ground.phase }, { on := 3, ground := Ground.phase }], guard := none }) rfl (fun K hK => ?_) (AllReadyH.nil)
      go_simp
      refine hK.out _ _ (o2 (o2 (onlyA _ _) (onlyA _ _)) (Only.drew _ _)) (fun hHeld => ?_)
      clear hK K
      try simp only [Act.put, List.setIfInBounds_toArray, List.set_cons_zero, List.set_cons_succ]
      refine wpAnyH_ready (rs := [5]) (by kernel_rfl) (by simp) ?_
      refine AllReadyH.cons (o := { dst := none, op := Op.store 24 (Operand.tmp 14) (Operand.tmp 71), type := 0, pos := "node.go:171", after := #[{ on := 3, ground := Ground.data }, { on := 1, ground := Ground.data }, { on := 4, ground := Ground.chain }, { on := 0, ground := Ground.phase }, { on := 1, ground := Ground.phase }, { on := 2, ground := Ground.phase }, { on := 3, ground := Ground.phase }, { on := 4, ground := Ground.phase }], guard := none }) rfl (fun K hK => ?_) (AllReadyH.nil)
      go_simp
      have HPG : Hid (Pag ((w4.alloc (.cells #[.int .i64 a, .int .i64 3, .int .i64 0, .int .i64 r, .string h, .slice (some ⟨B, o, none⟩) l.length cp] 24)).alloc (.cells #[.int .i64 a, .int .i64 3, .int .i64 0, .int .i64 r, .string h, .slice (some ⟨B, o, none⟩) l.length cp] 24)).drew (w4.heap.size) (.int .i64 a) (.int .i64 3) (.int .i64 0) (.int .i64 r) (.string h) (.slice (some ⟨B, o, none⟩) l.length cp) ∧ Pag ((w4.alloc (.cells #[.int .i64 a, .int .i64 3, .int .i64 0, .int .i64 r, .string h, .slice (some ⟨B, o, none⟩) l.length cp] 24)).alloc (.cells #[.int .i64 a, .int .i64 3, .int .i64 0, .int .i64 r, .string h, .slice (some ⟨B, o, none⟩) l.length cp] 24)).drew (w4.heap.size + 1) (.int .i64 a) (.int .i64 3) (.int .i64 0) (.int .i64 r) (.string h) (.slice (some ⟨B, o, none⟩) l.length cp)) := ⟨(Pag.at w4 _ rfl _ _ _ _ _ _).more (o2 (onlyA _ _) (Only.drew _ _)), (Pag.at (w4.alloc (.cells #[.int .i64 a, .int .i64 3, .int .i64 0, .int .i64 r, .string h, .slice (some ⟨B, o, none⟩) l.length cp] 24)) _ (by simp) _ _ _ _ _ _).more (Only.drew _ _)⟩
      have HOX : Hid (Only (fun _ => False) w4 ((w4.alloc (.cells #[.int .i64 a, .int .i64 3, .int .i64 0, .int .i64 r, .string h, .slice (some ⟨B, o, none⟩) l.length cp] 24)).alloc (.cells #[.int .i64 a, .int .i64 3, .int .i64 0, .int .i64 r, .string h, .slice (some ⟨B, o, none⟩) l.length cp] 24)).drew ∧ w4.heap.size ≤ w4.heap.size ∧ w4.heap.size ≤ w4.heap.size + 1 ∧ w4.heap.size ≠ w4.heap.size + 1) := ⟨o2 (o2 (onlyA _ _) (onlyA _ _)) (Only.drew _ _), by omega, by omega, by omega⟩
      refine hK.out _ _ (HOX.out.1) (fun hHeld => ?_)
      clear hK K
      try simp only [Act.put, List.setIfInBounds_toArray, List.set_cons_zero, List.set_cons_succ]
      refine wpAnyH_done (by kernel_rfl) ?_ _
      refine NoPanic.normal ?_
      go_wp2_with fail
      go_meet
      exact ⟨_, _, rfl, rfl, HPG, HOX⟩
    · go_simp
      refine hK.out _ _ (o2 (onlyA _ _) (Only.drew _ _)) (fun hHeld => ?_)
      clear hK K
      try simp only [Act.put, List.setIfInBounds_toArray, List.set_cons_zero, List.set_cons_succ]
      refine wpAnyH_ready (rs := [2]) (by kernel_rfl) (by simp) ?_
      refine AllReadyH.cons (o := { dst := some 13, op := Op.alloc 24, type := 0, pos := "node.go:171", after := #[], guard := none }) rfl (fun K hK => ?_) (AllReadyH.nil)
      go_simp
      refine hK.out _ _ (o2 (o2 (onlyA _ _) (onlyA _ _)) (Only.drew _ _)) (fun hHeld => ?_)
      clear hK K
      try simp only [Act.put, List.setIfInBounds_toArray, List.set_cons_zero, List.set_cons_succ]
      refine wpAnyH_ready (rs := [4]) (by kernel_rfl) (by simp) ?_
      refine AllReadyH.cons (o := { dst := none, op := Op.store 24 (Operand.tmp 13) (Operand.tmp 70), type := 0, pos := "node.go:171", after := #[{ on := 2, ground := Ground.data }, { on := 0, ground := Ground.data }, { on := 0, ground := Ground.phase }, { on := 1, ground := Ground.textOnly Departure.lateStores }, { on := 2, ground := Ground.phase }, { on := 3, ground := Ground.phase }], guard := none }) rfl (fun K hK => ?_) (AllReadyH.nil)
      go_simp
      refine hK.out _ _ (o2 (o2 (onlyA _ _) (onlyA _ _)) (Only.drew _ _)) (fun hHeld => ?_)
      clear hK K
      try simp only [Act.put, List.setIfInBounds_toArray, List.set_cons_zero, List.set_cons_succ]
      refine wpAnyH_ready (rs := [5]) (by kernel_rfl) (by simp) ?_
      refine AllReadyH.cons (o := { dst := none, op := Op.store 24 (Operand.tmp 14) (Operand.tmp 71), type := 0, pos := "node.go:171", after := #[{ on := 3, ground := Ground.data }, { on := 1, ground := Ground.data }, { on := 4, ground := Ground.chain }, { on := 0, ground := Ground.phase }, { on := 1, ground := Ground.phase }, { on := 2, ground := Ground.phase }, { on := 3, ground := Ground.phase }, { on := 4, ground := Ground.phase }], guard := none }) rfl (fun K hK => ?_) (AllReadyH.nil)
      go_simp
      have HPG : Hid (Pag ((w4.alloc (.cells #[.int .i64 a, .int .i64 3, .int .i64 0, .int .i64 r, .string h, .slice (some ⟨B, o, none⟩) l.length cp] 24)).alloc (.cells #[.int .i64 a, .int .i64 3, .int .i64 0, .int .i64 r, .string h, .slice (some ⟨B, o, none⟩) l.length cp] 24)).drew (w4.heap.size + 1) (.int .i64 a) (.int .i64 3) (.int .i64 0) (.int .i64 r) (.string h) (.slice (some ⟨B, o, none⟩) l.length cp) ∧ Pag ((w4.alloc (.cells #[.int .i64 a, .int .i64 3, .int .i64 0, .int .i64 r, .string h, .slice (some ⟨B, o, none⟩) l.length cp] 24)).alloc (.cells #[.int .i64 a, .int .i64 3, .int .i64 0, .int .i64 r, .string h, .slice (some ⟨B, o, none⟩) l.length cp] 24)).drew (w4.heap.size) (.int .i64 a) (.int .i64 3) (.int .i64 0) (.int .i64 r) (.string h) (.slice (some ⟨B, o, none⟩) l.length cp)) := ⟨(Pag.at (w4.alloc (.cells #[.int .i64 a, .int .i64 3, .int .i64 0, .int .i64 r, .string h, .slice (some ⟨B, o, none⟩) l.length cp] 24)) _ (by simp) _ _ _ _ _ _).more (Only.drew _ _), (Pag.at w4 _ rfl _ _ _ _ _ _).more (o2 (onlyA _ _) (Only.drew _ _))⟩
      have HOX : Hid (Only (fun _ => False) w4 ((w4.alloc (.cells #[.int .i64 a, .int .i64 3, .int .i64 0, .int .i64 r, .string h, .slice (some ⟨B, o, none⟩) l.length cp] 24)).alloc (.cells #[.int .i64 a, .int .i64 3, .int .i64 0, .int .i64 r, .string h, .slice (some ⟨B, o, none⟩) l.length cp] 24)).drew ∧ w4.heap.size ≤ w4.heap.size + 1 ∧ w4.heap.size ≤ w4.heap.size ∧ w4.heap.size + 1 ≠ w4.heap.size) := ⟨o2 (o2 (onlyA _ _) (onlyA _ _)) (Only.drew _ _), by omega, by omega, by omega⟩
      refine hK.out _ _ (HOX.out.1) (fun hHeld => ?_)
      clear hK K
      try simp only [Act.put, List.setIfInBounds_toArray, List.set_cons_zero, List.set_cons_succ]
      refine wpAnyH_done (by kernel_rfl) ?_ _
      refine NoPanic.normal ?_
      go_wp2_with fail
      go_meet
      exact ⟨_, _, rfl, rfl, HPG, HOX⟩
    -- r10}
  case rest =>
    obtain ⟨b, d, rfl, rfl, HPG, HOB⟩ := hcut
    have HX5 := hide (HX4.out.more HOB.out.1)
    have HV5 := hide (HV4.out.more HOB.out.1)
    have HS6 := hide (HS5.out.more HOB.out.1)
    have HZ5 : Hid (bb < w4.heap.size ∧ B5 < w4.heap.size) := ⟨HV4.out.lt, HS5.out.lt HDL.out.1⟩
    clear HX4 HV4 HS5
    have hcl := HCP.out.1
    have hcb := HCP.out.2
    unfold maxLen at hcb
    have hm0 : (0 : Int) ≤ (m : Int) := by omega
    have hm1 : (m : Int) ≤ (l.length : Int) := by have := HMB.out; omega
    have hm3 : (m : Int) ≤ (cp : Int) := by omega
    have hm2 : ¬ (l.length : Int) < (m : Int) := by omega
    have hm4 : ¬ (cp : Int) < (m : Int) := by omega
    go_upto_region 11 with fail
    -- {r11
    refine wp_region_noPanic ?_
    refine wp_region_held_drew (S := fun W => Only (fun k => k = b) wc W) (by kernel_rfl) (Only.drew _ _) (fun hHeld => ?_)
    refine wpAnyH_take (i := 0) (oi := { dst := some 72, op := Op.move (Operand.tmp 1), type := 3, pos := "node.go:172", after := #[], guard := none }) (v := .int .i64 c) rfl (by kernel_rfl) (by kernel_rfl) (by kernel_rfl) (fun _ _ _ h => h) (Or.inl ⟨by rfl, fun w' hSw => by clear hSw; go_simp⟩) (by assumption) ?_
    simp only [Act.put, List.setIfInBounds_toArray, List.set_cons_zero, List.set_cons_succ]
    refine wpAnyH_take (i := 1) (oi := { dst := some 73, op := Op.load 41 (Operand.tmp 11), type := 41, pos := "node.go:172", after := #[], guard := none }) (v := .agg #[.string f.key, .int .i64 f.page, .int .i64 f.slot]) rfl (by kernel_rfl) (by kernel_rfl) (by kernel_rfl) (fun _ _ _ h => h) (yieldsIf_load_ev (by rfl) _ rfl rfl (fun W hW => HV5.out.kept hW (by have := HOB.out; have := HZ5.out; omega))) (by assumption) ?_
    simp only [Act.put, List.setIfInBounds_toArray, List.set_cons_zero, List.set_cons_succ]
    refine wpAnyH_take (i := 3) (oi := { dst := some 75, op := Op.fieldAddr 24 (Operand.tmp 2) 5, type := 0, pos := "node.go:172", after := #[], guard := none }) (v := .pointer (some ⟨w.heap.size, 5, none⟩)) rfl (by kernel_rfl) (by kernel_rfl) (by kernel_rfl) (fun _ _ _ h => h) (Or.inl ⟨by rfl, fun w' hSw => by clear hSw; go_simp⟩) (by assumption) ?_
    simp only [Act.put, List.setIfInBounds_toArray, List.set_cons_zero, List.set_cons_succ]
    refine wpAnyH_take (i := 5) (oi := { dst := some 77, op := Op.move (Operand.tmp 10), type := 3, pos := "node.go:172", after := #[], guard := none }) (v := .int .i64 (m : Int)) rfl (by kernel_rfl) (by kernel_rfl) (by kernel_rfl) (fun _ _ _ h => h) (Or.inl ⟨by rfl, fun w' hSw => by clear hSw; go_simp⟩) (by assumption) ?_
    simp only [Act.put, List.setIfInBounds_toArray, List.set_cons_zero, List.set_cons_succ]
    refine wpAnyH_take (i := 4) (oi := { dst := some 76, op := Op.load 22 (Operand.tmp 75), type := 22, pos := "node.go:172", after := #[{ on := 3, ground := Ground.data }], guard := none }) (v := .slice (some ⟨B, o, none⟩) l.length cp) rfl (by kernel_rfl) (by kernel_rfl) (by kernel_rfl) (fun _ _ _ h => h) (yieldsIf_load_cell (by rfl) 22 _ rfl _ rfl (fun W hW => (HX5.out.kept hW (fun k hk => by have := HOB.out; have := HZ5.out; have := HZ3.out; omega)).pag.c5) (fun W hc => ld_strings hc)) (by assumption) ?_
    simp only [Act.put, List.setIfInBounds_toArray, List.set_cons_zero, List.set_cons_succ]
    refine wpAnyH_take (i := 8) (oi := { dst := some 80, op := Op.fieldAddr 24 (Operand.tmp 13) 3, type := 0, pos := "node.go:172", after := #[{ on := 0, ground := Ground.phase }, { on := 1, ground := Ground.textOnly Departure.lateStores }, { on := 2, ground := Ground.textOnly Departure.lateStoresUnsure }, { on := 3, ground := Ground.textOnly Departure.lateStores }, { on := 4, ground := Ground.textOnly Departure.lateStores }, { on := 5, ground := Ground.textOnly Departure.lateStores }, { on := 6, ground := Ground.textOnly Departure.lateStoresUnsure }, { on := 7, ground := Ground.textOnly Departure.lateStoresUnsure }], guard := none }) (v := .pointer (some ⟨b, 3, none⟩)) rfl (by kernel_rfl) (by kernel_rfl) (by kernel_rfl) (fun _ _ _ h => h) (Or.inl ⟨by rfl, fun w' hSw => by clear hSw; go_simp⟩) (by assumption) ?_
    simp only [Act.put, List.setIfInBounds_toArray, List.set_cons_zero, List.set_cons_succ]
    refine wpAnyH_take (i := 6) (oi := { dst := some 78, op := Op.slice 22 (Operand.tmp 76) none (some (Operand.tmp 77)) none, type := 22, pos := "node.go:172", after := #[{ on := 4, ground := Ground.data }, { on := 5, ground := Ground.data }], guard := none }) (v := .slice (some ⟨B, o, none⟩) m cp) rfl (by kernel_rfl) (by kernel_rfl) (by kernel_rfl) (fun _ _ _ h => h) (Or.inl ⟨by rfl, fun w' hSw => by clear hSw; go_simp⟩) (by assumption) ?_
    simp only [Act.put, List.setIfInBounds_toArray, List.set_cons_zero, List.set_cons_succ]
    refine wpAnyH_ready (rs := [2]) (by kernel_rfl) (by simp) ?_
    refine AllReadyH.cons (o := { dst := some 74, op := Op.call { callee := Callee.value (Operand.func 43), args := #[Operand.tmp 73, Operand.const (Value.slice none 0 0)], argTypes := #[41, 25] }, type := 9, pos := "node.go:172", after := #[{ on := 1, ground := Ground.data }], guard := none }) rfl (fun K hK => ?_) (AllReadyH.nil)
    go_simp
    refine (HLD.out _).mono ?_
    rintro x x1 ⟨rfl, hx1⟩
    obtain ⟨E, hEE⟩ : ∃ E, f.enc = E := ⟨_, rfl⟩
    rw [hEE]
    have HEE := hide hEE
    have HY1 := hide (o2 (Only.drew _ wc) hx1)
    clear hx1 hEE
    refine hK.out _ _ (HY1.out.mono (fun _ _ h => h.elim)) (fun hHeld => ?_)
    clear hK K
    try simp only [Act.put, List.setIfInBounds_toArray, List.set_cons_zero, List.set_cons_succ]
    refine wpAnyH_ready (rs := [7]) (by kernel_rfl) (by simp) ?_
    refine AllReadyH.cons (o := { dst := some 79, op := Op.call { callee := Callee.value (Operand.func 105), args := #[Operand.tmp 78], argTypes := #[22] }, type := 22, pos := "node.go:172", after := #[{ on := 6, ground := Ground.data }, { on := 2, ground := Ground.chain }], guard := none }) rfl (fun K hK => ?_) (AllReadyH.nil)
    go_simp
    refine (HCL1.out _ (o2 HX5.out.only HY1.out)).mono ?_
    rintro x x2 ⟨B7, ao7, cp7, rfl, hS7, ho7, hB7⟩
    have HY2 := hide ho7
    have HS7 : Hid (Strs x2 B7 ao7 (l.take m) ∧ B7 ≠ b) := ⟨hS7, by have h9 := hB7 HDL.out.2; have h8 := (HPG.out.1.more HY1.out).lt; omega⟩
    have HBL : Hid (b < B7 ∧ d < B7) := by have h9 := hB7 HDL.out.2; have h8 := (HPG.out.1.more HY1.out).lt; have h7 := (HPG.out.2.more HY1.out).lt; unfold Hid; omega
    have HPG7 := hide (And.intro (HPG.out.1.more (o2 HY1.out HY2.out)) (HPG.out.2.more (o2 HY1.out HY2.out)))
    have HX7 := hide (HX5.out.more (o2 HY1.out HY2.out))
    have HV7 := hide (HV5.out.more (o2 HY1.out HY2.out))
    have HS8 := hide (HS6.out.more (o2 HY1.out HY2.out))
    obtain ⟨_, _, _, q3, q4, q5, _, _, _, g3, g4, g5, _⟩ := HPG7.out.1
    clear hS7 ho7 hB7
    refine hK.out _ _ ((o2 HY1.out HY2.out).mono (fun _ _ h => h.elim)) (fun hHeld => ?_)
    clear hK K
    try simp only [Act.put, List.setIfInBounds_toArray, List.set_cons_zero, List.set_cons_succ]
    refine wpAnyH_ready (rs := [9]) (by kernel_rfl) (by simp) ?_
    refine AllReadyH.cons (o := { dst := none, op := Op.store 3 (Operand.tmp 80) (Operand.tmp 72), type := 0, pos := "node.go:172", after := #[{ on := 8, ground := Ground.data }, { on := 0, ground := Ground.data }, { on := 7, ground := Ground.chain }, { on := 0, ground := Ground.phase }, { on := 1, ground := Ground.textOnly Departure.lateStores }, { on := 2, ground := Ground.textOnly Departure.lateStoresUnsure }, { on := 3, ground := Ground.textOnly Departure.lateStores }, { on := 4, ground := Ground.textOnly Departure.lateStores }, { on := 5, ground := Ground.textOnly Departure.lateStores }, { on := 6, ground := Ground.textOnly Departure.lateStoresUnsure }, { on := 7, ground := Ground.textOnly Departure.lateStoresUnsure }], guard := none }) rfl (fun K hK => ?_) (AllReadyH.nil)
    go_simp
    refine hK.out _ _ (((o2 HY1.out HY2.out).mono (fun _ _ h => h.elim)).trans (Only.setCell (S := fun k => k = b) _ ⟨b, 3, none⟩ _ rfl) (fun _ _ h => h)) (fun hHeld => ?_)
    clear hK K
    try simp only [Act.put, List.setIfInBounds_toArray, List.set_cons_zero, List.set_cons_succ]
    refine wpAnyH_take (i := 10) (oi := { dst := some 81, op := Op.fieldAddr 24 (Operand.tmp 13) 4, type := 0, pos := "node.go:172", after := #[{ on := 0, ground := Ground.phase }, { on := 1, ground := Ground.phase }, { on := 2, ground := Ground.phase }, { on := 3, ground := Ground.textOnly Departure.lateStores }, { on := 4, ground := Ground.textOnly Departure.lateStores }, { on := 5, ground := Ground.textOnly Departure.lateStores }, { on := 6, ground := Ground.textOnly Departure.lateStoresUnsure }, { on := 7, ground := Ground.textOnly Departure.lateStoresUnsure }, { on := 8, ground := Ground.phase }, { on := 9, ground := Ground.phase }], guard := none }) (v := .pointer (some ⟨b, 4, none⟩)) rfl (by kernel_rfl) (by kernel_rfl) (by kernel_rfl) (fun _ _ _ h => h) (Or.inl ⟨by rfl, fun w' hSw => by clear hSw; go_simp⟩) (by assumption) ?_
    simp only [Act.put, List.setIfInBounds_toArray, List.set_cons_zero, List.set_cons_succ]
    refine wpAnyH_ready (rs := [11]) (by kernel_rfl) (by simp) ?_
    refine AllReadyH.cons (o := { dst := none, op := Op.store 9 (Operand.tmp 81) (Operand.tmp 74), type := 0, pos := "node.go:172", after := #[{ on := 10, ground := Ground.data }, { on := 2, ground := Ground.data }, { on := 9, ground := Ground.chain }, { on := 0, ground := Ground.phase }, { on := 1, ground := Ground.phase }, { on := 2, ground := Ground.phase }, { on := 3, ground := Ground.textOnly Departure.lateStores }, { on := 4, ground := Ground.textOnly Departure.lateStores }, { on := 5, ground := Ground.textOnly Departure.lateStores }, { on := 6, ground := Ground.textOnly Departure.lateStoresUnsure }, { on := 7, ground := Ground.textOnly Departure.lateStoresUnsure }, { on := 8, ground := Ground.phase }, { on := 9, ground := Ground.phase }], guard := none }) rfl (fun K hK => ?_) (AllReadyH.nil)
    go_simp
    refine hK.out _ _ ((((o2 HY1.out HY2.out).mono (fun _ _ h => h.elim)).trans (Only.setCell (S := fun k => k = b) _ ⟨b, 3, none⟩ _ rfl) (fun _ _ h => h)).trans (Only.setCell (S := fun k => k = b) _ ⟨b, 4, none⟩ _ rfl) (fun _ _ h => h)) (fun hHeld => ?_)
    clear hK K
    try simp only [Act.put, List.setIfInBounds_toArray, List.set_cons_zero, List.set_cons_succ]
    refine wpAnyH_take (i := 12) (oi := { dst := some 82, op := Op.fieldAddr 24 (Operand.tmp 13) 5, type := 0, pos := "node.go:172", after := #[{ on := 0, ground := Ground.phase }, { on := 1, ground := Ground.phase }, { on := 2, ground := Ground.phase }, { on := 3, ground := Ground.phase }, { on := 4, ground := Ground.phase }, { on := 5, ground := Ground.phase }, { on := 6, ground := Ground.phase }, { on := 7, ground := Ground.phase }, { on := 8, ground := Ground.phase }, { on := 9, ground := Ground.phase }, { on := 10, ground := Ground.phase }, { on := 11, ground := Ground.phase }], guard := none }) (v := .pointer (some ⟨b, 5, none⟩)) rfl (by kernel_rfl) (by kernel_rfl) (by kernel_rfl) (fun _ _ _ h => h) (Or.inl ⟨by rfl, fun w' hSw => by clear hSw; go_simp⟩) (by assumption) ?_
    simp only [Act.put, List.setIfInBounds_toArray, List.set_cons_zero, List.set_cons_succ]
    refine wpAnyH_ready (rs := [13]) (by kernel_rfl) (by simp) ?_
    refine AllReadyH.cons (o := { dst := none, op := Op.store 22 (Operand.tmp 82) (Operand.tmp 79), type := 0, pos := "node.go:172", after := #[{ on := 12, ground := Ground.data }, { on := 7, ground := Ground.data }, { on := 11, ground := Ground.chain }, { on := 0, ground := Ground.phase }, { on := 1, ground := Ground.phase }, { on := 2, ground := Ground.phase }, { on := 3, ground := Ground.phase }, { on := 4, ground := Ground.phase }, { on := 5, ground := Ground.phase }, { on := 6, ground := Ground.phase }, { on := 7, ground := Ground.phase }, { on := 8, ground := Ground.phase }, { on := 9, ground := Ground.phase }, { on := 10, ground := Ground.phase }, { on := 11, ground := Ground.phase }], guard := none }) rfl (fun K hK => ?_) (AllReadyH.nil)
    go_simp
    refine hK.out _ _ (((o2 HY1.out HY2.out).mono (fun _ _ h => h.elim)).trans (Only.left x2 b _ _ _) (fun _ _ h => h)) (fun hHeld => ?_)
    clear hK K
    try simp only [Act.put, List.setIfInBounds_toArray, List.set_cons_zero, List.set_cons_succ]
    refine wpAnyH_done (by kernel_rfl) ?_ _
    refine NoPanic.normal ?_
    rw [Exit.then]
    -- r11}
    clear hcl hcb hm0 hm1 hm2 hm3 hm4 q3 q4 q5 g3 g4 g5
    have HPL := hide (HPG7.out.1.left (.int .i64 c) (.string E) (.slice ao7 m cp7))
    have HOL := hide (Only.left x2 b (.int .i64 c) (.string E) (.slice ao7 m cp7))
    have HPR := hide (HPG7.out.2.kept HOL.out (by have := HOB.out.2.2.2; omega))
    have HX8 := hide (HX7.out.kept HOL.out (fun k hk => by have := HOB.out; have := HZ5.out; have := HZ3.out; omega))
    have HV8 := hide (HV7.out.kept HOL.out (by have := HOB.out; have := HZ5.out; omega))
    have HSL := hide (HS7.out.1.kept HOL.out (fun _ => by have := HS7.out.2; omega))
    have HSR := hide (HS8.out.kept HOL.out (fun _ => by have := HOB.out; have := HZ5.out; omega))
    obtain ⟨W8, hW8⟩ : ∃ x, ((x2.setCell ⟨b, 3, none⟩ (.int .i64 c)).setCell ⟨b, 4, none⟩ (.string E)).setCell ⟨b, 5, none⟩ (.slice ao7 m cp7) = x := ⟨_, rfl⟩
    rw [hW8] at HPL HPR HX8 HV8 HSL HSR ⊢
    clear hW8 HOL HPG7 HX7 HV7 HS7 HS8
    have p5 := HPR.out.c5
    have pf := HPR.out.f5
    go_upto_region 13 with fail
    clear p5 pf
    have HP9 := hide (HPR.out.set5 (.slice ao5 (l.length - m) cp5))
    have HO9 : Hid (Only (fun k => k = d) W8 (W8.setCell ⟨d, 5, none⟩ (.slice ao5 (l.length - m) cp5))) := Only.setCell W8 ⟨d, 5, none⟩ _ rfl
    have HPL9 := hide (HPL.out.kept HO9.out (by have := HOB.out.2.2.2; omega))
    have HX9 := hide (HX8.out.kept HO9.out (fun k hk => by have := HOB.out; have := HZ5.out; have := HZ3.out; omega))
    have HV9 := hide (HV8.out.kept HO9.out (by have := HOB.out; have := HZ5.out; omega))
    have HSL9 := hide (HSL.out.kept HO9.out (fun _ => by have := HBL.out; omega))
    have HSR9 := hide (HSR.out.kept HO9.out (fun _ => by have := HOB.out; have := HZ5.out; omega))
    obtain ⟨W9, hW9⟩ : ∃ x, W8.setCell ⟨d, 5, none⟩ (.slice ao5 (l.length - m) cp5) = x := ⟨_, rfl⟩
    rw [hW9] at HP9 HPL9 HX9 HV9 HSL9 HSR9 ⊢
    clear hW9 HO9 HPL HPR HX8 HV8 HSL HSR
    have HFAR : Hid (w.heap.size + 1 + 1 + 1 < b ∧ w.heap.size + 1 + 1 + 1 < d ∧ w.heap.size + 1 + 1 + 1 < bb ∧ w.heap.size + 1 + 1 + 1 < B5 ∧ w.heap.size + 1 + 1 + 1 < B7) := by have := HOB.out; have := HZ5.out; have := HZ3.out; have := HBL.out; have := HB5.out; unfold Hid; omega
    -- {r13
    refine wp_region_noPanic ?_
    refine wp_region_held_drew (S := fun W => Only (fun k => k = w.heap.size + 1 ∨ k = w.heap.size + 1 + 1 ∨ k = w.heap.size + 1 + 1 + 1) W9 W) (by kernel_rfl) (Only.drew _ _) (fun hHeld => ?_)
    refine wpAnyH_take (i := 0) (oi := { dst := some 85, op := Op.load 24 (Operand.tmp 13), type := 24, pos := "node.go:174", after := #[], guard := none }) (v := .agg #[.int .i64 a, .int .i64 3, .int .i64 0, .int .i64 c, .string E, .slice ao7 m cp7]) rfl (by kernel_rfl) (by kernel_rfl) (by kernel_rfl) (fun _ _ _ h => h) (yieldsIf_load_page (by rfl) _ rfl _ rfl (fun W hW => HPL9.out.kept hW (by have := HFAR.out; omega))) (by assumption) ?_
    simp only [Act.put, List.setIfInBounds_toArray, List.set_cons_zero, List.set_cons_succ]
    refine wpAnyH_take (i := 1) (oi := { dst := some 86, op := Op.load 24 (Operand.tmp 14), type := 24, pos := "node.go:174", after := #[{ on := 3, ground := Ground.gcOnly Departure.lateStores }], guard := none }) (v := .agg #[.int .i64 a, .int .i64 3, .int .i64 0, .int .i64 r, .string h, .slice ao5 (l.length - m) cp5]) rfl (by kernel_rfl) (by kernel_rfl) (by kernel_rfl) (fun _ _ _ h => h) (yieldsIf_load_page (by rfl) _ rfl _ rfl (fun W hW => HP9.out.kept hW (by have := HFAR.out; omega))) (by assumption) ?_
    simp only [Act.put, List.setIfInBounds_toArray, List.set_cons_zero, List.set_cons_succ]
    refine wpAnyH_take (i := 2) (oi := { dst := some 87, op := Op.load 41 (Operand.tmp 11), type := 41, pos := "node.go:174", after := #[{ on := 4, ground := Ground.gcOnly Departure.lateStores }], guard := none }) (v := .agg #[.string f.key, .int .i64 f.page, .int .i64 f.slot]) rfl (by kernel_rfl) (by kernel_rfl) (by kernel_rfl) (fun _ _ _ h => h) (yieldsIf_load_ev (by rfl) _ rfl rfl (fun W hW => HV9.out.kept hW (by have := HFAR.out; omega))) (by assumption) ?_
    simp only [Act.put, List.setIfInBounds_toArray, List.set_cons_zero, List.set_cons_succ]
    refine wpAnyH_ready (rs := [3]) (by kernel_rfl) (by simp) ?_
    refine AllReadyH.cons (o := { dst := none, op := Op.store 24 (Operand.tmp 4) (Operand.tmp 85), type := 0, pos := "node.go:174", after := #[{ on := 0, ground := Ground.data }, { on := 0, ground := Ground.phase }, { on := 1, ground := Ground.textOnly Departure.lateStores }, { on := 2, ground := Ground.textOnly Departure.lateStores }], guard := none }) rfl (fun K hK => ?_) (AllReadyH.nil)
    obtain ⟨q0, q1, q2, q3, q4, q5, g0, g1, g2, g3, g4, g5, ql⟩ := HX9.out.r1
    go_simp
    clear q0 q1 q2 q3 q4 q5 g0 g1 g2 g3 g4 g5 ql
    have HD1 : Hid (Only (fun k => k = w.heap.size + 1) W9 ((((((W9.setCell ⟨w.heap.size + 1, 0, none⟩ (.int .i64 a)).setCell ⟨w.heap.size + 1, 1, none⟩ (.int .i64 3)).setCell ⟨w.heap.size + 1, 2, none⟩ (.int .i64 0)).setCell ⟨w.heap.size + 1, 3, none⟩ (.int .i64 c)).setCell ⟨w.heap.size + 1, 4, none⟩ (.string E)).setCell ⟨w.heap.size + 1, 5, none⟩ (.slice ao7 m cp7)).drew) := (Only.six W9 (w.heap.size + 1) _ _ _ _ _ _).trans (Only.drew (fun _ => False) _) (fun _ _ h => h.elim)
    have HR1a := hide ((HX9.out.r1.six (.int .i64 a) (.int .i64 3) (.int .i64 0) (.int .i64 c) (.string E) (.slice ao7 m cp7)).more (Only.drew _ _))
    obtain ⟨Y1, hY1⟩ : ∃ x, ((((((W9.setCell ⟨w.heap.size + 1, 0, none⟩ (.int .i64 a)).setCell ⟨w.heap.size + 1, 1, none⟩ (.int .i64 3)).setCell ⟨w.heap.size + 1, 2, none⟩ (.int .i64 0)).setCell ⟨w.heap.size + 1, 3, none⟩ (.int .i64 c)).setCell ⟨w.heap.size + 1, 4, none⟩ (.string E)).setCell ⟨w.heap.size + 1, 5, none⟩ (.slice ao7 m cp7)).drew = x := ⟨_, rfl⟩
    rw [hY1] at HD1 HR1a ⊢
    clear hY1
    have HR2a := hide (HX9.out.r2.kept HD1.out (by omega))
    have HR3a := hide (HX9.out.r3.kept HD1.out (by omega))
    have HT1 : Hid (Only (fun k => k = w.heap.size + 1 ∨ k = w.heap.size + 1 + 1 ∨ k = w.heap.size + 1 + 1 + 1) W9 Y1) := HD1.out.mono (fun _ _ h => .inl h)
    refine hK.out _ _ (HT1.out) (fun hHeld => ?_)
    clear hK K
    try simp only [Act.put, List.setIfInBounds_toArray, List.set_cons_zero, List.set_cons_succ]
    refine wpAnyH_ready (rs := [4]) (by kernel_rfl) (by simp) ?_
    refine AllReadyH.cons (o := { dst := none, op := Op.store 24 (Operand.tmp 5) (Operand.tmp 86), type := 0, pos := "node.go:174", after := #[{ on := 1, ground := Ground.data }, { on := 3, ground := Ground.chain }, { on := 0, ground := Ground.phase }, { on := 1, ground := Ground.phase }, { on := 2, ground := Ground.textOnly Departure.lateStores }, { on := 3, ground := Ground.phase }], guard := none }) rfl (fun K hK => ?_) (AllReadyH.nil)
    obtain ⟨q0, q1, q2, q3, q4, q5, g0, g1, g2, g3, g4, g5, ql⟩ := HR2a.out
    go_simp
    clear q0 q1 q2 q3 q4 q5 g0 g1 g2 g3 g4 g5 ql
    have HD2 : Hid (Only (fun k => k = w.heap.size + 1 + 1) Y1 ((((((Y1.setCell ⟨w.heap.size + 1 + 1, 0, none⟩ (.int .i64 a)).setCell ⟨w.heap.size + 1 + 1, 1, none⟩ (.int .i64 3)).setCell ⟨w.heap.size + 1 + 1, 2, none⟩ (.int .i64 0)).setCell ⟨w.heap.size + 1 + 1, 3, none⟩ (.int .i64 r)).setCell ⟨w.heap.size + 1 + 1, 4, none⟩ (.string h)).setCell ⟨w.heap.size + 1 + 1, 5, none⟩ (.slice ao5 (l.length - m) cp5))) := Only.six Y1 (w.heap.size + 1 + 1) _ _ _ _ _ _
    have HR2b := hide (HR2a.out.six (.int .i64 a) (.int .i64 3) (.int .i64 0) (.int .i64 r) (.string h) (.slice ao5 (l.length - m) cp5))
    obtain ⟨Y2, hY2⟩ : ∃ x, ((((((Y1.setCell ⟨w.heap.size + 1 + 1, 0, none⟩ (.int .i64 a)).setCell ⟨w.heap.size + 1 + 1, 1, none⟩ (.int .i64 3)).setCell ⟨w.heap.size + 1 + 1, 2, none⟩ (.int .i64 0)).setCell ⟨w.heap.size + 1 + 1, 3, none⟩ (.int .i64 r)).setCell ⟨w.heap.size + 1 + 1, 4, none⟩ (.string h)).setCell ⟨w.heap.size + 1 + 1, 5, none⟩ (.slice ao5 (l.length - m) cp5)) = x := ⟨_, rfl⟩
    rw [hY2] at HD2 HR2b ⊢
    clear hY2
    have HR1b := hide (HR1a.out.kept HD2.out (by omega))
    have HR3b := hide (HR3a.out.kept HD2.out (by omega))
    have HT2 : Hid (Only (fun k => k = w.heap.size + 1 ∨ k = w.heap.size + 1 + 1 ∨ k = w.heap.size + 1 + 1 + 1) W9 Y2) := HT1.out.trans HD2.out (fun _ _ h => .inr (.inl h))
    refine hK.out _ _ (HT2.out) (fun hHeld => ?_)
    clear hK K
    try simp only [Act.put, List.setIfInBounds_toArray, List.set_cons_zero, List.set_cons_succ]
    refine wpAnyH_ready (rs := [5]) (by kernel_rfl) (by simp) ?_
    refine AllReadyH.cons (o := { dst := none, op := Op.store 41 (Operand.tmp 6) (Operand.tmp 87), type := 0, pos := "node.go:174", after := #[{ on := 2, ground := Ground.data }, { on := 4, ground := Ground.chain }, { on := 0, ground := Ground.phase }, { on := 1, ground := Ground.phase }, { on := 2, ground := Ground.phase }, { on := 3, ground := Ground.phase }, { on := 4, ground := Ground.phase }], guard := none }) rfl (fun K hK => ?_) (AllReadyH.nil)
    obtain ⟨q0, q1, q2, g0, g1, g2, ql⟩ := HR3b.out
    go_simp
    clear q0 q1 q2 g0 g1 g2 ql
    have HD3 : Hid (Only (fun k => k = w.heap.size + 1 + 1 + 1) Y2 (((Y2.setCell ⟨w.heap.size + 1 + 1 + 1, 0, none⟩ (.string f.key)).setCell ⟨w.heap.size + 1 + 1 + 1, 1, none⟩ (.int .i64 f.page)).setCell ⟨w.heap.size + 1 + 1 + 1, 2, none⟩ (.int .i64 f.slot))) := Only.three Y2 (w.heap.size + 1 + 1 + 1) _ _ _
    have HR3 := hide (HR3b.out.all f)
    obtain ⟨Y3, hY3⟩ : ∃ x, (((Y2.setCell ⟨w.heap.size + 1 + 1 + 1, 0, none⟩ (.string f.key)).setCell ⟨w.heap.size + 1 + 1 + 1, 1, none⟩ (.int .i64 f.page)).setCell ⟨w.heap.size + 1 + 1 + 1, 2, none⟩ (.int .i64 f.slot)) = x := ⟨_, rfl⟩
    rw [hY3] at HD3 HR3 ⊢
    clear hY3
    have HR1 := hide (HR1b.out.kept HD3.out (by omega))
    have HR2 := hide (HR2b.out.kept HD3.out (by omega))
    have HT3 : Hid (Only (fun k => k = w.heap.size + 1 ∨ k = w.heap.size + 1 + 1 ∨ k = w.heap.size + 1 + 1 + 1) W9 Y3) := HT2.out.trans HD3.out (fun _ _ h => .inr (.inr h))
    have HSA := hide (And.intro (HSL9.out.kept HT3.out (fun _ => by have := HFAR.out; omega)) (HSR9.out.kept HT3.out (fun _ => by have := HFAR.out; omega)))
    have HOA : Hid (Only (fun _ => False) w Y3) := HX9.out.only.trans HT3.out (fun i hi e => by omega)
    refine hK.out _ _ (HT3.out) (fun hHeld => ?_)
    clear hK K
    try simp only [Act.put, List.setIfInBounds_toArray, List.set_cons_zero, List.set_cons_succ]
    refine wpAnyH_take (i := 6) (oi := { dst := some 7, op := Op.assign (Operand.const (Value.int IntKind.i64 0)), type := 28, pos := "node.go:174", after := #[{ on := 5, ground := Ground.chain }, { on := 0, ground := Ground.phase }, { on := 1, ground := Ground.phase }, { on := 2, ground := Ground.phase }, { on := 3, ground := Ground.phase }, { on := 4, ground := Ground.phase }, { on := 5, ground := Ground.phase }], guard := none }) (v := .int .i64 0) rfl (by kernel_rfl) (by kernel_rfl) (by kernel_rfl) (fun _ _ _ h => h) (Or.inl ⟨by rfl, fun w' hSw => by clear hSw; go_simp⟩) (by assumption) ?_
    simp only [Act.put, List.setIfInBounds_toArray, List.set_cons_zero, List.set_cons_succ]
    refine wpAnyH_done (by kernel_rfl) ?_ _
    refine NoPanic.normal ?_
    -- r13}
    go_wp2_with fail
    refine bodyPost_ret (results_split rfl rfl rfl rfl HR1.out HR2.out HR3.out) rfl ?_
    refine ⟨B7, ao7, cp7, B5, ao5, cp5, ?_, ?_, ?_, ?_⟩
    · rw [HMM.out, HBD.out]
      rw [← HEE.out]
      rfl
    · rw [HMM.out]
      exact HSA.out.1
    · rw [HMM.out]
      exact HSA.out.2
    · exact HOA.out
end Go.Proofs.YthjjkhacniebiaaGreat
