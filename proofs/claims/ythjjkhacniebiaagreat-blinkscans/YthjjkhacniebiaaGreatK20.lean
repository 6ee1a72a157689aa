/- What is asked of nodes: Entries, Kids, Beyond, Child of package node. -/
import Derived.Test.YthjjkhacniebiaaGreatK19
namespace Go.Proofs.YthjjkhacniebiaaGreat
open Go.RowKit

/-- A leaf in memory. -/
structure Lp (w : World) (r : Int) (h : ByteArray) (hi : En) (B : Nat) (ao : Option Addr) (l : List ByteArray) (es : List En) : Prop where
  strs : Strs w B ao l
  right : 0 ≤ r ∧ r ≤ 65535
  high : HiIs h hi
  lf : LfIs hi l es
  few : l.length ≤ 1048576
theorem Lp.more {w w' : World} {r : Int} {h : ByteArray} {hi : En} {B : Nat} {ao : Option Addr} {l : List ByteArray} {es : List En} (x : Lp w r h hi B ao l es) (ho : Only (fun _ => False) w w') : Lp w' r h hi B ao l es := ⟨x.strs.more ho, x.right, x.high, x.lf, x.few⟩
theorem Lp.read {w : World} {r : Int} {h : ByteArray} {hi : En} {B : Nat} {ao : Option Addr} {l : List ByteArray} {es : List En} (x : Lp w r h hi B ao l es) (a : Int) (cp : Nat) : Calls Tryz.prog 89 #[.agg #[.int .i64 a, .int .i64 3, .int .i64 0, .int .i64 r, .string h, .slice ao l.length cp]] w fun e w' => LfR w w' e hi es := readLeaf_ok w a r h hi B cp ao l es x.strs x.right x.high x.few x.lf
theorem Lp.len {w : World} {r : Int} {h : ByteArray} {hi : En} {B : Nat} {ao : Option Addr} {l : List ByteArray} {es : List En} (x : Lp w r h hi B ao l es) : es.length ≤ 1048576 := by
  have := x.lf.len
  have := x.few
  omega
/-- An inner node in memory. -/
structure Ip (w : World) (v r : Int) (h : ByteArray) (hi : En) (B : Nat) (ao : Option Addr) (l : List ByteArray) (ks : List (En × Int)) : Prop where
  strs : Strs w B ao l
  level : 1 ≤ v ∧ v ≤ 255
  right : 0 ≤ r ∧ r ≤ 65535
  high : HiIs h hi
  inn : InIs hi l ks
  few : l.length ≤ 1048576
theorem Ip.more {w w' : World} {v r : Int} {h : ByteArray} {hi : En} {B : Nat} {ao : Option Addr} {l : List ByteArray} {ks : List (En × Int)} (x : Ip w v r h hi B ao l ks) (ho : Only (fun _ => False) w w') : Ip w' v r h hi B ao l ks := ⟨x.strs.more ho, x.level, x.right, x.high, x.inn, x.few⟩
theorem Ip.read {w : World} {v r : Int} {h : ByteArray} {hi : En} {B : Nat} {ao : Option Addr} {l : List ByteArray} {ks : List (En × Int)} (x : Ip w v r h hi B ao l ks) (a : Int) (cp : Nat) : Calls Tryz.prog 90 #[.agg #[.int .i64 a, .int .i64 3, .int .i64 v, .int .i64 r, .string h, .slice ao l.length cp]] w fun e w' => InR w w' e hi ks := readInner_ok w a v r h hi B cp ao l ks x.strs x.level x.right x.high x.few x.inn
theorem Ip.len {w : World} {v r : Int} {h : ByteArray} {hi : En} {B : Nat} {ao : Option Addr} {l : List ByteArray} {ks : List (En × Int)} (x : Ip w v r h hi B ao l ks) : ks.length ≤ 1048576 := by
  have := x.inn.len
  have := x.few
  omega
theorem Ets.base {w : World} {b c : Nat} {v : Value} {es : List En} (h : Ets w b v es) (hc : c ≤ b) : Ets w c v es := by
  obtain ⟨h3, h4⟩ := h
  refine ⟨h3, ?_⟩
  rcases h4 with h4 | ⟨g, cap, cur, hv, hg, hh⟩
  · exact .inl h4
  · exact .inr ⟨g, cap, cur, hv, Nat.le_trans hc hg, hh⟩
theorem Kts.base {w : World} {b c : Nat} {v : Value} {es : List Int} (h : Kts w b v es) (hc : c ≤ b) : Kts w c v es := by
  obtain ⟨h3, h4⟩ := h
  refine ⟨h3, ?_⟩
  rcases h4 with h4 | ⟨g, cap, cur, hv, hg, hh⟩
  · exact .inl h4
  · exact .inr ⟨g, cap, cur, hv, Nat.le_trans hc hg, hh⟩
/-- What Entries answers of a leaf. -/
def EnR (w w' : World) (x : Ending) (es : List En) : Prop := ∃ A C, x = .returned (.tuple #[.slice A es.length C, .int .i64 0]) ∧ Ets w' w.heap.size (.slice A es.length C) es ∧ Only (fun _ => False) w w'
set_option maxHeartbeats 1600000 in
theorem entries_ok (w : World) (a r : Int) (h : ByteArray) (hi : En) (B cp : Nat) (ao : Option Addr) (l : List ByteArray) (es : List En) (hP : Lp w r h hi B ao l es) :
    Calls Tryz.prog 52 #[.agg #[.int .i64 a, .int .i64 3, .int .i64 0, .int .i64 r, .string h, .slice ao l.length cp]] w fun x w' => EnR w w' x es := by
  have HG := hide (Pag.new w (.int .i64 a) (.int .i64 3) (.int .i64 0) (.int .i64 r) (.string h) (.slice ao l.length cp))
  have HO := hide (onlyA w (.cells #[.int .i64 a, .int .i64 3, .int .i64 0, .int .i64 r, .string h, .slice ao l.length cp] 24))
  have HR := hide ((hP.more HO.out).read a cp)
  clear hP
  go_enter Tryz.func52, Tryz.ntmps52
  go_upto_region 1 with fail
  obtain ⟨W0, hW0⟩ : ∃ x, w.alloc (.cells #[.int .i64 a, .int .i64 3, .int .i64 0, .int .i64 r, .string h, .slice ao l.length cp] 24) = x := ⟨_, rfl⟩
  rw [hW0] at HG HO HR ⊢
  clear hW0
  obtain ⟨p0, p1, p2, p3, p4, p5, _⟩ := HG.out
  go_wp2_with fail
  refine HR.out.mono ?_
  rintro x w1 ⟨A, C, rfl, he, ho⟩
  unfold cvv
  have HE := hide he
  have HB : Hid (w.heap.size ≤ W0.heap.size) := HO.out.size
  have HO1 := hide (o2 HO.out ho)
  clear he ho p0 p1 p2 p3 p4 p5 HG HR
  go_upto_region 2 with fail
  have HA := hide (onlyA w1 (.cells #[.slice A es.length C, .slice none 0 0, .string hi.key, .int .i64 hi.page, .int .i64 hi.slot] 107))
  have HC := hide (Cv.new w1 (.slice A es.length C) (.slice none 0 0) hi)
  obtain ⟨w2, hw2⟩ : ∃ x, w1.alloc (.cells #[.slice A es.length C, .slice none 0 0, .string hi.key, .int .i64 hi.page, .int .i64 hi.slot] 107) = x := ⟨_, rfl⟩
  rw [hw2] at HA HC ⊢
  clear hw2
  have q0 := HC.out.c0
  go_wp2_with fail
  go_ret2
  exact ⟨A, C, rfl, (HE.out.more HA.out).base HB.out, o2 HO1.out HA.out⟩
/-- What Kids answers of an inner node. -/
def KdR (w w' : World) (x : Ending) (ks : List (En × Int)) : Prop := ∃ A C A2 C2, x = .returned (.tuple #[.slice A ks.length C, .slice A2 ks.length C2, .int .i64 0]) ∧ Ets w' w.heap.size (.slice A ks.length C) (ks.map Prod.fst) ∧ Kts w' w.heap.size (.slice A2 ks.length C2) (ks.map Prod.snd) ∧ Only (fun _ => False) w w'
set_option maxHeartbeats 1600000 in
theorem kids_ok (w : World) (a v r : Int) (h : ByteArray) (hi : En) (B cp : Nat) (ao : Option Addr) (l : List ByteArray) (ks : List (En × Int)) (hP : Ip w v r h hi B ao l ks) :
    Calls Tryz.prog 54 #[.agg #[.int .i64 a, .int .i64 3, .int .i64 v, .int .i64 r, .string h, .slice ao l.length cp]] w fun x w' => KdR w w' x ks := by
  have HG := hide (Pag.new w (.int .i64 a) (.int .i64 3) (.int .i64 v) (.int .i64 r) (.string h) (.slice ao l.length cp))
  have HO := hide (onlyA w (.cells #[.int .i64 a, .int .i64 3, .int .i64 v, .int .i64 r, .string h, .slice ao l.length cp] 24))
  have HR := hide ((hP.more HO.out).read a cp)
  clear hP
  go_enter Tryz.func54, Tryz.ntmps54
  go_upto_region 1 with fail
  obtain ⟨W0, hW0⟩ : ∃ x, w.alloc (.cells #[.int .i64 a, .int .i64 3, .int .i64 v, .int .i64 r, .string h, .slice ao l.length cp] 24) = x := ⟨_, rfl⟩
  rw [hW0] at HG HO HR ⊢
  clear hW0
  obtain ⟨p0, p1, p2, p3, p4, p5, _⟩ := HG.out
  go_wp2_with fail
  refine HR.out.mono ?_
  rintro x w1 ⟨A, C, A2, C2, rfl, he, hk, ho⟩
  unfold cvv
  have HE := hide he
  have HK := hide hk
  have HB : Hid (w.heap.size ≤ W0.heap.size) := HO.out.size
  have HO1 := hide (o2 HO.out ho)
  clear he hk ho p0 p1 p2 p3 p4 p5 HG HR
  go_upto_region 2 with fail
  have HA := hide (onlyA w1 (.cells #[.slice A ks.length C, .slice A2 ks.length C2, .string hi.key, .int .i64 hi.page, .int .i64 hi.slot] 107))
  have HC := hide (Cv.new w1 (.slice A ks.length C) (.slice A2 ks.length C2) hi)
  obtain ⟨cb, hcb⟩ : ∃ b, w1.heap.size = b := ⟨_, rfl⟩
  rw [hcb] at HC ⊢
  clear hcb
  obtain ⟨w2, hw2⟩ : ∃ x, w1.alloc (.cells #[.slice A ks.length C, .slice A2 ks.length C2, .string hi.key, .int .i64 hi.page, .int .i64 hi.slot] 107) = x := ⟨_, rfl⟩
  rw [hw2] at HA HC ⊢
  clear hw2
  go_upto_region 4 with fail
  -- {k4
  refine wp_region_noPanic ?_
  refine wp_region_held_drew (S := fun W => Only (fun _ => False) w2 W) (by kernel_rfl) (Only.drew _ _) (fun hHeld => ?_)
  refine wpAnyH_take (i := 0) (oi := { dst := some 14, op := Op.fieldAddr 107 (Operand.tmp 5) 0, type := 0, pos := "node.go:95", after := #[], guard := none }) (v := .pointer (some ⟨cb, 0, none⟩)) rfl (by kernel_rfl) (by kernel_rfl) (by kernel_rfl) (fun _ _ _ h => h) (Or.inl ⟨by rfl, fun w' hSw => by clear hSw; go_simp⟩) (by assumption) ?_
  simp only [Act.put, List.setIfInBounds_toArray, List.set_cons_zero, List.set_cons_succ]
  refine wpAnyH_take (i := 2) (oi := { dst := some 16, op := Op.fieldAddr 107 (Operand.tmp 5) 1, type := 0, pos := "node.go:95", after := #[{ on := 4, ground := Ground.gcOnly Departure.lateStores }], guard := none }) (v := .pointer (some ⟨cb, 1, none⟩)) rfl (by kernel_rfl) (by kernel_rfl) (by kernel_rfl) (fun _ _ _ h => h) (Or.inl ⟨by rfl, fun w' hSw => by clear hSw; go_simp⟩) (by assumption) ?_
  simp only [Act.put, List.setIfInBounds_toArray, List.set_cons_zero, List.set_cons_succ]
  refine wpAnyH_take (i := 1) (oi := { dst := some 15, op := Op.load 47 (Operand.tmp 14), type := 47, pos := "node.go:95", after := #[{ on := 0, ground := Ground.data }], guard := none }) (v := .slice A ks.length C) rfl (by kernel_rfl) (by kernel_rfl) (by kernel_rfl) (fun _ _ _ h => h) (yieldsIf_load_cell (by rfl) 47 _ rfl _ rfl (fun W hW => (HC.out.more hW).c0) (fun W hc => ld_entries hc)) (by assumption) ?_
  simp only [Act.put, List.setIfInBounds_toArray, List.set_cons_zero, List.set_cons_succ]
  refine wpAnyH_take (i := 3) (oi := { dst := some 17, op := Op.load 25 (Operand.tmp 16), type := 25, pos := "node.go:95", after := #[{ on := 2, ground := Ground.data }, { on := 4, ground := Ground.gcOnly Departure.lateStores }], guard := none }) (v := .slice A2 ks.length C2) rfl (by kernel_rfl) (by kernel_rfl) (by kernel_rfl) (fun _ _ _ h => h) (yieldsIf_load_cell (by rfl) 25 _ rfl _ rfl (fun W hW => (HC.out.more hW).c1) (fun W hc => ld_ints hc)) (by assumption) ?_
  simp only [Act.put, List.setIfInBounds_toArray, List.set_cons_zero, List.set_cons_succ]
  refine wpAnyH_take (i := 4) (oi := { dst := some 2, op := Op.assign (Operand.tmp 15), type := 47, pos := "node.go:95", after := #[{ on := 1, ground := Ground.data }, { on := 0, ground := Ground.phase }, { on := 1, ground := Ground.phase }, { on := 2, ground := Ground.textOnly Departure.lateStores }, { on := 3, ground := Ground.textOnly Departure.lateStores }], guard := none }) (v := .slice A ks.length C) rfl (by kernel_rfl) (by kernel_rfl) (by kernel_rfl) (fun _ _ _ h => h) (Or.inl ⟨by rfl, fun w' hSw => by clear hSw; go_simp⟩) (by assumption) ?_
  simp only [Act.put, List.setIfInBounds_toArray, List.set_cons_zero, List.set_cons_succ]
  refine wpAnyH_take (i := 5) (oi := { dst := some 3, op := Op.assign (Operand.tmp 17), type := 25, pos := "node.go:95", after := #[{ on := 3, ground := Ground.data }, { on := 4, ground := Ground.chain }, { on := 0, ground := Ground.phase }, { on := 1, ground := Ground.phase }, { on := 2, ground := Ground.phase }, { on := 3, ground := Ground.phase }, { on := 4, ground := Ground.phase }], guard := none }) (v := .slice A2 ks.length C2) rfl (by kernel_rfl) (by kernel_rfl) (by kernel_rfl) (fun _ _ _ h => h) (Or.inl ⟨by rfl, fun w' hSw => by clear hSw; go_simp⟩) (by assumption) ?_
  simp only [Act.put, List.setIfInBounds_toArray, List.set_cons_zero, List.set_cons_succ]
  refine wpAnyH_take (i := 6) (oi := { dst := some 4, op := Op.assign (Operand.const (Value.int IntKind.i64 0)), type := 28, pos := "node.go:95", after := #[{ on := 5, ground := Ground.chain }, { on := 0, ground := Ground.phase }, { on := 1, ground := Ground.phase }, { on := 2, ground := Ground.phase }, { on := 3, ground := Ground.phase }, { on := 4, ground := Ground.phase }, { on := 5, ground := Ground.phase }], guard := none }) (v := .int .i64 0) rfl (by kernel_rfl) (by kernel_rfl) (by kernel_rfl) (fun _ _ _ h => h) (Or.inl ⟨by rfl, fun w' hSw => by clear hSw; go_simp⟩) (by assumption) ?_
  simp only [Act.put, List.setIfInBounds_toArray, List.set_cons_zero, List.set_cons_succ]
  refine wpAnyH_done (by kernel_rfl) ?_ _
  refine NoPanic.normal ?_
  -- k4}
  go_wp2_with fail
  go_ret3
  exact ⟨A, C, A2, C2, rfl, ((HE.out.more HA.out).more (Only.drew _ _)).base HB.out, ((HK.out.more HA.out).more (Only.drew _ _)).base HB.out, o2 (o2 HO1.out HA.out) (Only.drew _ _)⟩
set_option maxHeartbeats 1600000 in
theorem read_leaf (w : World) (a r : Int) (h : ByteArray) (hi : En) (B cp : Nat) (ao : Option Addr) (l : List ByteArray) (es : List En) (hP : Lp w r h hi B ao l es) :
    Calls Tryz.prog 49 #[.agg #[.int .i64 a, .int .i64 3, .int .i64 0, .int .i64 r, .string h, .slice ao l.length cp]] w fun x w' => LfR w w' x hi es := by
  have HX := hide (lf_new w (.int .i64 a) (.int .i64 3) (.int .i64 0) (.int .i64 r) (.string h) (.slice ao l.length cp))
  have HR := hide ((hP.more HX.out.2.2).read a cp)
  clear hP
  go_enter Tryz.func49, Tryz.ntmps49
  go_upto_region 1 with fail
  obtain ⟨W0, hW0⟩ : ∃ x, (w.alloc (.cells #[.int .i64 a, .int .i64 3, .int .i64 0, .int .i64 r, .string h, .slice ao l.length cp] 24)).alloc (.cells #[.slice none 0 0, .slice none 0 0, .string ⟨#[]⟩, .int .i64 0, .int .i64 0] 107) = x := ⟨_, rfl⟩
  rw [hW0] at HX HR ⊢
  clear hW0
  obtain ⟨p0, p1, p2, p3, p4, p5, _⟩ := HX.out.1
  go_wp2_with fail
  refine HR.out.mono ?_
  rintro x w1 ⟨A, C, rfl, he, ho⟩
  unfold cvv
  have HE := hide he
  have HC := hide (HX.out.2.1.more ho)
  have HB : Hid (w.heap.size + 1 < W0.heap.size) := HX.out.2.1.lt
  have HO1 := hide (o2 HX.out.2.2 ho)
  clear he ho p0 p1 p2 p3 p4 p5 HR
  obtain ⟨r0, r1, r2, r3, r4, f0, f1, f2, f3, f4, _⟩ := HC.out
  go_wp2_with fail
  refine bodyPost_ret (results_cv rfl rfl (HC.out.all _ _ hi)) rfl ?_
  have hfive := Only.five w1 (w.heap.size + 1) (.slice A es.length C) (.slice none 0 0) (.string hi.key) (.int .i64 hi.page) (.int .i64 hi.slot)
  refine ⟨A, C, rfl, (HE.out.kept hfive (fun k hk => ?_)).base (by have := HB.out; omega), HO1.out.trans hfive (fun i hi e => by omega)⟩
  have := (World.ownsRow.lt HE.out k hk).1
  have := HB.out
  omega
/-- What Beyond answers. -/
def byV (hi e : En) : Value := if e.ok = true then .tuple #[.bool (byd hi e), .int .i64 0] else .tuple #[.bool false, .int .i64 140]
theorem pe_new (w : World) (v0 v1 v2 v3 v4 v5 : Value) (e : En) : Pag ((w.alloc (.cells #[v0, v1, v2, v3, v4, v5] 24)).alloc (.cells #[.string e.key, .int .i64 e.page, .int .i64 e.slot] 41)) w.heap.size v0 v1 v2 v3 v4 v5 ∧ Ev ((w.alloc (.cells #[v0, v1, v2, v3, v4, v5] 24)).alloc (.cells #[.string e.key, .int .i64 e.page, .int .i64 e.slot] 41)) (w.heap.size + 1) e ∧ Only (fun _ => False) w ((w.alloc (.cells #[v0, v1, v2, v3, v4, v5] 24)).alloc (.cells #[.string e.key, .int .i64 e.page, .int .i64 e.slot] 41)) := by
  refine ⟨(Pag.new w v0 v1 v2 v3 v4 v5).more (onlyA _ _), ?_, o2 (onlyA _ _) (onlyA _ _)⟩
  have e1 := Ev.new (w.alloc (.cells #[v0, v1, v2, v3, v4, v5] 24)) e
  rw [World.size_alloc] at e1
  exact e1
set_option maxHeartbeats 1600000 in
theorem beyond_ok (w : World) (a r : Int) (h : ByteArray) (hi e : En) (B cp : Nat) (ao : Option Addr) (l : List ByteArray) (es : List En) (hP : Lp w r h hi B ao l es) :
    Calls Tryz.prog 80 #[.agg #[.int .i64 a, .int .i64 3, .int .i64 0, .int .i64 r, .string h, .slice ao l.length cp], e.agg] w fun x w' => x = .returned (byV hi e) ∧ Only (fun _ => False) w w' := by
  have HX := hide (pe_new w (.int .i64 a) (.int .i64 3) (.int .i64 0) (.int .i64 r) (.string h) (.slice ao l.length cp) e)
  have HR := hide (read_leaf _ a r h hi B cp ao l es (hP.more HX.out.2.2))
  have HIE : Hid (∀ W, Calls Tryz.prog 42 #[.agg #[.string e.key, .int .i64 e.page, .int .i64 e.slot]] W fun x w' => x = .returned (.bool e.ok) ∧ Only (fun _ => False) W w') := fun W => isEntry_any e W
  have HBY : Hid (∀ W (A1 A2 : Option Addr) (n1 n2 C1 C2 : Nat), Calls Tryz.prog 97 #[.agg #[.slice A1 n1 C1, .slice A2 n2 C2, .string hi.key, .int .i64 hi.page, .int .i64 hi.slot], .agg #[.string e.key, .int .i64 e.page, .int .i64 e.slot]] W fun x w' => x = .returned (.bool (byd hi e)) ∧ Only (fun _ => False) W w') := fun W A1 A2 n1 n2 C1 C2 => isBeyond_any W A1 A2 n1 n2 C1 C2 hi e
  clear hP
  unfold byV En.agg
  obtain ⟨O, hO⟩ : ∃ O, e.ok = O := ⟨_, rfl⟩
  obtain ⟨Y, hY⟩ : ∃ Y, byd hi e = Y := ⟨_, rfl⟩
  rw [hO] at HIE ⊢
  rw [hY] at HBY ⊢
  clear hO hY
  go_enter Tryz.func80, Tryz.ntmps80
  go_upto_region 1 with fail
  obtain ⟨W0, hW0⟩ : ∃ x, (w.alloc (.cells #[.int .i64 a, .int .i64 3, .int .i64 0, .int .i64 r, .string h, .slice ao l.length cp] 24)).alloc (.cells #[.string e.key, .int .i64 e.page, .int .i64 e.slot] 41) = x := ⟨_, rfl⟩
  rw [hW0] at HX HR ⊢
  clear hW0
  obtain ⟨p0, p1, p2, p3, p4, p5, _⟩ := HX.out.1
  go_wp2_with fail
  refine HR.out.mono ?_
  rintro x w1 ⟨A, C, rfl, he, ho⟩
  unfold cvv
  have HV1 := hide (HX.out.2.1.more ho)
  have HO1 := hide (o2 HX.out.2.2 ho)
  clear he ho p0 p1 p2 p3 p4 p5 HR HX
  go_upto_region 2 with fail
  have HA := hide (onlyA w1 (.cells #[.slice A es.length C, .slice none 0 0, .string hi.key, .int .i64 hi.page, .int .i64 hi.slot] 107))
  have HC := hide (Cv.new w1 (.slice A es.length C) (.slice none 0 0) hi)
  obtain ⟨cb, hcb⟩ : ∃ b, w1.heap.size = b := ⟨_, rfl⟩
  rw [hcb] at HC ⊢
  clear hcb
  obtain ⟨w2, hw2⟩ : ∃ x, w1.alloc (.cells #[.slice A es.length C, .slice none 0 0, .string hi.key, .int .i64 hi.page, .int .i64 hi.slot] 107) = x := ⟨_, rfl⟩
  rw [hw2] at HA HC ⊢
  clear hw2
  have HV2 := hide (HV1.out.more HA.out)
  have HO2 := hide (o2 HO1.out HA.out)
  clear HA HV1 HO1
  obtain ⟨d0, d1, d2, _⟩ := HV2.out
  go_wp2_with fail
  refine (HIE.out _).mono ?_
  rintro x w3 ⟨rfl, ho⟩
  have HV3 := hide (HV2.out.more ho)
  have HC3 := hide (HC.out.more ho)
  have HO3 := hide (o2 HO2.out ho)
  clear ho d0 d1 d2 HV2 HC HO2
  cases O with
  | false =>
    go_wp2_with fail
    go_ret2
    exact ⟨rfl, HO3.out⟩
  | true =>
    obtain ⟨d0, d1, d2, _⟩ := HV3.out
    obtain ⟨q0, q1, q2, q3, q4, _⟩ := HC3.out
    go_wp2_with fail
    refine (HBY.out _ _ _ _ _ _ _).mono ?_
    rintro x w4 ⟨rfl, ho⟩
    have HO4 := hide (o2 HO3.out ho)
    clear ho
    go_wp2_with fail
    go_ret2
    exact ⟨rfl, HO4.out⟩
/-- The child that leads to an entry. -/
def chE (ks : List (En × Int)) (e : En) : Int := (ks.getD (plE (ks.map Prod.fst) e - 1) (noE, 0)).2
/-- What Child answers. -/
def chV (ks : List (En × Int)) (hi e : En) : Value := if e.ok = true ∧ byd hi e = false then .tuple #[.int .i64 (chE ks e), .int .i64 0] else .tuple #[.int .i64 0, .int .i64 140]
theorem pl_pos {hi : En} {l : List ByteArray} {ks : List (En × Int)} (h : InIs hi l ks) {e : En} (he : e.ok = true) : ∃ P, plE (ks.map Prod.fst) e = P + 1 ∧ P < ks.length := by
  obtain ⟨c, r, rfl⟩ := h.first
  have h1 : 0 < plE (((noE, c) :: r).map Prod.fst) e := by
    unfold plE
    rw [List.map_cons, List.countP_cons_of_pos (by simpa using noE_lt he)]
    omega
  have h2 := plE_le (((noE, c) :: r).map Prod.fst) e
  rw [List.length_map] at h2
  exact ⟨plE (((noE, c) :: r).map Prod.fst) e - 1, by omega, by omega⟩
theorem Ets.elsOf {w : World} {base : Nat} {A : Option Addr} {n C : Nat} {es : List En} (h : Ets w base (.slice A n C) es) : ∃ B, Els w B A es ∧ es.length = n := by
  obtain ⟨B, ao, cp, hv, he, _⟩ := h.els
  injection hv with h1 h2 h3
  subst h1
  exact ⟨B, he, h2.symm⟩
set_option maxHeartbeats 3200000 in
theorem child_ok (w : World) (a v r : Int) (h : ByteArray) (hi e : En) (B cp : Nat) (ao : Option Addr) (l : List ByteArray) (ks : List (En × Int)) (hP : Ip w v r h hi B ao l ks) :
    Calls Tryz.prog 81 #[.agg #[.int .i64 a, .int .i64 3, .int .i64 v, .int .i64 r, .string h, .slice ao l.length cp], e.agg] w fun x w' => x = .returned (chV ks hi e) ∧ Only (fun _ => False) w w' := by
  have HX := hide (pe_new w (.int .i64 a) (.int .i64 3) (.int .i64 v) (.int .i64 r) (.string h) (.slice ao l.length cp) e)
  have HR := hide ((hP.more HX.out.2.2).read a cp)
  have HIE : Hid (∀ W, Calls Tryz.prog 42 #[.agg #[.string e.key, .int .i64 e.page, .int .i64 e.slot]] W fun x w' => x = .returned (.bool e.ok) ∧ Only (fun _ => False) W w') := fun W => isEntry_any e W
  have HBY : Hid (∀ W (A1 A2 : Option Addr) (n1 n2 C1 C2 : Nat), Calls Tryz.prog 97 #[.agg #[.slice A1 n1 C1, .slice A2 n2 C2, .string hi.key, .int .i64 hi.page, .int .i64 hi.slot], .agg #[.string e.key, .int .i64 e.page, .int .i64 e.slot]] W fun x w' => x = .returned (.bool (byd hi e)) ∧ Only (fun _ => False) W w') := fun W A1 A2 n1 n2 C1 C2 => isBeyond_any W A1 A2 n1 n2 C1 C2 hi e
  have HPL : Hid (∀ (W : World) (A1 A2 : Option Addr) (n1 n2 C1 C2 : Nat) (base : Nat), Ets W base (.slice A1 n1 C1) (ks.map Prod.fst) → Calls Tryz.prog 98 #[.agg #[.slice A1 n1 C1, .slice A2 n2 C2, .string hi.key, .int .i64 hi.page, .int .i64 hi.slot], .agg #[.string e.key, .int .i64 e.page, .int .i64 e.slot]] W fun x w' => x = .returned (plV (ks.map Prod.fst) e) ∧ Only (fun _ => False) W w') := fun W A1 A2 n1 n2 C1 C2 base hE => by
    obtain ⟨B1, hels, hln⟩ := hE.elsOf
    exact place_any W B1 n1 C1 A1 A2 n2 C2 hi (ks.map Prod.fst) e hels hln (by have := hP.len; rw [← hln, List.length_map]; omega) hP.inn.rise
  have HPP := hide (fun he => pl_pos hP.inn (e := e) he)
  have HKL := hide hP.len
  clear hP
  obtain ⟨R, hR⟩ : ∃ R, chV ks hi e = R := ⟨_, rfl⟩
  have HRV : Hid (R = if e.ok = true ∧ byd hi e = false then .tuple #[.int .i64 (chE ks e), .int .i64 0] else .tuple #[.int .i64 0, .int .i64 140]) := hR.symm
  rw [hR]
  obtain ⟨O, hO⟩ : ∃ O, e.ok = O := ⟨_, rfl⟩
  obtain ⟨Y, hY⟩ : ∃ Y, byd hi e = Y := ⟨_, rfl⟩
  rw [hO] at HIE HPP HRV
  rw [hY] at HBY HRV
  clear hO hY hR
  unfold En.agg
  go_enter Tryz.func81, Tryz.ntmps81
  go_upto_region 1 with fail
  obtain ⟨W0, hW0⟩ : ∃ x, (w.alloc (.cells #[.int .i64 a, .int .i64 3, .int .i64 v, .int .i64 r, .string h, .slice ao l.length cp] 24)).alloc (.cells #[.string e.key, .int .i64 e.page, .int .i64 e.slot] 41) = x := ⟨_, rfl⟩
  rw [hW0] at HX HR ⊢
  clear hW0
  obtain ⟨p0, p1, p2, p3, p4, p5, _⟩ := HX.out.1
  go_wp2_with fail
  refine HR.out.mono ?_
  rintro x w1 ⟨A, C, A2, C2, rfl, he, hk, ho⟩
  unfold cvv
  have HV1 := hide (HX.out.2.1.more ho)
  have HO1 := hide (o2 HX.out.2.2 ho)
  have HE1 := hide he
  have HK1 := hide hk
  clear he hk ho p0 p1 p2 p3 p4 p5 HR HX
  go_upto_region 2 with fail
  have HA := hide (onlyA w1 (.cells #[.slice A ks.length C, .slice A2 ks.length C2, .string hi.key, .int .i64 hi.page, .int .i64 hi.slot] 107))
  have HC := hide (Cv.new w1 (.slice A ks.length C) (.slice A2 ks.length C2) hi)
  obtain ⟨cb, hcb⟩ : ∃ b, w1.heap.size = b := ⟨_, rfl⟩
  rw [hcb] at HC ⊢
  clear hcb
  obtain ⟨w2, hw2⟩ : ∃ x, w1.alloc (.cells #[.slice A ks.length C, .slice A2 ks.length C2, .string hi.key, .int .i64 hi.page, .int .i64 hi.slot] 107) = x := ⟨_, rfl⟩
  rw [hw2] at HA HC ⊢
  clear hw2
  have HV2 := hide (HV1.out.more HA.out)
  have HO2 := hide (o2 HO1.out HA.out)
  have HE2 := hide (HE1.out.more HA.out)
  have HK2 := hide (HK1.out.more HA.out)
  clear HA HV1 HO1 HE1 HK1
  obtain ⟨d0, d1, d2, _⟩ := HV2.out
  go_wp2_with fail
  refine (HIE.out _).mono ?_
  rintro x w3 ⟨rfl, ho⟩
  have HV3 := hide (HV2.out.more ho)
  have HC3 := hide (HC.out.more ho)
  have HO3 := hide (o2 HO2.out ho)
  have HE3 := hide (HE2.out.more ho)
  have HK3 := hide (HK2.out.more ho)
  clear ho d0 d1 d2 HV2 HC HO2 HE2 HK2
  cases O with
  | false =>
    have HRX : Hid (R = .tuple #[.int .i64 0, .int .i64 140]) := by unfold Hid; rw [HRV.out, if_neg (by simp)]
    clear HPP HPL HRV
    go_wp2_with fail
    go_ret2
    exact ⟨by rw [HRX.out]; rfl, HO3.out⟩
  | true =>
    obtain ⟨P, hP1, hP2⟩ := HPP.out rfl
    have HP1 := hide hP1
    clear hP1 HPP
    obtain ⟨d0, d1, d2, _⟩ := HV3.out
    obtain ⟨q0, q1, q2, q3, q4, _⟩ := HC3.out
    go_wp2_with fail
    refine (HBY.out _ _ _ _ _ _ _).mono ?_
    rintro x w4 ⟨rfl, ho⟩
    have HV4 := hide (HV3.out.more ho)
    have HC4 := hide (HC3.out.more ho)
    have HO4 := hide (o2 HO3.out ho)
    have HE4 := hide (HE3.out.more ho)
    have HK4 := hide (HK3.out.more ho)
    clear ho d0 d1 d2 q0 q1 q2 q3 q4 HV3 HC3 HO3 HE3 HK3
    cases Y with
    | true =>
      have HRX : Hid (R = .tuple #[.int .i64 0, .int .i64 140]) := by unfold Hid; rw [HRV.out, if_neg (by simp)]
      clear HPL HRV
      go_wp2_with fail
      go_ret2
      exact ⟨by rw [HRX.out]; rfl, HO4.out⟩
    | false =>
      have HRX : Hid (R = .tuple #[.int .i64 (chE ks e), .int .i64 0]) := by unfold Hid; rw [HRV.out, if_pos (by simp)]
      clear HRV
      obtain ⟨d0, d1, d2, _⟩ := HV4.out
      obtain ⟨q0, q1, q2, q3, q4, _⟩ := HC4.out
      have HPL1 := hide (HPL.out w4 A A2 ks.length ks.length C C2 _ HE4.out)
      unfold plV at HPL1
      obtain ⟨D, hD⟩ : ∃ D, decide (e ∈ ks.map Prod.fst) = D := ⟨_, rfl⟩
      rw [HP1.out, hD] at HPL1
      clear hD HPL
      go_wp2_with fail
      refine HPL1.out.mono ?_
      rintro x w5 ⟨rfl, ho⟩
      have HC5 := hide (HC4.out.more ho)
      have HO5 := hide (o2 HO4.out ho)
      obtain ⟨g, cg, hv, _, hgl, hcell⟩ := (HK4.out.more ho).at_ P (by rw [List.length_map]; exact hP2)
      rw [List.getElem_map, List.length_map] at *
      injection hv with hv1 hv2 hv3
      subst hv1
      clear ho d0 d1 d2 q0 q1 q2 q3 q4 hv2 hv3 hgl
      have q1 := HC5.out.c1
      have hwn : IntKind.i64.wrap (P : Int) = (P : Int) := by have := HKL.out; rw [IntKind.wrap_i64]; omega
      have hb1 : ¬ (ks.length : Int) ≤ (P : Int) := by omega
      have hb2 : (P : Int) < (ks.length : Int) := by omega
      have HQ : Hid (chE ks e = ks[P].2) := by
        unfold Hid chE
        rw [HP1.out, Nat.add_sub_cancel, List.getD_eq_getElem?_getD, List.getElem?_eq_getElem hP2]
        rfl
      obtain ⟨kd, hkd⟩ : ∃ kd, ks[P].2 = kd := ⟨_, rfl⟩
      rw [hkd] at HQ hcell
      clear hkd
      go_wp2_with fail
      go_ret2
      exact ⟨by rw [HRX.out, HQ.out]; rfl, HO5.out⟩
end Go.Proofs.YthjjkhacniebiaaGreat
