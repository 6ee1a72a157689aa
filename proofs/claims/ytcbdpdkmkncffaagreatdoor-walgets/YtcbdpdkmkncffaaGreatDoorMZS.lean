/- The document's Same of two records. -/
import Derived.Test.YtcbdpdkmkncffaaGreatDoorMN1
import Derived.Test.YtcbdpdkmkncffaaGreatDoorMN2
import Derived.Test.YtcbdpdkmkncffaaGreatDoorMSZ
namespace Go.Proofs.YtcbdpdkmkncffaaGreatDoor
open Go.RowKit

theorem guardO' (x y : Operand) (xs ys : Array Value) (w : World) : (eqGuard .neq 82 x y (.agg xs) (.agg ys)).run Tryz.prog w = .ok () w := guardO x y xs ys w
set_option maxRecDepth 100000 in
set_option maxHeartbeats 3200000 in
theorem zsame_any (w : World) (a b : Rc) (L M : Loc) (ha : RcAt w a L) (hb : RcAt w b M) :
    Calls Tryz.prog 20 #[.agg (a.cells L), .agg (b.cells M)] w fun e w' => RB e (a = b) ∧ Only (fun _ => False) w w' := by
  by_cases e0 : a.lsn = b.lsn
  case neg => exact zsame_no0 w a b L M  e0
  have x0 : (a.lsn != b.lsn) = false := by simpa using e0
  by_cases e1 : a.prev = b.prev
  case neg => exact zsame_no1 w a b L M x0 e1
  have x1 : (a.prev != b.prev) = false := by simpa using e1
  by_cases e2 : a.next = b.next
  case neg => exact zsame_no2 w a b L M x0 x1 e2
  have x2 : (a.next != b.next) = false := by simpa using e2
  by_cases e3 : a.kind = b.kind
  case neg => exact zsame_no3 w a b L M x0 x1 x2 e3
  have x3 : (a.kind != b.kind) = false := by simpa using e3
  by_cases e4 : a.xid = b.xid
  case neg => exact zsame_no4 w a b L M x0 x1 x2 x3 e4
  have x4 : (a.xid != b.xid) = false := by simpa using e4
  by_cases e5 : a.page = b.page
  case neg => exact zsame_no5 w a b L M x0 x1 x2 x3 x4 e5
  have x5 : (a.page != b.page) = false := by simpa using e5
  by_cases e6 : a.slot = b.slot
  case neg => exact zsame_no6 w a b L M x0 x1 x2 x3 x4 x5 e6
  have x6 : (a.slot != b.slot) = false := by simpa using e6
  by_cases e7 : a.old = b.old
  case neg => exact zsame_no7 w a b L M x0 x1 x2 x3 x4 x5 x6 e7
  have x7 : (a.old != b.old) = false := by simpa using e7
  by_cases e8 : a.new = b.new
  case neg => exact zsame_no8 w a b L M x0 x1 x2 x3 x4 x5 x6 x7 e8
  have x8 : (a.new != b.new) = false := by simpa using e8
  by_cases e9 : a.redo = b.redo
  case neg => exact zsame_no9 w a b L M x0 x1 x2 x3 x4 x5 x6 x7 x8 e9
  have x9 : (a.redo != b.redo) = false := by simpa using e9
  by_cases e10 : a.data = b.data
  case neg => exact zsame_no10 w a b L M x0 x1 x2 x3 x4 x5 x6 x7 x8 x9 e10
  have x10 : (a.data.toList == b.data.toList) = true := by rw [e10]; simp
  have E0 := hide e0
  have E1 := hide e1
  have E2 := hide e2
  have E3 := hide e3
  have E4 := hide e4
  have E5 := hide e5
  have E6 := hide e6
  have E7 := hide e7
  have E8 := hide e8
  have E9 := hide e9
  have E10 := hide e10
  clear e0 e1 e2 e3 e4 e5 e6 e7 e8 e9 e10
  obtain ⟨W, hW, hB1, hB2, hO⟩ := two_boxes w a b L M
  have HW := hide hW
  have HB1 := hide hB1
  have HB2 := hide hB2
  have HO := hide hO
  have HA := hide (ha.go hO)
  have HB := hide (hb.go hO)
  have l13 : a.images.length ≤ 17592186043904 := by obtain ⟨T, hi⟩ := ha.images; exact hi.len
  have l14 := ha.pages.len
  have l15 := ha.txns.len
  clear hW hB1 hB2 hO ha hb
  go_enter Tryz.func20, Tryz.ntmps20
  go_wp2_with fail
  rw [HW.out]
  refine (zints_any W _ _ _ _ _ _ _ _ HA.out.slots HB.out.slots).mono ?_
  rintro e w1 ⟨hb, ho1⟩
  obtain ⟨c, rfl, hc⟩ := hb.ex
  have HO1 := hide (ho1)
  have HC1 := hide hc
  clear hc hb ho1
  cases c
  case false =>
    go_wp2_with fail
    go_ret
    exact ⟨RB.no (fun h => by have := HC1.out.2 (by rw [h]); simp at this), o2 HO.out HO1.out⟩
  have E11 := hide (HC1.out.1 rfl)
  have a12 := (HB1.out.more HO1.out).c12
  have b12 := (HB2.out.more HO1.out).c12
  go_wp2_with fail
  refine (zints_any _ _ _ _ _ _ _ _ _ (HA.out.go HO1.out).more (HB.out.go HO1.out).more).mono ?_
  rintro e w2 ⟨hb, ho2⟩
  obtain ⟨c, rfl, hc⟩ := hb.ex
  have HO2 := hide (o2 HO1.out ho2)
  have HC2 := hide hc
  clear hc hb ho2 a12 b12
  cases c
  case false =>
    go_wp2_with fail
    go_ret
    exact ⟨RB.no (fun h => by have := HC2.out.2 (by rw [h]); simp at this), o2 HO.out HO2.out⟩
  have E12 := hide (HC2.out.1 rfl)
  have a13 := (HB1.out.more HO2.out).c13
  have b13 := (HB2.out.more HO2.out).c13
  have a14 := (HB1.out.more HO2.out).c14
  have b14 := (HB2.out.more HO2.out).c14
  have a15 := (HB1.out.more HO2.out).c15
  have b15 := (HB2.out.more HO2.out).c15
  by_cases n0 : a.images.length = b.images.length
  case neg =>
    have n0' : ((a.images.length : Int) != (b.images.length : Int)) = true := by simp; omega
    have HN : Hid (¬ a = b) := fun h => n0 (by rw [h])
    clear n0
    go_wp2_with fail
    go_ret
    exact ⟨RB.no HN.out, o2 HO.out HO2.out⟩
  have n0' : ((a.images.length : Int) != (b.images.length : Int)) = false := by simp; omega
  have HN0 := hide n0
  clear n0
  by_cases n1 : a.pages.length = b.pages.length
  case neg =>
    have n1' : ((a.pages.length : Int) != (b.pages.length : Int)) = true := by simp; omega
    have HN : Hid (¬ a = b) := fun h => n1 (by rw [h])
    clear n1
    go_wp2_with fail
    go_ret
    exact ⟨RB.no HN.out, o2 HO.out HO2.out⟩
  have n1' : ((a.pages.length : Int) != (b.pages.length : Int)) = false := by simp; omega
  have HN1 := hide n1
  clear n1
  by_cases n2 : a.txns.length = b.txns.length
  case neg =>
    have n2' : ((a.txns.length : Int) != (b.txns.length : Int)) = true := by simp; omega
    have HN : Hid (¬ a = b) := fun h => n2 (by rw [h])
    clear n2
    go_wp2_with fail
    go_ret
    exact ⟨RB.no HN.out, o2 HO.out HO2.out⟩
  have n2' : ((a.txns.length : Int) != (b.txns.length : Int)) = false := by simp; omega
  have HN2 := hide n2
  clear n2
  obtain ⟨T, hi⟩ := HA.out.images
  obtain ⟨T', hi'⟩ := HB.out.images
  have HI := hide hi
  have HI' := hide hi'
  clear hi hi'
  go_wp2_with fail
  clear a13 b13 a14 b14 a15 b15 x0 x1 x2 x3 x4 x5 x6 x7 x8 x9 x10 n0' n1' n2'
  go_loopw [5] (fun y wr => ∃ (j : Nat), j ≤ a.images.length ∧ y = .int .i64 (j : Int) ∧ Hid (a.images.take j = b.images.take j) ∧ Hid (Only (fun _ => False) W wr)) (fun y _ => a.images.length - (intOf y).toNat)
  case atStart => exact ⟨0, by omega, rfl, rfl, HO2⟩
  case round =>
    obtain ⟨j, hj, rfl, HQ, HX0⟩ := hrel
    by_cases hlt : j < a.images.length
    · have hlt' : j < b.images.length := by have := HN0.out; omega
      have hj1 : (j : Int) < (a.images.length : Int) := by omega
      have hj1' : (j : Int) < (b.images.length : Int) := by omega
      obtain ⟨o, e1, c1⟩ := HI.out.at_ (by omega)
      obtain ⟨D, aa, cc, kim, _⟩ := c1 j hlt
      obtain ⟨p, e1', c1'⟩ := HI'.out.at_ (by omega)
      obtain ⟨D', aa', cc', kim', _⟩ := c1' j hlt'
      obtain ⟨z, hz⟩ : ∃ z, a.images[j] = z := ⟨_, rfl⟩
      obtain ⟨y, hy⟩ : ∃ y, b.images[j] = y := ⟨_, rfl⟩
      have HT : Hid (a.images.take (j + 1) = a.images.take j ++ [z]) := by unfold Hid; rw [List.take_succ_eq_append_getElem hlt, hz]
      have HT' : Hid (b.images.take (j + 1) = b.images.take j ++ [y]) := by unfold Hid; rw [List.take_succ_eq_append_getElem hlt', hy]
      have HNE : Hid (¬ z = y → ¬ a = b) := fun hzy h => hzy (by rw [← hz, ← hy]; simp [h])
      rw [hz] at kim
      rw [hy] at kim'
      have HL3 : Hid (L.b3 < W.heap.size) := HI.out.lt (by omega)
      have HM3 : Hid (M.b3 < W.heap.size) := HI'.out.lt (by omega)
      have KI : Hid (∀ X, Only (fun _ => False) W X → ImAt X L.b3 (o + j * 7) z D aa cc) := fun X hX => kim.kept HL3.out hX (fun h => h) (fun _ h => h)
      have KI' : Hid (∀ X, Only (fun _ => False) W X → ImAt X M.b3 (p + j * 7) y D' aa' cc') := fun X hX => kim'.kept HM3.out hX (fun h => h) (fun _ h => h)
      have KC : Hid (∀ X, Only (fun _ => False) W X → X.cell? ⟨w.heap.size, 13, none⟩ = some (.slice (some ⟨L.b3, o, none⟩) a.images.length L.c3)) := fun X hX => by rw [← e1]; exact (HB1.out.more hX).c13
      have KC' : Hid (∀ X, Only (fun _ => False) W X → X.cell? ⟨w.heap.size + 1, 13, none⟩ = some (.slice (some ⟨M.b3, p, none⟩) b.images.length M.c3)) := fun X hX => by rw [← e1']; exact (HB2.out.more hX).c13
      have ca := (HB1.out.more HX0.out).c13
      clear hz hy kim kim' c1 c1' e1 e1'
      by_cases hp : z.page = y.page
      · have hx : (z.page != y.page) = false := by simpa using hp
        have HP := hide hp
        clear hp
        obtain ⟨c, hc⟩ : ∃ c, decide (z.body.lsn = y.body.lsn ∧ z.body.kind = y.body.kind ∧ z.body.level = y.body.level ∧ z.body.right = y.body.right ∧ z.body.high = y.body.high ∧ z.body.items = y.body.items) = c := ⟨_, rfl⟩
        have HYS : Hid (∀ X, Hid (Only (fun _ => False) W X) → Calls Tryz.prog 35 #[.agg #[.int .i64 z.body.lsn, .int .i64 z.body.kind, .int .i64 z.body.level, .int .i64 z.body.right, .string z.body.high, .slice aa z.body.items.length cc], .agg #[.int .i64 y.body.lsn, .int .i64 y.body.kind, .int .i64 y.body.level, .int .i64 y.body.right, .string y.body.high, .slice aa' y.body.items.length cc']] X fun e w' => e = .returned (.bool c) ∧ Only (fun _ => False) W w') := by
          intro X hX
          rw [← hc]
          exact (ysame_any X _ _ _ _ _ _ _ _ _ _ D D' cc cc' aa aa' _ _ (KI.out X hX.out).strs (KI'.out X hX.out).strs).mono (fun e w' h => ⟨h.1, o2 hX.out h.2⟩)
        have HC := hide hc
        clear hc
        cases c
        case true =>
          have HZY : Hid (z = y) := im_ext HP.out (of_decide_eq_true HC.out)
          go_upto_region 8 with fail
          refine wp_region_noPanic ?_
          refine wp_region_held_drew (S := fun X => Only (fun _ => False) W X) (by kernel_rfl) (o2 HX0.out (Only.drew _ _)) (fun hHeld => ?_)
          refine wpAnyH_take (i := 0) (oi := { dst := some 131, op := Op.fieldAddr 37 (Operand.tmp 2) 13, type := 0, pos := "ref.go:205", after := #[], guard := none }) (v := .pointer (some ⟨w.heap.size, 13, none⟩)) rfl (by kernel_rfl) (by kernel_rfl) (by kernel_rfl) (fun _ _ _ h => h) (Or.inl ⟨by rfl, fun w' hSw => by clear hSw; go_simp⟩) (by assumption) ?_
          simp only [Act.put, List.setIfInBounds_toArray, List.set_cons_zero, List.set_cons_succ]
          refine wpAnyH_take (i := 2) (oi := { dst := some 133, op := Op.move (Operand.tmp 5), type := 3, pos := "ref.go:205", after := #[], guard := none }) (v := .int .i64 (j : Int)) rfl (by kernel_rfl) (by kernel_rfl) (by kernel_rfl) (fun _ _ _ h => h) (Or.inl ⟨by rfl, fun w' hSw => by clear hSw; go_simp⟩) (by assumption) ?_
          simp only [Act.put, List.setIfInBounds_toArray, List.set_cons_zero, List.set_cons_succ]
          refine wpAnyH_take (i := 6) (oi := { dst := some 137, op := Op.fieldAddr 37 (Operand.tmp 3) 13, type := 0, pos := "ref.go:205", after := #[], guard := none }) (v := .pointer (some ⟨w.heap.size + 1, 13, none⟩)) rfl (by kernel_rfl) (by kernel_rfl) (by kernel_rfl) (fun _ _ _ h => h) (Or.inl ⟨by rfl, fun w' hSw => by clear hSw; go_simp⟩) (by assumption) ?_
          simp only [Act.put, List.setIfInBounds_toArray, List.set_cons_zero, List.set_cons_succ]
          refine wpAnyH_take (i := 8) (oi := { dst := some 139, op := Op.move (Operand.tmp 5), type := 3, pos := "ref.go:205", after := #[], guard := none }) (v := .int .i64 (j : Int)) rfl (by kernel_rfl) (by kernel_rfl) (by kernel_rfl) (fun _ _ _ h => h) (Or.inl ⟨by rfl, fun w' hSw => by clear hSw; go_simp⟩) (by assumption) ?_
          simp only [Act.put, List.setIfInBounds_toArray, List.set_cons_zero, List.set_cons_succ]
          refine wpAnyH_take (i := 1) (oi := { dst := some 132, op := Op.load 33 (Operand.tmp 131), type := 33, pos := "ref.go:205", after := #[{ on := 0, ground := Ground.data }], guard := none }) (v := .slice (some ⟨L.b3, o, none⟩) a.images.length L.c3) rfl (by kernel_rfl) (by kernel_rfl) (by kernel_rfl) (fun _ _ _ h => h) (yieldsIf_load_cell (by rfl) 33 _ rfl _ rfl (fun W hW => KC.out W hW) (fun W hc => ld_images hc)) (by assumption) ?_
          simp only [Act.put, List.setIfInBounds_toArray, List.set_cons_zero, List.set_cons_succ]
          refine wpAnyH_take (i := 7) (oi := { dst := some 138, op := Op.load 33 (Operand.tmp 137), type := 33, pos := "ref.go:205", after := #[{ on := 6, ground := Ground.data }], guard := none }) (v := .slice (some ⟨M.b3, p, none⟩) b.images.length M.c3) rfl (by kernel_rfl) (by kernel_rfl) (by kernel_rfl) (fun _ _ _ h => h) (yieldsIf_load_cell (by rfl) 33 _ rfl _ rfl (fun W hW => KC'.out W hW) (fun W hc => ld_images hc)) (by assumption) ?_
          simp only [Act.put, List.setIfInBounds_toArray, List.set_cons_zero, List.set_cons_succ]
          refine wpAnyH_take (i := 3) (oi := { dst := some 134, op := Op.indexAddr 33 (Operand.tmp 132) (Operand.tmp 133), type := 0, pos := "ref.go:205", after := #[{ on := 1, ground := Ground.data }, { on := 2, ground := Ground.data }], guard := none }) (v := .pointer (some ⟨L.b3, o + j * 7, none⟩)) rfl (by kernel_rfl) (by kernel_rfl) (by kernel_rfl) (fun _ _ _ h => h) (Or.inl ⟨by rfl, fun w' hSw => by clear hSw; go_simp⟩) (by assumption) ?_
          simp only [Act.put, List.setIfInBounds_toArray, List.set_cons_zero, List.set_cons_succ]
          refine wpAnyH_take (i := 9) (oi := { dst := some 140, op := Op.indexAddr 33 (Operand.tmp 138) (Operand.tmp 139), type := 0, pos := "ref.go:205", after := #[{ on := 7, ground := Ground.data }, { on := 8, ground := Ground.data }], guard := none }) (v := .pointer (some ⟨M.b3, p + j * 7, none⟩)) rfl (by kernel_rfl) (by kernel_rfl) (by kernel_rfl) (fun _ _ _ h => h) (Or.inl ⟨by rfl, fun w' hSw => by clear hSw; go_simp⟩) (by assumption) ?_
          simp only [Act.put, List.setIfInBounds_toArray, List.set_cons_zero, List.set_cons_succ]
          refine wpAnyH_take (i := 4) (oi := { dst := some 135, op := Op.fieldAddr 79 (Operand.tmp 134) 0, type := 0, pos := "ref.go:205", after := #[{ on := 3, ground := Ground.data }], guard := none }) (v := .pointer (some ⟨L.b3, o + j * 7, none⟩)) rfl (by kernel_rfl) (by kernel_rfl) (by kernel_rfl) (fun _ _ _ h => h) (Or.inl ⟨by rfl, fun w' hSw => by clear hSw; go_simp⟩) (by assumption) ?_
          simp only [Act.put, List.setIfInBounds_toArray, List.set_cons_zero, List.set_cons_succ]
          refine wpAnyH_take (i := 10) (oi := { dst := some 141, op := Op.fieldAddr 79 (Operand.tmp 140) 0, type := 0, pos := "ref.go:205", after := #[{ on := 9, ground := Ground.data }], guard := none }) (v := .pointer (some ⟨M.b3, p + j * 7, none⟩)) rfl (by kernel_rfl) (by kernel_rfl) (by kernel_rfl) (fun _ _ _ h => h) (Or.inl ⟨by rfl, fun w' hSw => by clear hSw; go_simp⟩) (by assumption) ?_
          simp only [Act.put, List.setIfInBounds_toArray, List.set_cons_zero, List.set_cons_succ]
          refine wpAnyH_take (i := 5) (oi := { dst := some 136, op := Op.load 3 (Operand.tmp 135), type := 3, pos := "ref.go:205", after := #[{ on := 4, ground := Ground.data }], guard := none }) (v := .int .i64 z.page) rfl (by kernel_rfl) (by kernel_rfl) (by kernel_rfl) (fun _ _ _ h => h) (yieldsIf_load_cell (by rfl) 3 _ rfl _ rfl (fun W hW => (KI.out W hW).c0) (fun W hc => ld_int hc)) (by assumption) ?_
          simp only [Act.put, List.setIfInBounds_toArray, List.set_cons_zero, List.set_cons_succ]
          refine wpAnyH_take (i := 11) (oi := { dst := some 142, op := Op.load 3 (Operand.tmp 141), type := 3, pos := "ref.go:205", after := #[{ on := 10, ground := Ground.data }], guard := none }) (v := .int .i64 y.page) rfl (by kernel_rfl) (by kernel_rfl) (by kernel_rfl) (fun _ _ _ h => h) (yieldsIf_load_cell (by rfl) 3 _ rfl _ rfl (fun W hW => (KI'.out W hW).c0) (fun W hc => ld_int hc)) (by assumption) ?_
          simp only [Act.put, List.setIfInBounds_toArray, List.set_cons_zero, List.set_cons_succ]
          refine wpAnyH_take (i := 12) (oi := { dst := some 143, op := Op.binOp BinOp.neq 3 (Operand.tmp 136) (Operand.tmp 142) 3, type := 4, pos := "ref.go:205", after := #[{ on := 5, ground := Ground.data }, { on := 11, ground := Ground.data }], guard := none }) (v := .bool false) rfl (by kernel_rfl) (by kernel_rfl) (by kernel_rfl) (fun _ _ _ h => h) (Or.inl ⟨by rfl, fun w' hSw => by clear hSw; go_simp⟩) (by assumption) ?_
          simp only [Act.put, List.setIfInBounds_toArray, List.set_cons_zero, List.set_cons_succ]
          refine wpAnyH_take (i := 13) (oi := { dst := some 144, op := Op.move (Operand.tmp 143), type := 4, pos := "ref.go:205", after := #[{ on := 12, ground := Ground.data }], guard := none }) (v := .bool false) rfl (by kernel_rfl) (by kernel_rfl) (by kernel_rfl) (fun _ _ _ h => h) (Or.inl ⟨by rfl, fun w' hSw => by clear hSw; go_simp⟩) (by assumption) ?_
          simp only [Act.put, List.setIfInBounds_toArray, List.set_cons_zero, List.set_cons_succ]
          refine wpAnyH_take (i := 14) (oi := { dst := some 145, op := Op.fieldAddr 37 (Operand.tmp 2) 13, type := 0, pos := "ref.go:205", after := #[{ on := 13, ground := Ground.guard }], guard := some (13, false) }) (v := .pointer (some ⟨w.heap.size, 13, none⟩)) rfl (by kernel_rfl) (by kernel_rfl) (by kernel_rfl) (fun _ _ _ h => h) (Or.inl ⟨by rfl, fun w' hSw => by clear hSw; go_simp⟩) (by assumption) ?_
          simp only [Act.put, List.setIfInBounds_toArray, List.set_cons_zero, List.set_cons_succ]
          refine wpAnyH_take (i := 16) (oi := { dst := some 147, op := Op.move (Operand.tmp 5), type := 3, pos := "ref.go:205", after := #[{ on := 13, ground := Ground.guard }], guard := some (13, false) }) (v := .int .i64 (j : Int)) rfl (by kernel_rfl) (by kernel_rfl) (by kernel_rfl) (fun _ _ _ h => h) (Or.inl ⟨by rfl, fun w' hSw => by clear hSw; go_simp⟩) (by assumption) ?_
          simp only [Act.put, List.setIfInBounds_toArray, List.set_cons_zero, List.set_cons_succ]
          refine wpAnyH_take (i := 20) (oi := { dst := some 151, op := Op.fieldAddr 37 (Operand.tmp 3) 13, type := 0, pos := "ref.go:205", after := #[{ on := 13, ground := Ground.guard }], guard := some (13, false) }) (v := .pointer (some ⟨w.heap.size + 1, 13, none⟩)) rfl (by kernel_rfl) (by kernel_rfl) (by kernel_rfl) (fun _ _ _ h => h) (Or.inl ⟨by rfl, fun w' hSw => by clear hSw; go_simp⟩) (by assumption) ?_
          simp only [Act.put, List.setIfInBounds_toArray, List.set_cons_zero, List.set_cons_succ]
          refine wpAnyH_take (i := 22) (oi := { dst := some 153, op := Op.move (Operand.tmp 5), type := 3, pos := "ref.go:205", after := #[{ on := 13, ground := Ground.guard }], guard := some (13, false) }) (v := .int .i64 (j : Int)) rfl (by kernel_rfl) (by kernel_rfl) (by kernel_rfl) (fun _ _ _ h => h) (Or.inl ⟨by rfl, fun w' hSw => by clear hSw; go_simp⟩) (by assumption) ?_
          simp only [Act.put, List.setIfInBounds_toArray, List.set_cons_zero, List.set_cons_succ]
          refine wpAnyH_take (i := 15) (oi := { dst := some 146, op := Op.load 33 (Operand.tmp 145), type := 33, pos := "ref.go:205", after := #[{ on := 14, ground := Ground.data }, { on := 13, ground := Ground.guard }], guard := some (13, false) }) (v := .slice (some ⟨L.b3, o, none⟩) a.images.length L.c3) rfl (by kernel_rfl) (by kernel_rfl) (by kernel_rfl) (fun _ _ _ h => h) (yieldsIf_load_cell (by rfl) 33 _ rfl _ rfl (fun W hW => KC.out W hW) (fun W hc => ld_images hc)) (by assumption) ?_
          simp only [Act.put, List.setIfInBounds_toArray, List.set_cons_zero, List.set_cons_succ]
          refine wpAnyH_take (i := 21) (oi := { dst := some 152, op := Op.load 33 (Operand.tmp 151), type := 33, pos := "ref.go:205", after := #[{ on := 20, ground := Ground.data }, { on := 13, ground := Ground.guard }], guard := some (13, false) }) (v := .slice (some ⟨M.b3, p, none⟩) b.images.length M.c3) rfl (by kernel_rfl) (by kernel_rfl) (by kernel_rfl) (fun _ _ _ h => h) (yieldsIf_load_cell (by rfl) 33 _ rfl _ rfl (fun W hW => KC'.out W hW) (fun W hc => ld_images hc)) (by assumption) ?_
          simp only [Act.put, List.setIfInBounds_toArray, List.set_cons_zero, List.set_cons_succ]
          refine wpAnyH_take (i := 17) (oi := { dst := some 148, op := Op.indexAddr 33 (Operand.tmp 146) (Operand.tmp 147), type := 0, pos := "ref.go:205", after := #[{ on := 15, ground := Ground.data }, { on := 16, ground := Ground.data }, { on := 13, ground := Ground.guard }], guard := some (13, false) }) (v := .pointer (some ⟨L.b3, o + j * 7, none⟩)) rfl (by kernel_rfl) (by kernel_rfl) (by kernel_rfl) (fun _ _ _ h => h) (Or.inl ⟨by rfl, fun w' hSw => by clear hSw; go_simp⟩) (by assumption) ?_
          simp only [Act.put, List.setIfInBounds_toArray, List.set_cons_zero, List.set_cons_succ]
          refine wpAnyH_take (i := 23) (oi := { dst := some 154, op := Op.indexAddr 33 (Operand.tmp 152) (Operand.tmp 153), type := 0, pos := "ref.go:205", after := #[{ on := 21, ground := Ground.data }, { on := 22, ground := Ground.data }, { on := 13, ground := Ground.guard }], guard := some (13, false) }) (v := .pointer (some ⟨M.b3, p + j * 7, none⟩)) rfl (by kernel_rfl) (by kernel_rfl) (by kernel_rfl) (fun _ _ _ h => h) (Or.inl ⟨by rfl, fun w' hSw => by clear hSw; go_simp⟩) (by assumption) ?_
          simp only [Act.put, List.setIfInBounds_toArray, List.set_cons_zero, List.set_cons_succ]
          refine wpAnyH_take (i := 18) (oi := { dst := some 149, op := Op.fieldAddr 79 (Operand.tmp 148) 1, type := 0, pos := "ref.go:205", after := #[{ on := 17, ground := Ground.data }, { on := 13, ground := Ground.guard }], guard := some (13, false) }) (v := .pointer (some ⟨L.b3, o + j * 7 + 1, none⟩)) rfl (by kernel_rfl) (by kernel_rfl) (by kernel_rfl) (fun _ _ _ h => h) (Or.inl ⟨by rfl, fun w' hSw => by clear hSw; go_simp⟩) (by assumption) ?_
          simp only [Act.put, List.setIfInBounds_toArray, List.set_cons_zero, List.set_cons_succ]
          refine wpAnyH_take (i := 24) (oi := { dst := some 155, op := Op.fieldAddr 79 (Operand.tmp 154) 1, type := 0, pos := "ref.go:205", after := #[{ on := 23, ground := Ground.data }, { on := 13, ground := Ground.guard }], guard := some (13, false) }) (v := .pointer (some ⟨M.b3, p + j * 7 + 1, none⟩)) rfl (by kernel_rfl) (by kernel_rfl) (by kernel_rfl) (fun _ _ _ h => h) (Or.inl ⟨by rfl, fun w' hSw => by clear hSw; go_simp⟩) (by assumption) ?_
          simp only [Act.put, List.setIfInBounds_toArray, List.set_cons_zero, List.set_cons_succ]
          refine wpAnyH_take (i := 19) (oi := { dst := some 150, op := Op.load 77 (Operand.tmp 149), type := 77, pos := "ref.go:205", after := #[{ on := 18, ground := Ground.data }, { on := 13, ground := Ground.guard }], guard := some (13, false) }) (v := .agg #[.int .i64 z.body.lsn, .int .i64 z.body.kind, .int .i64 z.body.level, .int .i64 z.body.right, .string z.body.high, .slice aa z.body.items.length cc]) rfl (by kernel_rfl) (by kernel_rfl) (by kernel_rfl) (fun _ _ _ h => h) (yieldsIf_load_im (by rfl) _ rfl rfl (fun W hW => KI.out W hW)) (by assumption) ?_
          simp only [Act.put, List.setIfInBounds_toArray, List.set_cons_zero, List.set_cons_succ]
          refine wpAnyH_take (i := 25) (oi := { dst := some 156, op := Op.load 77 (Operand.tmp 155), type := 77, pos := "ref.go:205", after := #[{ on := 24, ground := Ground.data }, { on := 13, ground := Ground.guard }], guard := some (13, false) }) (v := .agg #[.int .i64 y.body.lsn, .int .i64 y.body.kind, .int .i64 y.body.level, .int .i64 y.body.right, .string y.body.high, .slice aa' y.body.items.length cc']) rfl (by kernel_rfl) (by kernel_rfl) (by kernel_rfl) (fun _ _ _ h => h) (yieldsIf_load_im (by rfl) _ rfl rfl (fun W hW => KI'.out W hW)) (by assumption) ?_
          simp only [Act.put, List.setIfInBounds_toArray, List.set_cons_zero, List.set_cons_succ]
          refine wpAnyH_ready (rs := [26]) (by kernel_rfl) (by simp) ?_
          refine AllReadyH.cons (o := { dst := some 157, op := Op.call { callee := Callee.value (Operand.func 35), args := #[Operand.tmp 150, Operand.tmp 156], argTypes := #[77, 77] }, type := 4, pos := "ref.go:205", after := #[{ on := 19, ground := Ground.data }, { on := 25, ground := Ground.data }, { on := 13, ground := Ground.chain }, { on := 13, ground := Ground.guard }], guard := some (13, false) }) rfl (fun K hK => ?_) (AllReadyH.nil)
          go_simp
          refine (HYS.out _ (hide hHeld)).mono ?_
          rintro e x1 ⟨rfl, hx1⟩
          have HX9 := hide hx1
          clear hx1
          refine hK.out _ _ (HX9.out) (fun hHeld => ?_)
          clear hK K
          try simp only [Act.put, List.setIfInBounds_toArray, List.set_cons_zero, List.set_cons_succ]
          refine wpAnyH_take (i := 27) (oi := { dst := some 158, op := Op.unOp UnOp.not 4 (Operand.tmp 157), type := 4, pos := "ref.go:205", after := #[{ on := 26, ground := Ground.data }, { on := 13, ground := Ground.guard }], guard := some (13, false) }) (v := .bool false) rfl (by kernel_rfl) (by kernel_rfl) (by kernel_rfl) (fun _ _ _ h => h) (Or.inl ⟨by rfl, fun w' hSw => by clear hSw; go_simp⟩) (by assumption) ?_
          simp only [Act.put, List.setIfInBounds_toArray, List.set_cons_zero, List.set_cons_succ]
          refine wpAnyH_take (i := 28) (oi := { dst := some 159, op := Op.pick (Operand.tmp 144) (Operand.const (Value.bool true)) (Operand.tmp 158), type := 4, pos := "ref.go:205", after := #[{ on := 13, ground := Ground.data }, { on := 27, ground := Ground.data }], guard := none }) (v := .bool false) rfl (by kernel_rfl) (by kernel_rfl) (by kernel_rfl) (fun _ _ _ h => h) (Or.inl ⟨by rfl, fun w' hSw => by clear hSw; go_simp⟩) (by assumption) ?_
          simp only [Act.put, List.setIfInBounds_toArray, List.set_cons_zero, List.set_cons_succ]
          refine wpAnyH_done (by kernel_rfl) ?_ _
          refine NoPanic.normal ?_
          go_wp2_with fail
          go_roundw
          case rel => exact ⟨j + 1, by omega, by go_num, (by unfold Hid; rw [HT.out, HT'.out, HQ.out, HZY.out]), HX9⟩
          case measure => simp [intOf]; omega
        case false =>
          have HN : Hid (¬ a = b) := HNE.out (fun h => of_decide_eq_false HC.out (by subst h; exact ⟨rfl, rfl, rfl, rfl, rfl, rfl⟩))
          go_upto_region 8 with fail
          refine wp_region_noPanic ?_
          refine wp_region_held_drew (S := fun X => Only (fun _ => False) W X) (by kernel_rfl) (o2 HX0.out (Only.drew _ _)) (fun hHeld => ?_)
          refine wpAnyH_take (i := 0) (oi := { dst := some 131, op := Op.fieldAddr 37 (Operand.tmp 2) 13, type := 0, pos := "ref.go:205", after := #[], guard := none }) (v := .pointer (some ⟨w.heap.size, 13, none⟩)) rfl (by kernel_rfl) (by kernel_rfl) (by kernel_rfl) (fun _ _ _ h => h) (Or.inl ⟨by rfl, fun w' hSw => by clear hSw; go_simp⟩) (by assumption) ?_
          simp only [Act.put, List.setIfInBounds_toArray, List.set_cons_zero, List.set_cons_succ]
          refine wpAnyH_take (i := 2) (oi := { dst := some 133, op := Op.move (Operand.tmp 5), type := 3, pos := "ref.go:205", after := #[], guard := none }) (v := .int .i64 (j : Int)) rfl (by kernel_rfl) (by kernel_rfl) (by kernel_rfl) (fun _ _ _ h => h) (Or.inl ⟨by rfl, fun w' hSw => by clear hSw; go_simp⟩) (by assumption) ?_
          simp only [Act.put, List.setIfInBounds_toArray, List.set_cons_zero, List.set_cons_succ]
          refine wpAnyH_take (i := 6) (oi := { dst := some 137, op := Op.fieldAddr 37 (Operand.tmp 3) 13, type := 0, pos := "ref.go:205", after := #[], guard := none }) (v := .pointer (some ⟨w.heap.size + 1, 13, none⟩)) rfl (by kernel_rfl) (by kernel_rfl) (by kernel_rfl) (fun _ _ _ h => h) (Or.inl ⟨by rfl, fun w' hSw => by clear hSw; go_simp⟩) (by assumption) ?_
          simp only [Act.put, List.setIfInBounds_toArray, List.set_cons_zero, List.set_cons_succ]
          refine wpAnyH_take (i := 8) (oi := { dst := some 139, op := Op.move (Operand.tmp 5), type := 3, pos := "ref.go:205", after := #[], guard := none }) (v := .int .i64 (j : Int)) rfl (by kernel_rfl) (by kernel_rfl) (by kernel_rfl) (fun _ _ _ h => h) (Or.inl ⟨by rfl, fun w' hSw => by clear hSw; go_simp⟩) (by assumption) ?_
          simp only [Act.put, List.setIfInBounds_toArray, List.set_cons_zero, List.set_cons_succ]
          refine wpAnyH_take (i := 1) (oi := { dst := some 132, op := Op.load 33 (Operand.tmp 131), type := 33, pos := "ref.go:205", after := #[{ on := 0, ground := Ground.data }], guard := none }) (v := .slice (some ⟨L.b3, o, none⟩) a.images.length L.c3) rfl (by kernel_rfl) (by kernel_rfl) (by kernel_rfl) (fun _ _ _ h => h) (yieldsIf_load_cell (by rfl) 33 _ rfl _ rfl (fun W hW => KC.out W hW) (fun W hc => ld_images hc)) (by assumption) ?_
          simp only [Act.put, List.setIfInBounds_toArray, List.set_cons_zero, List.set_cons_succ]
          refine wpAnyH_take (i := 7) (oi := { dst := some 138, op := Op.load 33 (Operand.tmp 137), type := 33, pos := "ref.go:205", after := #[{ on := 6, ground := Ground.data }], guard := none }) (v := .slice (some ⟨M.b3, p, none⟩) b.images.length M.c3) rfl (by kernel_rfl) (by kernel_rfl) (by kernel_rfl) (fun _ _ _ h => h) (yieldsIf_load_cell (by rfl) 33 _ rfl _ rfl (fun W hW => KC'.out W hW) (fun W hc => ld_images hc)) (by assumption) ?_
          simp only [Act.put, List.setIfInBounds_toArray, List.set_cons_zero, List.set_cons_succ]
          refine wpAnyH_take (i := 3) (oi := { dst := some 134, op := Op.indexAddr 33 (Operand.tmp 132) (Operand.tmp 133), type := 0, pos := "ref.go:205", after := #[{ on := 1, ground := Ground.data }, { on := 2, ground := Ground.data }], guard := none }) (v := .pointer (some ⟨L.b3, o + j * 7, none⟩)) rfl (by kernel_rfl) (by kernel_rfl) (by kernel_rfl) (fun _ _ _ h => h) (Or.inl ⟨by rfl, fun w' hSw => by clear hSw; go_simp⟩) (by assumption) ?_
          simp only [Act.put, List.setIfInBounds_toArray, List.set_cons_zero, List.set_cons_succ]
          refine wpAnyH_take (i := 9) (oi := { dst := some 140, op := Op.indexAddr 33 (Operand.tmp 138) (Operand.tmp 139), type := 0, pos := "ref.go:205", after := #[{ on := 7, ground := Ground.data }, { on := 8, ground := Ground.data }], guard := none }) (v := .pointer (some ⟨M.b3, p + j * 7, none⟩)) rfl (by kernel_rfl) (by kernel_rfl) (by kernel_rfl) (fun _ _ _ h => h) (Or.inl ⟨by rfl, fun w' hSw => by clear hSw; go_simp⟩) (by assumption) ?_
          simp only [Act.put, List.setIfInBounds_toArray, List.set_cons_zero, List.set_cons_succ]
          refine wpAnyH_take (i := 4) (oi := { dst := some 135, op := Op.fieldAddr 79 (Operand.tmp 134) 0, type := 0, pos := "ref.go:205", after := #[{ on := 3, ground := Ground.data }], guard := none }) (v := .pointer (some ⟨L.b3, o + j * 7, none⟩)) rfl (by kernel_rfl) (by kernel_rfl) (by kernel_rfl) (fun _ _ _ h => h) (Or.inl ⟨by rfl, fun w' hSw => by clear hSw; go_simp⟩) (by assumption) ?_
          simp only [Act.put, List.setIfInBounds_toArray, List.set_cons_zero, List.set_cons_succ]
          refine wpAnyH_take (i := 10) (oi := { dst := some 141, op := Op.fieldAddr 79 (Operand.tmp 140) 0, type := 0, pos := "ref.go:205", after := #[{ on := 9, ground := Ground.data }], guard := none }) (v := .pointer (some ⟨M.b3, p + j * 7, none⟩)) rfl (by kernel_rfl) (by kernel_rfl) (by kernel_rfl) (fun _ _ _ h => h) (Or.inl ⟨by rfl, fun w' hSw => by clear hSw; go_simp⟩) (by assumption) ?_
          simp only [Act.put, List.setIfInBounds_toArray, List.set_cons_zero, List.set_cons_succ]
          refine wpAnyH_take (i := 5) (oi := { dst := some 136, op := Op.load 3 (Operand.tmp 135), type := 3, pos := "ref.go:205", after := #[{ on := 4, ground := Ground.data }], guard := none }) (v := .int .i64 z.page) rfl (by kernel_rfl) (by kernel_rfl) (by kernel_rfl) (fun _ _ _ h => h) (yieldsIf_load_cell (by rfl) 3 _ rfl _ rfl (fun W hW => (KI.out W hW).c0) (fun W hc => ld_int hc)) (by assumption) ?_
          simp only [Act.put, List.setIfInBounds_toArray, List.set_cons_zero, List.set_cons_succ]
          refine wpAnyH_take (i := 11) (oi := { dst := some 142, op := Op.load 3 (Operand.tmp 141), type := 3, pos := "ref.go:205", after := #[{ on := 10, ground := Ground.data }], guard := none }) (v := .int .i64 y.page) rfl (by kernel_rfl) (by kernel_rfl) (by kernel_rfl) (fun _ _ _ h => h) (yieldsIf_load_cell (by rfl) 3 _ rfl _ rfl (fun W hW => (KI'.out W hW).c0) (fun W hc => ld_int hc)) (by assumption) ?_
          simp only [Act.put, List.setIfInBounds_toArray, List.set_cons_zero, List.set_cons_succ]
          refine wpAnyH_take (i := 12) (oi := { dst := some 143, op := Op.binOp BinOp.neq 3 (Operand.tmp 136) (Operand.tmp 142) 3, type := 4, pos := "ref.go:205", after := #[{ on := 5, ground := Ground.data }, { on := 11, ground := Ground.data }], guard := none }) (v := .bool false) rfl (by kernel_rfl) (by kernel_rfl) (by kernel_rfl) (fun _ _ _ h => h) (Or.inl ⟨by rfl, fun w' hSw => by clear hSw; go_simp⟩) (by assumption) ?_
          simp only [Act.put, List.setIfInBounds_toArray, List.set_cons_zero, List.set_cons_succ]
          refine wpAnyH_take (i := 13) (oi := { dst := some 144, op := Op.move (Operand.tmp 143), type := 4, pos := "ref.go:205", after := #[{ on := 12, ground := Ground.data }], guard := none }) (v := .bool false) rfl (by kernel_rfl) (by kernel_rfl) (by kernel_rfl) (fun _ _ _ h => h) (Or.inl ⟨by rfl, fun w' hSw => by clear hSw; go_simp⟩) (by assumption) ?_
          simp only [Act.put, List.setIfInBounds_toArray, List.set_cons_zero, List.set_cons_succ]
          refine wpAnyH_take (i := 14) (oi := { dst := some 145, op := Op.fieldAddr 37 (Operand.tmp 2) 13, type := 0, pos := "ref.go:205", after := #[{ on := 13, ground := Ground.guard }], guard := some (13, false) }) (v := .pointer (some ⟨w.heap.size, 13, none⟩)) rfl (by kernel_rfl) (by kernel_rfl) (by kernel_rfl) (fun _ _ _ h => h) (Or.inl ⟨by rfl, fun w' hSw => by clear hSw; go_simp⟩) (by assumption) ?_
          simp only [Act.put, List.setIfInBounds_toArray, List.set_cons_zero, List.set_cons_succ]
          refine wpAnyH_take (i := 16) (oi := { dst := some 147, op := Op.move (Operand.tmp 5), type := 3, pos := "ref.go:205", after := #[{ on := 13, ground := Ground.guard }], guard := some (13, false) }) (v := .int .i64 (j : Int)) rfl (by kernel_rfl) (by kernel_rfl) (by kernel_rfl) (fun _ _ _ h => h) (Or.inl ⟨by rfl, fun w' hSw => by clear hSw; go_simp⟩) (by assumption) ?_
          simp only [Act.put, List.setIfInBounds_toArray, List.set_cons_zero, List.set_cons_succ]
          refine wpAnyH_take (i := 20) (oi := { dst := some 151, op := Op.fieldAddr 37 (Operand.tmp 3) 13, type := 0, pos := "ref.go:205", after := #[{ on := 13, ground := Ground.guard }], guard := some (13, false) }) (v := .pointer (some ⟨w.heap.size + 1, 13, none⟩)) rfl (by kernel_rfl) (by kernel_rfl) (by kernel_rfl) (fun _ _ _ h => h) (Or.inl ⟨by rfl, fun w' hSw => by clear hSw; go_simp⟩) (by assumption) ?_
          simp only [Act.put, List.setIfInBounds_toArray, List.set_cons_zero, List.set_cons_succ]
          refine wpAnyH_take (i := 22) (oi := { dst := some 153, op := Op.move (Operand.tmp 5), type := 3, pos := "ref.go:205", after := #[{ on := 13, ground := Ground.guard }], guard := some (13, false) }) (v := .int .i64 (j : Int)) rfl (by kernel_rfl) (by kernel_rfl) (by kernel_rfl) (fun _ _ _ h => h) (Or.inl ⟨by rfl, fun w' hSw => by clear hSw; go_simp⟩) (by assumption) ?_
          simp only [Act.put, List.setIfInBounds_toArray, List.set_cons_zero, List.set_cons_succ]
          refine wpAnyH_take (i := 15) (oi := { dst := some 146, op := Op.load 33 (Operand.tmp 145), type := 33, pos := "ref.go:205", after := #[{ on := 14, ground := Ground.data }, { on := 13, ground := Ground.guard }], guard := some (13, false) }) (v := .slice (some ⟨L.b3, o, none⟩) a.images.length L.c3) rfl (by kernel_rfl) (by kernel_rfl) (by kernel_rfl) (fun _ _ _ h => h) (yieldsIf_load_cell (by rfl) 33 _ rfl _ rfl (fun W hW => KC.out W hW) (fun W hc => ld_images hc)) (by assumption) ?_
          simp only [Act.put, List.setIfInBounds_toArray, List.set_cons_zero, List.set_cons_succ]
          refine wpAnyH_take (i := 21) (oi := { dst := some 152, op := Op.load 33 (Operand.tmp 151), type := 33, pos := "ref.go:205", after := #[{ on := 20, ground := Ground.data }, { on := 13, ground := Ground.guard }], guard := some (13, false) }) (v := .slice (some ⟨M.b3, p, none⟩) b.images.length M.c3) rfl (by kernel_rfl) (by kernel_rfl) (by kernel_rfl) (fun _ _ _ h => h) (yieldsIf_load_cell (by rfl) 33 _ rfl _ rfl (fun W hW => KC'.out W hW) (fun W hc => ld_images hc)) (by assumption) ?_
          simp only [Act.put, List.setIfInBounds_toArray, List.set_cons_zero, List.set_cons_succ]
          refine wpAnyH_take (i := 17) (oi := { dst := some 148, op := Op.indexAddr 33 (Operand.tmp 146) (Operand.tmp 147), type := 0, pos := "ref.go:205", after := #[{ on := 15, ground := Ground.data }, { on := 16, ground := Ground.data }, { on := 13, ground := Ground.guard }], guard := some (13, false) }) (v := .pointer (some ⟨L.b3, o + j * 7, none⟩)) rfl (by kernel_rfl) (by kernel_rfl) (by kernel_rfl) (fun _ _ _ h => h) (Or.inl ⟨by rfl, fun w' hSw => by clear hSw; go_simp⟩) (by assumption) ?_
          simp only [Act.put, List.setIfInBounds_toArray, List.set_cons_zero, List.set_cons_succ]
          refine wpAnyH_take (i := 23) (oi := { dst := some 154, op := Op.indexAddr 33 (Operand.tmp 152) (Operand.tmp 153), type := 0, pos := "ref.go:205", after := #[{ on := 21, ground := Ground.data }, { on := 22, ground := Ground.data }, { on := 13, ground := Ground.guard }], guard := some (13, false) }) (v := .pointer (some ⟨M.b3, p + j * 7, none⟩)) rfl (by kernel_rfl) (by kernel_rfl) (by kernel_rfl) (fun _ _ _ h => h) (Or.inl ⟨by rfl, fun w' hSw => by clear hSw; go_simp⟩) (by assumption) ?_
          simp only [Act.put, List.setIfInBounds_toArray, List.set_cons_zero, List.set_cons_succ]
          refine wpAnyH_take (i := 18) (oi := { dst := some 149, op := Op.fieldAddr 79 (Operand.tmp 148) 1, type := 0, pos := "ref.go:205", after := #[{ on := 17, ground := Ground.data }, { on := 13, ground := Ground.guard }], guard := some (13, false) }) (v := .pointer (some ⟨L.b3, o + j * 7 + 1, none⟩)) rfl (by kernel_rfl) (by kernel_rfl) (by kernel_rfl) (fun _ _ _ h => h) (Or.inl ⟨by rfl, fun w' hSw => by clear hSw; go_simp⟩) (by assumption) ?_
          simp only [Act.put, List.setIfInBounds_toArray, List.set_cons_zero, List.set_cons_succ]
          refine wpAnyH_take (i := 24) (oi := { dst := some 155, op := Op.fieldAddr 79 (Operand.tmp 154) 1, type := 0, pos := "ref.go:205", after := #[{ on := 23, ground := Ground.data }, { on := 13, ground := Ground.guard }], guard := some (13, false) }) (v := .pointer (some ⟨M.b3, p + j * 7 + 1, none⟩)) rfl (by kernel_rfl) (by kernel_rfl) (by kernel_rfl) (fun _ _ _ h => h) (Or.inl ⟨by rfl, fun w' hSw => by clear hSw; go_simp⟩) (by assumption) ?_
          simp only [Act.put, List.setIfInBounds_toArray, List.set_cons_zero, List.set_cons_succ]
          refine wpAnyH_take (i := 19) (oi := { dst := some 150, op := Op.load 77 (Operand.tmp 149), type := 77, pos := "ref.go:205", after := #[{ on := 18, ground := Ground.data }, { on := 13, ground := Ground.guard }], guard := some (13, false) }) (v := .agg #[.int .i64 z.body.lsn, .int .i64 z.body.kind, .int .i64 z.body.level, .int .i64 z.body.right, .string z.body.high, .slice aa z.body.items.length cc]) rfl (by kernel_rfl) (by kernel_rfl) (by kernel_rfl) (fun _ _ _ h => h) (yieldsIf_load_im (by rfl) _ rfl rfl (fun W hW => KI.out W hW)) (by assumption) ?_
          simp only [Act.put, List.setIfInBounds_toArray, List.set_cons_zero, List.set_cons_succ]
          refine wpAnyH_take (i := 25) (oi := { dst := some 156, op := Op.load 77 (Operand.tmp 155), type := 77, pos := "ref.go:205", after := #[{ on := 24, ground := Ground.data }, { on := 13, ground := Ground.guard }], guard := some (13, false) }) (v := .agg #[.int .i64 y.body.lsn, .int .i64 y.body.kind, .int .i64 y.body.level, .int .i64 y.body.right, .string y.body.high, .slice aa' y.body.items.length cc']) rfl (by kernel_rfl) (by kernel_rfl) (by kernel_rfl) (fun _ _ _ h => h) (yieldsIf_load_im (by rfl) _ rfl rfl (fun W hW => KI'.out W hW)) (by assumption) ?_
          simp only [Act.put, List.setIfInBounds_toArray, List.set_cons_zero, List.set_cons_succ]
          refine wpAnyH_ready (rs := [26]) (by kernel_rfl) (by simp) ?_
          refine AllReadyH.cons (o := { dst := some 157, op := Op.call { callee := Callee.value (Operand.func 35), args := #[Operand.tmp 150, Operand.tmp 156], argTypes := #[77, 77] }, type := 4, pos := "ref.go:205", after := #[{ on := 19, ground := Ground.data }, { on := 25, ground := Ground.data }, { on := 13, ground := Ground.chain }, { on := 13, ground := Ground.guard }], guard := some (13, false) }) rfl (fun K hK => ?_) (AllReadyH.nil)
          go_simp
          refine (HYS.out _ (hide hHeld)).mono ?_
          rintro e x1 ⟨rfl, hx1⟩
          have HX9 := hide hx1
          clear hx1
          refine hK.out _ _ (HX9.out) (fun hHeld => ?_)
          clear hK K
          try simp only [Act.put, List.setIfInBounds_toArray, List.set_cons_zero, List.set_cons_succ]
          refine wpAnyH_take (i := 27) (oi := { dst := some 158, op := Op.unOp UnOp.not 4 (Operand.tmp 157), type := 4, pos := "ref.go:205", after := #[{ on := 26, ground := Ground.data }, { on := 13, ground := Ground.guard }], guard := some (13, false) }) (v := .bool true) rfl (by kernel_rfl) (by kernel_rfl) (by kernel_rfl) (fun _ _ _ h => h) (Or.inl ⟨by rfl, fun w' hSw => by clear hSw; go_simp⟩) (by assumption) ?_
          simp only [Act.put, List.setIfInBounds_toArray, List.set_cons_zero, List.set_cons_succ]
          refine wpAnyH_take (i := 28) (oi := { dst := some 159, op := Op.pick (Operand.tmp 144) (Operand.const (Value.bool true)) (Operand.tmp 158), type := 4, pos := "ref.go:205", after := #[{ on := 13, ground := Ground.data }, { on := 27, ground := Ground.data }], guard := none }) (v := .bool true) rfl (by kernel_rfl) (by kernel_rfl) (by kernel_rfl) (fun _ _ _ h => h) (Or.inl ⟨by rfl, fun w' hSw => by clear hSw; go_simp⟩) (by assumption) ?_
          simp only [Act.put, List.setIfInBounds_toArray, List.set_cons_zero, List.set_cons_succ]
          refine wpAnyH_done (by kernel_rfl) ?_ _
          refine NoPanic.normal ?_
          go_wp2_with fail
          go_ret
          exact ⟨RB.no HN.out, o2 HO.out HX9.out⟩
      · have hx : (z.page != y.page) = true := by simpa using hp
        have HN : Hid (¬ a = b) := HNE.out (fun h => hp (by rw [h]))
        clear hp
        go_upto_region 8 with fail
        refine wp_region_noPanic ?_
        refine wp_region_held_drew (S := fun X => Only (fun _ => False) W X) (by kernel_rfl) (o2 HX0.out (Only.drew _ _)) (fun hHeld => ?_)
        refine wpAnyH_take (i := 0) (oi := { dst := some 131, op := Op.fieldAddr 37 (Operand.tmp 2) 13, type := 0, pos := "ref.go:205", after := #[], guard := none }) (v := .pointer (some ⟨w.heap.size, 13, none⟩)) rfl (by kernel_rfl) (by kernel_rfl) (by kernel_rfl) (fun _ _ _ h => h) (Or.inl ⟨by rfl, fun w' hSw => by clear hSw; go_simp⟩) (by assumption) ?_
        simp only [Act.put, List.setIfInBounds_toArray, List.set_cons_zero, List.set_cons_succ]
        refine wpAnyH_take (i := 2) (oi := { dst := some 133, op := Op.move (Operand.tmp 5), type := 3, pos := "ref.go:205", after := #[], guard := none }) (v := .int .i64 (j : Int)) rfl (by kernel_rfl) (by kernel_rfl) (by kernel_rfl) (fun _ _ _ h => h) (Or.inl ⟨by rfl, fun w' hSw => by clear hSw; go_simp⟩) (by assumption) ?_
        simp only [Act.put, List.setIfInBounds_toArray, List.set_cons_zero, List.set_cons_succ]
        refine wpAnyH_take (i := 6) (oi := { dst := some 137, op := Op.fieldAddr 37 (Operand.tmp 3) 13, type := 0, pos := "ref.go:205", after := #[], guard := none }) (v := .pointer (some ⟨w.heap.size + 1, 13, none⟩)) rfl (by kernel_rfl) (by kernel_rfl) (by kernel_rfl) (fun _ _ _ h => h) (Or.inl ⟨by rfl, fun w' hSw => by clear hSw; go_simp⟩) (by assumption) ?_
        simp only [Act.put, List.setIfInBounds_toArray, List.set_cons_zero, List.set_cons_succ]
        refine wpAnyH_take (i := 8) (oi := { dst := some 139, op := Op.move (Operand.tmp 5), type := 3, pos := "ref.go:205", after := #[], guard := none }) (v := .int .i64 (j : Int)) rfl (by kernel_rfl) (by kernel_rfl) (by kernel_rfl) (fun _ _ _ h => h) (Or.inl ⟨by rfl, fun w' hSw => by clear hSw; go_simp⟩) (by assumption) ?_
        simp only [Act.put, List.setIfInBounds_toArray, List.set_cons_zero, List.set_cons_succ]
        refine wpAnyH_take (i := 1) (oi := { dst := some 132, op := Op.load 33 (Operand.tmp 131), type := 33, pos := "ref.go:205", after := #[{ on := 0, ground := Ground.data }], guard := none }) (v := .slice (some ⟨L.b3, o, none⟩) a.images.length L.c3) rfl (by kernel_rfl) (by kernel_rfl) (by kernel_rfl) (fun _ _ _ h => h) (yieldsIf_load_cell (by rfl) 33 _ rfl _ rfl (fun W hW => KC.out W hW) (fun W hc => ld_images hc)) (by assumption) ?_
        simp only [Act.put, List.setIfInBounds_toArray, List.set_cons_zero, List.set_cons_succ]
        refine wpAnyH_take (i := 7) (oi := { dst := some 138, op := Op.load 33 (Operand.tmp 137), type := 33, pos := "ref.go:205", after := #[{ on := 6, ground := Ground.data }], guard := none }) (v := .slice (some ⟨M.b3, p, none⟩) b.images.length M.c3) rfl (by kernel_rfl) (by kernel_rfl) (by kernel_rfl) (fun _ _ _ h => h) (yieldsIf_load_cell (by rfl) 33 _ rfl _ rfl (fun W hW => KC'.out W hW) (fun W hc => ld_images hc)) (by assumption) ?_
        simp only [Act.put, List.setIfInBounds_toArray, List.set_cons_zero, List.set_cons_succ]
        refine wpAnyH_take (i := 3) (oi := { dst := some 134, op := Op.indexAddr 33 (Operand.tmp 132) (Operand.tmp 133), type := 0, pos := "ref.go:205", after := #[{ on := 1, ground := Ground.data }, { on := 2, ground := Ground.data }], guard := none }) (v := .pointer (some ⟨L.b3, o + j * 7, none⟩)) rfl (by kernel_rfl) (by kernel_rfl) (by kernel_rfl) (fun _ _ _ h => h) (Or.inl ⟨by rfl, fun w' hSw => by clear hSw; go_simp⟩) (by assumption) ?_
        simp only [Act.put, List.setIfInBounds_toArray, List.set_cons_zero, List.set_cons_succ]
        refine wpAnyH_take (i := 9) (oi := { dst := some 140, op := Op.indexAddr 33 (Operand.tmp 138) (Operand.tmp 139), type := 0, pos := "ref.go:205", after := #[{ on := 7, ground := Ground.data }, { on := 8, ground := Ground.data }], guard := none }) (v := .pointer (some ⟨M.b3, p + j * 7, none⟩)) rfl (by kernel_rfl) (by kernel_rfl) (by kernel_rfl) (fun _ _ _ h => h) (Or.inl ⟨by rfl, fun w' hSw => by clear hSw; go_simp⟩) (by assumption) ?_
        simp only [Act.put, List.setIfInBounds_toArray, List.set_cons_zero, List.set_cons_succ]
        refine wpAnyH_take (i := 4) (oi := { dst := some 135, op := Op.fieldAddr 79 (Operand.tmp 134) 0, type := 0, pos := "ref.go:205", after := #[{ on := 3, ground := Ground.data }], guard := none }) (v := .pointer (some ⟨L.b3, o + j * 7, none⟩)) rfl (by kernel_rfl) (by kernel_rfl) (by kernel_rfl) (fun _ _ _ h => h) (Or.inl ⟨by rfl, fun w' hSw => by clear hSw; go_simp⟩) (by assumption) ?_
        simp only [Act.put, List.setIfInBounds_toArray, List.set_cons_zero, List.set_cons_succ]
        refine wpAnyH_take (i := 10) (oi := { dst := some 141, op := Op.fieldAddr 79 (Operand.tmp 140) 0, type := 0, pos := "ref.go:205", after := #[{ on := 9, ground := Ground.data }], guard := none }) (v := .pointer (some ⟨M.b3, p + j * 7, none⟩)) rfl (by kernel_rfl) (by kernel_rfl) (by kernel_rfl) (fun _ _ _ h => h) (Or.inl ⟨by rfl, fun w' hSw => by clear hSw; go_simp⟩) (by assumption) ?_
        simp only [Act.put, List.setIfInBounds_toArray, List.set_cons_zero, List.set_cons_succ]
        refine wpAnyH_take (i := 5) (oi := { dst := some 136, op := Op.load 3 (Operand.tmp 135), type := 3, pos := "ref.go:205", after := #[{ on := 4, ground := Ground.data }], guard := none }) (v := .int .i64 z.page) rfl (by kernel_rfl) (by kernel_rfl) (by kernel_rfl) (fun _ _ _ h => h) (yieldsIf_load_cell (by rfl) 3 _ rfl _ rfl (fun W hW => (KI.out W hW).c0) (fun W hc => ld_int hc)) (by assumption) ?_
        simp only [Act.put, List.setIfInBounds_toArray, List.set_cons_zero, List.set_cons_succ]
        refine wpAnyH_take (i := 11) (oi := { dst := some 142, op := Op.load 3 (Operand.tmp 141), type := 3, pos := "ref.go:205", after := #[{ on := 10, ground := Ground.data }], guard := none }) (v := .int .i64 y.page) rfl (by kernel_rfl) (by kernel_rfl) (by kernel_rfl) (fun _ _ _ h => h) (yieldsIf_load_cell (by rfl) 3 _ rfl _ rfl (fun W hW => (KI'.out W hW).c0) (fun W hc => ld_int hc)) (by assumption) ?_
        simp only [Act.put, List.setIfInBounds_toArray, List.set_cons_zero, List.set_cons_succ]
        refine wpAnyH_take (i := 12) (oi := { dst := some 143, op := Op.binOp BinOp.neq 3 (Operand.tmp 136) (Operand.tmp 142) 3, type := 4, pos := "ref.go:205", after := #[{ on := 5, ground := Ground.data }, { on := 11, ground := Ground.data }], guard := none }) (v := .bool true) rfl (by kernel_rfl) (by kernel_rfl) (by kernel_rfl) (fun _ _ _ h => h) (Or.inl ⟨by rfl, fun w' hSw => by clear hSw; go_simp⟩) (by assumption) ?_
        simp only [Act.put, List.setIfInBounds_toArray, List.set_cons_zero, List.set_cons_succ]
        refine wpAnyH_take (i := 13) (oi := { dst := some 144, op := Op.move (Operand.tmp 143), type := 4, pos := "ref.go:205", after := #[{ on := 12, ground := Ground.data }], guard := none }) (v := .bool true) rfl (by kernel_rfl) (by kernel_rfl) (by kernel_rfl) (fun _ _ _ h => h) (Or.inl ⟨by rfl, fun w' hSw => by clear hSw; go_simp⟩) (by assumption) ?_
        simp only [Act.put, List.setIfInBounds_toArray, List.set_cons_zero, List.set_cons_succ]
        refine wpAnyH_take (i := 14) (oi := { dst := some 145, op := Op.fieldAddr 37 (Operand.tmp 2) 13, type := 0, pos := "ref.go:205", after := #[{ on := 13, ground := Ground.guard }], guard := some (13, false) }) (v := undef) rfl (by kernel_rfl) (by kernel_rfl) (by kernel_rfl) (fun _ _ _ h => h) (Or.inr ⟨by rfl, rfl⟩) (by assumption) ?_
        simp only [Act.put, List.setIfInBounds_toArray, List.set_cons_zero, List.set_cons_succ]
        refine wpAnyH_take (i := 16) (oi := { dst := some 147, op := Op.move (Operand.tmp 5), type := 3, pos := "ref.go:205", after := #[{ on := 13, ground := Ground.guard }], guard := some (13, false) }) (v := undef) rfl (by kernel_rfl) (by kernel_rfl) (by kernel_rfl) (fun _ _ _ h => h) (Or.inr ⟨by rfl, rfl⟩) (by assumption) ?_
        simp only [Act.put, List.setIfInBounds_toArray, List.set_cons_zero, List.set_cons_succ]
        refine wpAnyH_take (i := 20) (oi := { dst := some 151, op := Op.fieldAddr 37 (Operand.tmp 3) 13, type := 0, pos := "ref.go:205", after := #[{ on := 13, ground := Ground.guard }], guard := some (13, false) }) (v := undef) rfl (by kernel_rfl) (by kernel_rfl) (by kernel_rfl) (fun _ _ _ h => h) (Or.inr ⟨by rfl, rfl⟩) (by assumption) ?_
        simp only [Act.put, List.setIfInBounds_toArray, List.set_cons_zero, List.set_cons_succ]
        refine wpAnyH_take (i := 22) (oi := { dst := some 153, op := Op.move (Operand.tmp 5), type := 3, pos := "ref.go:205", after := #[{ on := 13, ground := Ground.guard }], guard := some (13, false) }) (v := undef) rfl (by kernel_rfl) (by kernel_rfl) (by kernel_rfl) (fun _ _ _ h => h) (Or.inr ⟨by rfl, rfl⟩) (by assumption) ?_
        simp only [Act.put, List.setIfInBounds_toArray, List.set_cons_zero, List.set_cons_succ]
        refine wpAnyH_take (i := 15) (oi := { dst := some 146, op := Op.load 33 (Operand.tmp 145), type := 33, pos := "ref.go:205", after := #[{ on := 14, ground := Ground.data }, { on := 13, ground := Ground.guard }], guard := some (13, false) }) (v := undef) rfl (by kernel_rfl) (by kernel_rfl) (by kernel_rfl) (fun _ _ _ h => h) (Or.inr ⟨by rfl, rfl⟩) (by assumption) ?_
        simp only [Act.put, List.setIfInBounds_toArray, List.set_cons_zero, List.set_cons_succ]
        refine wpAnyH_take (i := 21) (oi := { dst := some 152, op := Op.load 33 (Operand.tmp 151), type := 33, pos := "ref.go:205", after := #[{ on := 20, ground := Ground.data }, { on := 13, ground := Ground.guard }], guard := some (13, false) }) (v := undef) rfl (by kernel_rfl) (by kernel_rfl) (by kernel_rfl) (fun _ _ _ h => h) (Or.inr ⟨by rfl, rfl⟩) (by assumption) ?_
        simp only [Act.put, List.setIfInBounds_toArray, List.set_cons_zero, List.set_cons_succ]
        refine wpAnyH_take (i := 17) (oi := { dst := some 148, op := Op.indexAddr 33 (Operand.tmp 146) (Operand.tmp 147), type := 0, pos := "ref.go:205", after := #[{ on := 15, ground := Ground.data }, { on := 16, ground := Ground.data }, { on := 13, ground := Ground.guard }], guard := some (13, false) }) (v := undef) rfl (by kernel_rfl) (by kernel_rfl) (by kernel_rfl) (fun _ _ _ h => h) (Or.inr ⟨by rfl, rfl⟩) (by assumption) ?_
        simp only [Act.put, List.setIfInBounds_toArray, List.set_cons_zero, List.set_cons_succ]
        refine wpAnyH_take (i := 23) (oi := { dst := some 154, op := Op.indexAddr 33 (Operand.tmp 152) (Operand.tmp 153), type := 0, pos := "ref.go:205", after := #[{ on := 21, ground := Ground.data }, { on := 22, ground := Ground.data }, { on := 13, ground := Ground.guard }], guard := some (13, false) }) (v := undef) rfl (by kernel_rfl) (by kernel_rfl) (by kernel_rfl) (fun _ _ _ h => h) (Or.inr ⟨by rfl, rfl⟩) (by assumption) ?_
        simp only [Act.put, List.setIfInBounds_toArray, List.set_cons_zero, List.set_cons_succ]
        refine wpAnyH_take (i := 18) (oi := { dst := some 149, op := Op.fieldAddr 79 (Operand.tmp 148) 1, type := 0, pos := "ref.go:205", after := #[{ on := 17, ground := Ground.data }, { on := 13, ground := Ground.guard }], guard := some (13, false) }) (v := undef) rfl (by kernel_rfl) (by kernel_rfl) (by kernel_rfl) (fun _ _ _ h => h) (Or.inr ⟨by rfl, rfl⟩) (by assumption) ?_
        simp only [Act.put, List.setIfInBounds_toArray, List.set_cons_zero, List.set_cons_succ]
        refine wpAnyH_take (i := 24) (oi := { dst := some 155, op := Op.fieldAddr 79 (Operand.tmp 154) 1, type := 0, pos := "ref.go:205", after := #[{ on := 23, ground := Ground.data }, { on := 13, ground := Ground.guard }], guard := some (13, false) }) (v := undef) rfl (by kernel_rfl) (by kernel_rfl) (by kernel_rfl) (fun _ _ _ h => h) (Or.inr ⟨by rfl, rfl⟩) (by assumption) ?_
        simp only [Act.put, List.setIfInBounds_toArray, List.set_cons_zero, List.set_cons_succ]
        refine wpAnyH_take (i := 19) (oi := { dst := some 150, op := Op.load 77 (Operand.tmp 149), type := 77, pos := "ref.go:205", after := #[{ on := 18, ground := Ground.data }, { on := 13, ground := Ground.guard }], guard := some (13, false) }) (v := undef) rfl (by kernel_rfl) (by kernel_rfl) (by kernel_rfl) (fun _ _ _ h => h) (Or.inr ⟨by rfl, rfl⟩) (by assumption) ?_
        simp only [Act.put, List.setIfInBounds_toArray, List.set_cons_zero, List.set_cons_succ]
        refine wpAnyH_take (i := 25) (oi := { dst := some 156, op := Op.load 77 (Operand.tmp 155), type := 77, pos := "ref.go:205", after := #[{ on := 24, ground := Ground.data }, { on := 13, ground := Ground.guard }], guard := some (13, false) }) (v := undef) rfl (by kernel_rfl) (by kernel_rfl) (by kernel_rfl) (fun _ _ _ h => h) (Or.inr ⟨by rfl, rfl⟩) (by assumption) ?_
        simp only [Act.put, List.setIfInBounds_toArray, List.set_cons_zero, List.set_cons_succ]
        refine wpAnyH_take (i := 26) (oi := { dst := some 157, op := Op.call { callee := Callee.value (Operand.func 35), args := #[Operand.tmp 150, Operand.tmp 156], argTypes := #[77, 77] }, type := 4, pos := "ref.go:205", after := #[{ on := 19, ground := Ground.data }, { on := 25, ground := Ground.data }, { on := 13, ground := Ground.chain }, { on := 13, ground := Ground.guard }], guard := some (13, false) }) (v := undef) rfl (by kernel_rfl) (by kernel_rfl) (by kernel_rfl) (fun _ _ _ h => h) (Or.inr ⟨by rfl, rfl⟩) (by assumption) ?_
        simp only [Act.put, List.setIfInBounds_toArray, List.set_cons_zero, List.set_cons_succ]
        refine wpAnyH_take (i := 27) (oi := { dst := some 158, op := Op.unOp UnOp.not 4 (Operand.tmp 157), type := 4, pos := "ref.go:205", after := #[{ on := 26, ground := Ground.data }, { on := 13, ground := Ground.guard }], guard := some (13, false) }) (v := undef) rfl (by kernel_rfl) (by kernel_rfl) (by kernel_rfl) (fun _ _ _ h => h) (Or.inr ⟨by rfl, rfl⟩) (by assumption) ?_
        simp only [Act.put, List.setIfInBounds_toArray, List.set_cons_zero, List.set_cons_succ]
        refine wpAnyH_take (i := 28) (oi := { dst := some 159, op := Op.pick (Operand.tmp 144) (Operand.const (Value.bool true)) (Operand.tmp 158), type := 4, pos := "ref.go:205", after := #[{ on := 13, ground := Ground.data }, { on := 27, ground := Ground.data }], guard := none }) (v := .bool true) rfl (by kernel_rfl) (by kernel_rfl) (by kernel_rfl) (fun _ _ _ h => h) (Or.inl ⟨by rfl, fun w' hSw => by clear hSw; go_simp⟩) (by assumption) ?_
        simp only [Act.put, List.setIfInBounds_toArray, List.set_cons_zero, List.set_cons_succ]
        refine wpAnyH_done (by kernel_rfl) ?_ _
        refine NoPanic.normal ?_
        have HX9 := hide hHeld
        go_wp2_with fail
        go_ret
        exact ⟨RB.no HN.out, o2 HO.out HX9.out⟩
    · have hj1 : ¬ (j : Int) < (a.images.length : Int) := by omega
      have e : a.images.take j = a.images := List.take_of_length_le (by omega)
      have e' : b.images.take j = b.images := List.take_of_length_le (by have := HN0.out; omega)
      rw [e, e'] at HQ
      have EE0 := hide HQ.out
      have ca := (HB1.out.more HX0.out).c13
      clear HQ e e'
      go_wp2_with fail
      clear ca
      go_loopw [6] (fun y wr => ∃ (j : Nat), j ≤ a.pages.length ∧ y = .int .i64 (j : Int) ∧ Hid (a.pages.take j = b.pages.take j) ∧ Hid (Only (fun _ => False) W wr)) (fun y _ => a.pages.length - (intOf y).toNat)
      case atStart => exact ⟨0, by omega, rfl, rfl, HX0⟩
      case round =>
        obtain ⟨j, hj, rfl, HQ, HX1⟩ := hrel
        by_cases hlt : j < a.pages.length
        · have hlt' : j < b.pages.length := by have := HN1.out; omega
          have hj1 : (j : Int) < (a.pages.length : Int) := by omega
          have hj1' : (j : Int) < (b.pages.length : Int) := by omega
          obtain ⟨o, e1, c1⟩ := (HA.out.go HX1.out).pages.at_ (by omega)
          obtain ⟨p, e1', c1'⟩ := (HB.out.go HX1.out).pages.at_ (by omega)
          obtain ⟨d0, d1⟩ := c1 j hlt
          obtain ⟨d0', d1'⟩ := c1' j hlt'
          obtain ⟨z, hz⟩ : ∃ z, a.pages[j] = z := ⟨_, rfl⟩
          obtain ⟨y, hy⟩ : ∃ y, b.pages[j] = y := ⟨_, rfl⟩
          have HT : Hid (a.pages.take (j + 1) = a.pages.take j ++ [z]) := by unfold Hid; rw [List.take_succ_eq_append_getElem hlt, hz]
          have HT' : Hid (b.pages.take (j + 1) = b.pages.take j ++ [y]) := by unfold Hid; rw [List.take_succ_eq_append_getElem hlt', hy]
          have HNE : Hid (¬ z = y → ¬ a = b) := fun hzy h => hzy (by rw [← hz, ← hy]; simp [h])
          rw [hz] at d0 d1
          rw [hy] at d0' d1'
          have ca := (HB1.out.more HX1.out).c14
          have cb := (HB2.out.more HX1.out).c14
          rw [e1] at ca
          rw [e1'] at cb
          clear hz hy c1 c1' e1 e1'
          by_cases hzy : z = y
          · have HF : Hid (a.pages.take (j + 1) = b.pages.take (j + 1)) := by unfold Hid; rw [HT.out, HT'.out, HQ.out, hzy]
            subst hzy
            go_wp2_with fail
            go_region
            go_wp2_with fail
            go_roundw
            case rel => exact ⟨j + 1, by omega, by go_num, HF, o2 HX1.out (Only.drew _ _)⟩
            case measure => simp [intOf]; omega
          · have HF : Hid (¬ a = b) := HNE.out hzy
            by_cases h1 : z.1 = y.1
            · have h2 : ¬ z.2 = y.2 := fun h2 => hzy (Prod.ext h1 h2)
              clear hzy
              go_wp2_with fail
              go_region
              go_wp2_with fail
              go_ret
              exact ⟨RB.no HF.out, o2 HO.out (o2 HX1.out (Only.drew _ _))⟩
            · clear hzy
              go_wp2_with fail
              go_region
              go_wp2_with fail
              go_ret
              exact ⟨RB.no HF.out, o2 HO.out (o2 HX1.out (Only.drew _ _))⟩
        · have hj1 : ¬ (j : Int) < (a.pages.length : Int) := by omega
          have e : a.pages.take j = a.pages := List.take_of_length_le (by omega)
          have e' : b.pages.take j = b.pages := List.take_of_length_le (by have := HN1.out; omega)
          rw [e, e'] at HQ
          have EE1 := hide HQ.out
          have ca := (HB1.out.more HX1.out).c14
          clear HQ e e'
          go_wp2_with fail
          clear ca
          go_loopw [7] (fun y wr => ∃ (j : Nat), j ≤ a.txns.length ∧ y = .int .i64 (j : Int) ∧ Hid (a.txns.take j = b.txns.take j) ∧ Hid (Only (fun _ => False) W wr)) (fun y _ => a.txns.length - (intOf y).toNat)
          case atStart => exact ⟨0, by omega, rfl, rfl, HX1⟩
          case round =>
            obtain ⟨j, hj, rfl, HQ, HX2⟩ := hrel
            by_cases hlt : j < a.txns.length
            · have hlt' : j < b.txns.length := by have := HN2.out; omega
              have hj1 : (j : Int) < (a.txns.length : Int) := by omega
              have hj1' : (j : Int) < (b.txns.length : Int) := by omega
              obtain ⟨o, e1, c1⟩ := (HA.out.go HX2.out).txns.at_ (by omega)
              obtain ⟨p, e1', c1'⟩ := (HB.out.go HX2.out).txns.at_ (by omega)
              obtain ⟨d0, d1⟩ := c1 j hlt
              obtain ⟨d0', d1'⟩ := c1' j hlt'
              obtain ⟨z, hz⟩ : ∃ z, a.txns[j] = z := ⟨_, rfl⟩
              obtain ⟨y, hy⟩ : ∃ y, b.txns[j] = y := ⟨_, rfl⟩
              have HT : Hid (a.txns.take (j + 1) = a.txns.take j ++ [z]) := by unfold Hid; rw [List.take_succ_eq_append_getElem hlt, hz]
              have HT' : Hid (b.txns.take (j + 1) = b.txns.take j ++ [y]) := by unfold Hid; rw [List.take_succ_eq_append_getElem hlt', hy]
              have HNE : Hid (¬ z = y → ¬ a = b) := fun hzy h => hzy (by rw [← hz, ← hy]; simp [h])
              rw [hz] at d0 d1
              rw [hy] at d0' d1'
              have ca := (HB1.out.more HX2.out).c15
              have cb := (HB2.out.more HX2.out).c15
              rw [e1] at ca
              rw [e1'] at cb
              clear hz hy c1 c1' e1 e1'
              by_cases hzy : z = y
              · have HF : Hid (a.txns.take (j + 1) = b.txns.take (j + 1)) := by unfold Hid; rw [HT.out, HT'.out, HQ.out, hzy]
                subst hzy
                go_wp2_with fail
                go_region
                go_wp2_with fail
                go_roundw
                case rel => exact ⟨j + 1, by omega, by go_num, HF, o2 HX2.out (Only.drew _ _)⟩
                case measure => simp [intOf]; omega
              · have HF : Hid (¬ a = b) := HNE.out hzy
                by_cases h1 : z.1 = y.1
                · have h2 : ¬ z.2 = y.2 := fun h2 => hzy (Prod.ext h1 h2)
                  clear hzy
                  go_wp2_with fail
                  go_region
                  go_wp2_with fail
                  go_ret
                  exact ⟨RB.no HF.out, o2 HO.out (o2 HX2.out (Only.drew _ _))⟩
                · clear hzy
                  go_wp2_with fail
                  go_region
                  go_wp2_with fail
                  go_ret
                  exact ⟨RB.no HF.out, o2 HO.out (o2 HX2.out (Only.drew _ _))⟩
            · have hj1 : ¬ (j : Int) < (a.txns.length : Int) := by omega
              have e : a.txns.take j = a.txns := List.take_of_length_le (by omega)
              have e' : b.txns.take j = b.txns := List.take_of_length_le (by have := HN2.out; omega)
              rw [e, e'] at HQ
              have EE2 := hide HQ.out
              have ca := (HB1.out.more HX2.out).c15
              clear HQ e e'
              go_wp2_with fail
              clear ca
              go_ret
              exact ⟨RB.yes (rc_ext E0.out E1.out E2.out E3.out E4.out E5.out E6.out E7.out E8.out E9.out E10.out E11.out E12.out EE0.out EE1.out EE2.out), o2 HO.out HX2.out⟩
end Go.Proofs.YtcbdpdkmkncffaaGreatDoor
