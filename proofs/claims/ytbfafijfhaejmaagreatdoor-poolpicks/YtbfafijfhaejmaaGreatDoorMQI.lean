/- For any number of frames, any list of acts and any list of picks the statement PoolPicks returns true: which frames are taken does not show; no condition on them. Go's own tables of the library hold what they are laid with. -/
import Derived.Test.YtbfafijfhaejmaaGreatDoorMQH
import Derived.Test.YtbfafijfhaejmaaGreatDoorCards
import Derived.Test.YtbfafijfhaejmaaGreatDoorTie
import Derived.Deep.DeepHandedRow
import Derived.Lib.LaidTab
namespace Go.Proofs.YtbfafijfhaejmaaGreatDoor
open Go.RowKit

theorem ld_pPool {w : World} {p : Addr} {v : Value} (h : w.cell? p = some v) : (loadVar 36 p).run Tryz.prog w = .ok v w := by simp [loadVar, go_sem, h]
theorem fr_two (w : World) : Calls Tryz.prog 46 #[.int .i64 2] w fun e w' => ∃ p d l F, e = .returned (.tuple #[.agg #[.pointer (some ⟨d, 0, none⟩), .pointer (some ⟨l, 0, none⟩), .pointer (some ⟨p, 0, none⟩)], .bool true]) ∧ (∀ k, F k → w.heap.size ≤ k) ∧ Only (fun _ => False) w w' ∧ ∀ w0, Only (fun _ => False) w0 w → Pw w0 w' p d l F 1 1 (fun _ => none) (fun _ => none) := fresh_any w 2 (by omega) (by omega)
theorem Pag.lsn {w : World} {b : Nat} {v0 v1 v2 v3 v4 v5 : Value} (h : Pag w b v0 v1 v2 v3 v4 v5) (u : Value) : Pag (w.setCell ⟨b, 0, none⟩ u) b u v1 v2 v3 v4 v5 := by
  have k : ∀ (j : Nat) (v : Value), j ≠ 0 → w.cell? ⟨b, j, none⟩ = some v → (w.setCell ⟨b, 0, none⟩ u).cell? ⟨b, j, none⟩ = some v := fun j v hj hc =>
    (World.cell?_setCell_other _ _ _ _ (by intro e; injection e with _ e; exact hj e.symm)).trans hc
  exact ⟨World.cell?_setCell_same _ _ _ h.c0, k _ _ (by decide) h.c1, k _ _ (by decide) h.c2, k _ _ (by decide) h.c3, k _ _ (by decide) h.c4, k _ _ (by decide) h.c5, by simpa using h.f0, by simpa using h.f1, by simpa using h.f2, by simpa using h.f3, by simpa using h.f4, by simpa using h.f5, by simpa using h.lt⟩
/-- A page with another place. -/
def Pg.at_ (p : Pg) (t : Int) : Pg := { p with lsn := t }
set_option maxRecDepth 100000 in
set_option maxHeartbeats 6400000 in
theorem picks_law (w : World) (fz : Int) (B cp : Nat) (ao : Option Addr) (L : List Qo) (hQ : Qos w B ao L) (Bp cpp : Nat) (ap : Option Addr) (Z : List Int) (hZ : Zs w Bp ap Z) :
    Calls Tryz.prog 7 #[.int .i64 fz, .slice ao L.length cp, .slice ap Z.length cpp] w fun e w' => e = .returned (.bool true) ∧ Only (fun _ => False) w w' := by
  have hlen := hQ.len
  have hzl := hZ.len
  have HQ := hide hQ
  have HZ := hide hZ
  clear hQ hZ
  obtain ⟨V, hV⟩ : ∃ V, Value.agg (nt.cells Loc.none) = V := ⟨_, rfl⟩
  have HN := hide (fun W => note_any W)
  have HAA := hide (fun (W : World) (A Bv pa da la pb db lb : Nat) X ta tb Ca Cb H (h : Sq w W A Bv pa da la pb db lb X ta tb Ca Cb H) ht => sq_appendA h ht)
  have HAB := hide (fun (W : World) (A Bv pa da la pb db lb : Nat) X ta tb Ca Cb H (h : Sq w W A Bv pa da la pb db lb X ta tb Ca Cb H) ht => sq_appendB h ht)
  simp only [hV] at HN HAA HAB
  clear hV
  obtain ⟨r1, r2, r3⟩ := take_rem (pick := fz) (n := 6) (by omega)
  obtain ⟨t1, ht1⟩ : ∃ t1, fz.tmod 6 = t1 := ⟨_, rfl⟩
  rw [show ((6 : Nat) : Int) = 6 from rfl, ht1] at r1 r2 r3
  obtain ⟨m, hm⟩ : ∃ m : Nat, fz % 6 = (m : Int) := ⟨(fz % 6).toNat, by omega⟩
  have hm6 : (m : Int) < 6 := by omega
  rw [hm] at r3
  have HFA := hide (fresh_any w (1 + m) (by omega) (by omega))
  rw [show (((1 + m : Nat)) : Int) = 1 + (m : Int) by omega] at HFA
  clear hm
  go_enter Tryz.func7, Tryz.ntmps7
  go_wp2_with fail
  refine HFA.out.mono ?_
  rintro e w1 ⟨pa, da, la, Fa, rfl, hF, ho, hp⟩
  have HP1 := hide (hp w (Only.refl _ _))
  clear hF ho hp HFA
  go_upto_region 2 with fail
  have HTA := hide (Tri.new w1 (.pointer (some ⟨da, 0, none⟩)) (.pointer (some ⟨la, 0, none⟩)) (.pointer (some ⟨pa, 0, none⟩)) 82)
  have HO1 := hide (onlyA w1 (.cells #[.pointer (some ⟨da, 0, none⟩), .pointer (some ⟨la, 0, none⟩), .pointer (some ⟨pa, 0, none⟩)] 82))
  obtain ⟨A, hA⟩ : ∃ A, w1.heap.size = A := ⟨_, rfl⟩
  obtain ⟨W1, hW1⟩ : ∃ W, w1.alloc (.cells #[.pointer (some ⟨da, 0, none⟩), .pointer (some ⟨la, 0, none⟩), .pointer (some ⟨pa, 0, none⟩)] 82) = W := ⟨_, rfl⟩
  rw [hA, hW1] at HTA
  rw [hW1] at HO1
  rw [hA, hW1]
  have HA1 := hide hA
  clear hA hW1 ht1 r1 r2 r3 hm6
  go_wp2_with fail
  refine (fr_two W1).mono ?_
  rintro e w2 ⟨pb, db, lb, Fb, rfl, hFb, ho2, hp2⟩
  have HP2 := hide (hp2 w (o2 HP1.out.only HO1.out))
  have HX2 := hide (And.intro hFb ho2)
  clear hFb ho2 hp2
  go_upto_region 3 with fail
  have HTB := hide (Tri.new w2 (.pointer (some ⟨db, 0, none⟩)) (.pointer (some ⟨lb, 0, none⟩)) (.pointer (some ⟨pb, 0, none⟩)) 82)
  have HO2 := hide (onlyA w2 (.cells #[.pointer (some ⟨db, 0, none⟩), .pointer (some ⟨lb, 0, none⟩), .pointer (some ⟨pb, 0, none⟩)] 82))
  obtain ⟨Bv, hBv⟩ : ∃ A, w2.heap.size = A := ⟨_, rfl⟩
  obtain ⟨W2, hW2⟩ : ∃ W, w2.alloc (.cells #[.pointer (some ⟨db, 0, none⟩), .pointer (some ⟨lb, 0, none⟩), .pointer (some ⟨pb, 0, none⟩)] 82) = W := ⟨_, rfl⟩
  rw [hBv, hW2] at HTB
  rw [hW2] at HO2
  rw [hBv, hW2]
  have HS0 : Hid (Sq w W2 A Bv pa da la pb db lb (fun k => k = A ∨ k = Bv) 1 1 (fun _ => none) (fun _ => none) W2.heap.size) := by
    obtain ⟨hFb, ho2⟩ := HX2.out
    have hA := HA1.out
    have z1 := HO1.out.size
    have z2 := ho2.size
    have z3 := HTA.out.lt
    have z4 := HP1.out.only.size
    have z5 := HP2.out.only.size
    refine sq_start (HP1.out.more (o2 HO1.out (o2 ho2 HO2.out))) (HP2.out.more HO2.out) (fun k h1 h2 => ?_) ⟨by omega, fun e => ?_, fun e => ?_⟩ ⟨by omega, fun e => ?_, fun e => ?_⟩ (HTA.out.more (o2 ho2 HO2.out)) HTB.out
    · have := (HP1.out.lt k h1).2; have := hFb k h2; omega
    · have := (HP1.out.lt A e).2; omega
    · have := hFb A e; omega
    · have := (HP1.out.lt Bv e).2; omega
    · have := (HP2.out.lt Bv e).2; omega
  clear HTA HO1 HP1 HA1 HP2 HX2 HTB HO2 hBv hW2
  go_wp2_with fail
  go_loopw [11] (fun y wr => ∃ (j t : Nat) (C : Nat → Option Pg), j ≤ L.length ∧ j ≤ 100 ∧ t ≤ 1 + 33 * j ∧ y = .int .i64 (j : Int) ∧ Hid (Sq w wr A Bv pa da la pb db lb (fun k => k = A ∨ k = Bv) t t C C wr.heap.size)) (fun y _ => 100 - (intOf y).toNat)
  case atStart => exact ⟨0, 1, _, by omega, by omega, by omega, rfl, HS0⟩
  case round =>
    clear HS0
    obtain ⟨j, t, C, hj, hj1, ht, rfl, HS⟩ := hrel
    by_cases hlt : j < L.length
    · by_cases h100 : j < 100
      · obtain ⟨o, e1, hc⟩ := (HQ.out.more HS.out.tw.only).at_ (by omega)
        have hrn := hc j hlt
        have HIN := hide (HQ.out.each L[j] (List.getElem_mem hlt))
        obtain ⟨z, hz⟩ : ∃ z, L[j] = z := ⟨_, rfl⟩
        rw [hz] at HIN hrn
        subst e1
        have k0 : wr.cell? ⟨B, o + j * 9, none⟩ = some (.int .i64 z.ask) := hrn 0 _ rfl
        have k1 : wr.cell? ⟨B, o + j * 9 + 1, none⟩ = some (.int .i64 z.page) := hrn 1 _ rfl
        have k2 : wr.cell? ⟨B, o + j * 9 + 2, none⟩ = some (.int .i64 z.pick) := hrn 2 _ rfl
        have k3 : wr.cell? ⟨B, o + j * 9 + 3, none⟩ = some (.int .i64 z.body.lsn) := hrn 3 _ rfl
        have k4 : wr.cell? ⟨B, o + j * 9 + 4, none⟩ = some (.int .i64 z.body.kind) := hrn 4 _ rfl
        have k5 : wr.cell? ⟨B, o + j * 9 + 5, none⟩ = some (.int .i64 z.body.level) := hrn 5 _ rfl
        have k6 : wr.cell? ⟨B, o + j * 9 + 6, none⟩ = some (.int .i64 z.body.right) := hrn 6 _ rfl
        have k7 : wr.cell? ⟨B, o + j * 9 + 7, none⟩ = some (.string z.body.high) := hrn 7 _ rfl
        have k8 : wr.cell? ⟨B, o + j * 9 + 8, none⟩ = some (.slice z.ab z.body.items.length z.cb) := hrn 8 _ rfl
        clear hc hz hrn
        have HXN : Hid (wr.heap.size ≠ A ∧ wr.heap.size ≠ Bv) := by
          have a1 := HS.out.va.lt
          have a2 := HS.out.vb.lt
          exact ⟨by omega, by omega⟩
        have HOB0 := hide (Ob.new wr z)
        have HS1' := hide (HS.out.var (.cells #[.int .i64 z.ask, .int .i64 z.page, .int .i64 z.pick, .int .i64 z.body.lsn, .int .i64 z.body.kind, .int .i64 z.body.level, .int .i64 z.body.right, .string z.body.high, .slice z.ab z.body.items.length z.cb] 47))
        go_upto_region 9 with fail
        obtain ⟨xb, hxb⟩ : ∃ b, wr.heap.size = b := ⟨_, rfl⟩
        obtain ⟨W, hW⟩ : ∃ W, W = wr.alloc (.cells #[.int .i64 z.ask, .int .i64 z.page, .int .i64 z.pick, .int .i64 z.body.lsn, .int .i64 z.body.kind, .int .i64 z.body.level, .int .i64 z.body.right, .string z.body.high, .slice z.ab z.body.items.length z.cb] 47) := ⟨_, rfl⟩
        rw [hxb] at HOB0 HS1' HXN ⊢
        rw [← hW] at HOB0 HS1' ⊢
        clear hW hxb k0 k1 k2 k3 k4 k5 k6 k7 k8 HS
        have HS1 := hide HS1'.out.up
        clear HS1'
        obtain ⟨r1, r2, r3⟩ := take_rem (pick := z.page) (n := 12) (by omega)
        obtain ⟨t1, ht1⟩ : ∃ t1, z.page.tmod 12 = t1 := ⟨_, rfl⟩
        rw [show ((12 : Nat) : Int) = 12 from rfl, ht1] at r1 r2 r3
        obtain ⟨n, hn⟩ : ∃ n : Nat, z.page % 12 = (n : Int) := ⟨(z.page % 12).toNat, by omega⟩
        have hn12 : n < 12 := by omega
        rw [hn] at r3
        have HN12 := hide hn12
        clear hn hn12
        have b1 := HOB0.out.c1
        go_upto_if 64 with fail
        clear b1 r1 r2 r3 ht1
        go_cut [14] (fun y wc => ∃ pk : Int, y = .int .i64 pk ∧ wc = W)
        case first =>
          by_cases hz0 : 0 < Z.length
          · obtain ⟨q, hq⟩ : ∃ q : Nat, (j : Int).tmod (Z.length : Int) = (q : Int) := ⟨j % Z.length, by rw [Int.tmod_eq_emod_of_nonneg (by omega)]; omega⟩
            have hqz : q < Z.length := by
              have := Int.tmod_lt_of_pos (j : Int) (b := (Z.length : Int)) (by omega)
              omega
            obtain ⟨oz, ez, hcz⟩ := (HZ.out.more HS1.out.tw.only).at_ hz0
            have hcq := hcz q hqz
            obtain ⟨zv, hzv⟩ : ∃ zv, Z[q] = zv := ⟨_, rfl⟩
            rw [hzv] at hcq
            subst ez
            clear hcz hzv
            go_wp2_with fail
            go_meet
            exact ⟨zv, rfl, rfl⟩
          · have hzz : ¬ (0 : Int) < (Z.length : Int) := by omega
            go_wp2_with fail
            go_meet
            exact ⟨0, rfl, rfl⟩
        case rest =>
          obtain ⟨pk, rfl, hwc⟩ := hcut
          obtain rfl := hwc.symm
          clear hwc
          have b0 := HOB0.out.c0
          go_upto_if 74 with fail
          clear b0
          go_cut [74] (fun _ wc => ∃ (t' : Nat) (C' : Nat → Option Pg), t' ≤ 1 + 33 * (j + 1) ∧ Hid (Sq w wc A Bv pa da la pb db lb (fun k => (k = A ∨ k = Bv) ∨ k = xb) t' t' C' C' wc.heap.size) ∧ Hid (Ob wc xb z))
          case first =>
            by_cases h1 : z.ask = 1
            · have a1 : (z.ask == 1) = true := by simp [h1]
              clear h1
              go_upto_region 14 with fail
              refine wp_region_noPanic ?_
              refine wp_region_held_drew (S := fun U => U.cell? ⟨A, 1, none⟩ = some (.pointer (some ⟨la, 0, none⟩))) (by kernel_rfl) (HS1.out.va.c1) (fun hHeld => ?_)
              refine wpAnyH_take (i := 0) (oi := { dst := some 76, op := Op.fieldAddr 82 (Operand.tmp 7) 1, type := 0, pos := "law.go:258", after := #[], guard := none }) (v := .pointer (some ⟨A, 1, none⟩)) rfl (by kernel_rfl) (by kernel_rfl) (by kernel_rfl) (fun _ _ _ h => h) (Or.inl ⟨by rfl, fun w' hSw => by clear hSw; go_simp⟩) (by assumption) ?_
              simp only [Act.put, List.setIfInBounds_toArray, List.set_cons_zero, List.set_cons_succ]
              refine wpAnyH_take (i := 1) (oi := { dst := some 77, op := Op.load 30 (Operand.tmp 76), type := 30, pos := "law.go:258", after := #[{ on := 0, ground := Ground.data }], guard := none }) (v := .pointer (some ⟨la, 0, none⟩)) rfl (by kernel_rfl) (by kernel_rfl) (by kernel_rfl) (fun _ _ _ h => h) (yieldsIf_load_cell (by rfl) 30 _ rfl _ rfl (fun W hW => hW) (fun W hc => ld_pLog hc)) (by assumption) ?_
              simp only [Act.put, List.setIfInBounds_toArray, List.set_cons_zero, List.set_cons_succ]
              refine wpAnyH_ready (rs := [2]) (by kernel_rfl) (by simp) ?_
              refine AllReadyH.cons (o := { dst := some 78, op := Op.call { callee := Callee.value (Operand.func 19), args := #[], argTypes := #[] }, type := 59, pos := "law.go:258", after := #[], guard := none }) rfl (fun K hK => ?_) (AllReadyH.nil)
              go_simp
              refine (HN.out _).mono ?_
              rintro e w3 ⟨rfl, ho3⟩
              have HS3 := hide (HS1.out.more (o2 (Only.drew _ _) ho3))
              have HOB3 := hide (HOB0.out.kept (o2 (Only.drew _ _) ho3) (fun e => e))
              clear ho3
              refine hK.out _ _ (HS3.out.va.c1) (fun hHeld => ?_)
              clear hK K
              try simp only [Act.put, List.setIfInBounds_toArray, List.set_cons_zero, List.set_cons_succ]
              refine wpAnyH_ready (rs := [3]) (by kernel_rfl) (by simp) ?_
              refine AllReadyH.cons (o := { dst := some 79, op := Op.call { callee := Callee.value (Operand.func 18), args := #[Operand.tmp 77, Operand.tmp 78], argTypes := #[30, 59] }, type := 51, pos := "law.go:258", after := #[{ on := 1, ground := Ground.data }, { on := 2, ground := Ground.data }, { on := 2, ground := Ground.chain }], guard := none }) rfl (fun K hK => ?_) (AllReadyH.nil)
              go_simp
              refine (HAA.out _ _ _ _ _ _ _ _ _ _ _ _ _ _ _ HS3.out (by omega)).mono ?_
              rintro e w4 ⟨rfl, hs4, ho4⟩
              have HS4 := hide hs4
              have HOB4 := hide (HOB3.out.kept ho4 (fun e => e.1 (.inr rfl)))
              clear hs4 ho4 HS3 HOB3
              refine hK.out _ _ (HS4.out.va.c1) (fun hHeld => ?_)
              clear hK K
              try simp only [Act.put, List.setIfInBounds_toArray, List.set_cons_zero, List.set_cons_succ]
              refine wpAnyH_take (i := 4) (oi := { dst := some 75, op := Op.move (Operand.tmp 79), type := 51, pos := "law.go:258", after := #[{ on := 3, ground := Ground.data }], guard := none }) (v := .tuple #[.int .i64 (t : Int), .int .i64 0]) rfl (by kernel_rfl) (by kernel_rfl) (by kernel_rfl) (fun _ _ _ h => h) (Or.inl ⟨by rfl, fun w' hSw => by clear hSw; go_simp⟩) (by assumption) ?_
              simp only [Act.put, List.setIfInBounds_toArray, List.set_cons_zero, List.set_cons_succ]
              refine wpAnyH_take (i := 5) (oi := { dst := some 80, op := Op.extract (Operand.tmp 75) 0, type := 3, pos := "law.go:258", after := #[{ on := 4, ground := Ground.data }], guard := none }) (v := .int .i64 (t : Int)) rfl (by kernel_rfl) (by kernel_rfl) (by kernel_rfl) (fun _ _ _ h => h) (Or.inl ⟨by rfl, fun w' hSw => by clear hSw; go_simp⟩) (by assumption) ?_
              simp only [Act.put, List.setIfInBounds_toArray, List.set_cons_zero, List.set_cons_succ]
              refine wpAnyH_take (i := 6) (oi := { dst := some 81, op := Op.extract (Operand.tmp 75) 1, type := 24, pos := "law.go:258", after := #[{ on := 4, ground := Ground.data }, { on := 7, ground := Ground.gcOnly Departure.lateStores }], guard := none }) (v := .int .i64 0) rfl (by kernel_rfl) (by kernel_rfl) (by kernel_rfl) (fun _ _ _ h => h) (Or.inl ⟨by rfl, fun w' hSw => by clear hSw; go_simp⟩) (by assumption) ?_
              simp only [Act.put, List.setIfInBounds_toArray, List.set_cons_zero, List.set_cons_succ]
              refine wpAnyH_take (i := 7) (oi := { dst := some 15, op := Op.assign (Operand.tmp 80), type := 3, pos := "law.go:258", after := #[{ on := 5, ground := Ground.data }, { on := 3, ground := Ground.chain }, { on := 0, ground := Ground.phase }, { on := 1, ground := Ground.phase }, { on := 2, ground := Ground.phase }, { on := 3, ground := Ground.phase }, { on := 4, ground := Ground.phase }, { on := 5, ground := Ground.phase }, { on := 6, ground := Ground.textOnly Departure.lateStores }], guard := none }) (v := .int .i64 (t : Int)) rfl (by kernel_rfl) (by kernel_rfl) (by kernel_rfl) (fun _ _ _ h => h) (Or.inl ⟨by rfl, fun w' hSw => by clear hSw; go_simp⟩) (by assumption) ?_
              simp only [Act.put, List.setIfInBounds_toArray, List.set_cons_zero, List.set_cons_succ]
              refine wpAnyH_take (i := 8) (oi := { dst := some 16, op := Op.assign (Operand.tmp 81), type := 24, pos := "law.go:258", after := #[{ on := 6, ground := Ground.data }, { on := 7, ground := Ground.chain }, { on := 0, ground := Ground.phase }, { on := 1, ground := Ground.phase }, { on := 2, ground := Ground.phase }, { on := 3, ground := Ground.phase }, { on := 4, ground := Ground.phase }, { on := 5, ground := Ground.phase }, { on := 6, ground := Ground.phase }, { on := 7, ground := Ground.phase }], guard := none }) (v := .int .i64 0) rfl (by kernel_rfl) (by kernel_rfl) (by kernel_rfl) (fun _ _ _ h => h) (Or.inl ⟨by rfl, fun w' hSw => by clear hSw; go_simp⟩) (by assumption) ?_
              simp only [Act.put, List.setIfInBounds_toArray, List.set_cons_zero, List.set_cons_succ]
              refine wpAnyH_done (by kernel_rfl) ?_ _
              refine NoPanic.normal ?_
              go_upto_region 15 with fail
              refine wp_region_noPanic ?_
              refine wp_region_held_drew (S := fun U => U.cell? ⟨Bv, 1, none⟩ = some (.pointer (some ⟨lb, 0, none⟩))) (by kernel_rfl) (HS4.out.vb.c1) (fun hHeld => ?_)
              refine wpAnyH_take (i := 0) (oi := { dst := some 83, op := Op.fieldAddr 82 (Operand.tmp 9) 1, type := 0, pos := "law.go:259", after := #[], guard := none }) (v := .pointer (some ⟨Bv, 1, none⟩)) rfl (by kernel_rfl) (by kernel_rfl) (by kernel_rfl) (fun _ _ _ h => h) (Or.inl ⟨by rfl, fun w' hSw => by clear hSw; go_simp⟩) (by assumption) ?_
              simp only [Act.put, List.setIfInBounds_toArray, List.set_cons_zero, List.set_cons_succ]
              refine wpAnyH_take (i := 1) (oi := { dst := some 84, op := Op.load 30 (Operand.tmp 83), type := 30, pos := "law.go:259", after := #[{ on := 0, ground := Ground.data }], guard := none }) (v := .pointer (some ⟨lb, 0, none⟩)) rfl (by kernel_rfl) (by kernel_rfl) (by kernel_rfl) (fun _ _ _ h => h) (yieldsIf_load_cell (by rfl) 30 _ rfl _ rfl (fun W hW => hW) (fun W hc => ld_pLog hc)) (by assumption) ?_
              simp only [Act.put, List.setIfInBounds_toArray, List.set_cons_zero, List.set_cons_succ]
              refine wpAnyH_ready (rs := [2]) (by kernel_rfl) (by simp) ?_
              refine AllReadyH.cons (o := { dst := some 85, op := Op.call { callee := Callee.value (Operand.func 19), args := #[], argTypes := #[] }, type := 59, pos := "law.go:259", after := #[], guard := none }) rfl (fun K hK => ?_) (AllReadyH.nil)
              go_simp
              refine (HN.out _).mono ?_
              rintro e w5 ⟨rfl, ho5⟩
              have HS5 := hide (HS4.out.more (o2 (Only.drew _ _) ho5))
              have HOB5 := hide (HOB4.out.kept (o2 (Only.drew _ _) ho5) (fun e => e))
              clear ho5
              refine hK.out _ _ (HS5.out.vb.c1) (fun hHeld => ?_)
              clear hK K
              try simp only [Act.put, List.setIfInBounds_toArray, List.set_cons_zero, List.set_cons_succ]
              refine wpAnyH_ready (rs := [3]) (by kernel_rfl) (by simp) ?_
              refine AllReadyH.cons (o := { dst := some 86, op := Op.call { callee := Callee.value (Operand.func 18), args := #[Operand.tmp 84, Operand.tmp 85], argTypes := #[30, 59] }, type := 51, pos := "law.go:259", after := #[{ on := 1, ground := Ground.data }, { on := 2, ground := Ground.data }, { on := 2, ground := Ground.chain }], guard := none }) rfl (fun K hK => ?_) (AllReadyH.nil)
              go_simp
              refine (HAB.out _ _ _ _ _ _ _ _ _ _ _ _ _ _ _ HS5.out (by omega)).mono ?_
              rintro e w6 ⟨rfl, hs6, ho6⟩
              have HS6 := hide hs6
              have HOB6 := hide (HOB5.out.kept ho6 (fun e => e.1.1 (.inr rfl)))
              clear hs6 ho6 HS5 HOB5 HS4 HOB4
              refine hK.out _ _ (HS6.out.vb.c1) (fun hHeld => ?_)
              clear hK K
              try simp only [Act.put, List.setIfInBounds_toArray, List.set_cons_zero, List.set_cons_succ]
              refine wpAnyH_take (i := 4) (oi := { dst := some 82, op := Op.move (Operand.tmp 86), type := 51, pos := "law.go:259", after := #[{ on := 3, ground := Ground.data }], guard := none }) (v := .tuple #[.int .i64 (t : Int), .int .i64 0]) rfl (by kernel_rfl) (by kernel_rfl) (by kernel_rfl) (fun _ _ _ h => h) (Or.inl ⟨by rfl, fun w' hSw => by clear hSw; go_simp⟩) (by assumption) ?_
              simp only [Act.put, List.setIfInBounds_toArray, List.set_cons_zero, List.set_cons_succ]
              refine wpAnyH_take (i := 5) (oi := { dst := some 87, op := Op.extract (Operand.tmp 82) 0, type := 3, pos := "law.go:259", after := #[{ on := 4, ground := Ground.data }], guard := none }) (v := .int .i64 (t : Int)) rfl (by kernel_rfl) (by kernel_rfl) (by kernel_rfl) (fun _ _ _ h => h) (Or.inl ⟨by rfl, fun w' hSw => by clear hSw; go_simp⟩) (by assumption) ?_
              simp only [Act.put, List.setIfInBounds_toArray, List.set_cons_zero, List.set_cons_succ]
              refine wpAnyH_take (i := 6) (oi := { dst := some 88, op := Op.extract (Operand.tmp 82) 1, type := 24, pos := "law.go:259", after := #[{ on := 4, ground := Ground.data }, { on := 7, ground := Ground.gcOnly Departure.lateStores }], guard := none }) (v := .int .i64 0) rfl (by kernel_rfl) (by kernel_rfl) (by kernel_rfl) (fun _ _ _ h => h) (Or.inl ⟨by rfl, fun w' hSw => by clear hSw; go_simp⟩) (by assumption) ?_
              simp only [Act.put, List.setIfInBounds_toArray, List.set_cons_zero, List.set_cons_succ]
              refine wpAnyH_take (i := 7) (oi := { dst := some 17, op := Op.assign (Operand.tmp 87), type := 3, pos := "law.go:259", after := #[{ on := 5, ground := Ground.data }, { on := 3, ground := Ground.chain }, { on := 0, ground := Ground.phase }, { on := 1, ground := Ground.phase }, { on := 2, ground := Ground.phase }, { on := 3, ground := Ground.phase }, { on := 4, ground := Ground.phase }, { on := 5, ground := Ground.phase }, { on := 6, ground := Ground.textOnly Departure.lateStores }], guard := none }) (v := .int .i64 (t : Int)) rfl (by kernel_rfl) (by kernel_rfl) (by kernel_rfl) (fun _ _ _ h => h) (Or.inl ⟨by rfl, fun w' hSw => by clear hSw; go_simp⟩) (by assumption) ?_
              simp only [Act.put, List.setIfInBounds_toArray, List.set_cons_zero, List.set_cons_succ]
              refine wpAnyH_take (i := 8) (oi := { dst := some 18, op := Op.assign (Operand.tmp 88), type := 24, pos := "law.go:259", after := #[{ on := 6, ground := Ground.data }, { on := 7, ground := Ground.chain }, { on := 0, ground := Ground.phase }, { on := 1, ground := Ground.phase }, { on := 2, ground := Ground.phase }, { on := 3, ground := Ground.phase }, { on := 4, ground := Ground.phase }, { on := 5, ground := Ground.phase }, { on := 6, ground := Ground.phase }, { on := 7, ground := Ground.phase }], guard := none }) (v := .int .i64 0) rfl (by kernel_rfl) (by kernel_rfl) (by kernel_rfl) (fun _ _ _ h => h) (Or.inl ⟨by rfl, fun w' hSw => by clear hSw; go_simp⟩) (by assumption) ?_
              simp only [Act.put, List.setIfInBounds_toArray, List.set_cons_zero, List.set_cons_succ]
              refine wpAnyH_done (by kernel_rfl) ?_ _
              refine NoPanic.normal ?_
              have b3 := HOB6.out.c3
              have b4 := HOB6.out.c4
              have b5 := HOB6.out.c5
              have b6 := HOB6.out.c6
              have b7 := HOB6.out.c7
              have b8 := HOB6.out.c8
              go_upto_region 17 with fail
              clear b3 b4 b5 b6 b7 b8
              have HPB0 := hide (Pag.new w6 (.int .i64 z.body.lsn) (.int .i64 z.body.kind) (.int .i64 z.body.level) (.int .i64 z.body.right) (.string z.body.high) (.slice z.ab z.body.items.length z.cb))
              have HS7 := hide (HS6.out.var (.cells #[.int .i64 z.body.lsn, .int .i64 z.body.kind, .int .i64 z.body.level, .int .i64 z.body.right, .string z.body.high, .slice z.ab z.body.items.length z.cb] 45))
              have HOB7 := hide (HOB6.out.kept (onlyA w6 (.cells #[.int .i64 z.body.lsn, .int .i64 z.body.kind, .int .i64 z.body.level, .int .i64 z.body.right, .string z.body.high, .slice z.ab z.body.items.length z.cb] 45)) (fun e => e))
              have HBN : Hid (w6.heap.size ≠ A ∧ w6.heap.size ≠ Bv ∧ xb ≠ w6.heap.size) := by
                have a1 := HS6.out.va.lt
                have a2 := HS6.out.vb.lt
                have a3 := HOB6.out.lt
                exact ⟨by omega, by omega, by omega⟩
              obtain ⟨bb, hbb⟩ : ∃ b, w6.heap.size = b := ⟨_, rfl⟩
              obtain ⟨W7, hW7⟩ : ∃ W, W = w6.alloc (.cells #[.int .i64 z.body.lsn, .int .i64 z.body.kind, .int .i64 z.body.level, .int .i64 z.body.right, .string z.body.high, .slice z.ab z.body.items.length z.cb] 45) := ⟨_, rfl⟩
              rw [hbb] at HPB0 HS7 HBN ⊢
              rw [← hW7] at HPB0 HS7 HOB7 ⊢
              clear hW7 hbb
              obtain ⟨q0, q1, q2, q3, q4, q5, f0, f1, f2, f3, f4, f5, fl⟩ := HPB0.out
              go_upto_region 18 with fail
              clear q0 q1 q2 q3 q4 q5 f0 f1 f2 f3 f4 f5 fl
              have HPB := hide (HPB0.out.lsn (.int .i64 (t : Int)))
              have HS8 := hide (HS7.out.kept (X' := fun k => ((k = A ∨ k = Bv) ∨ k = xb) ∨ k = bb) (Only.setCell (S := fun k => k = bb) W7 ⟨bb, 0, none⟩ (.int .i64 (t : Int)) rfl) (fun k e => by subst e; exact ⟨.inr rfl, HBN.out.1, HBN.out.2.1⟩) (fun k e => .inl e) (.inl (.inl (.inl rfl))) (.inl (.inl (.inr rfl))))
              have HOB8 := hide (HOB7.out.kept (Only.setCell (S := fun k => k = bb) W7 ⟨bb, 0, none⟩ (.int .i64 (t : Int)) rfl) HBN.out.2.2)
              obtain ⟨W8, hW8⟩ : ∃ W, W = W7.setCell ⟨bb, 0, none⟩ (.int .i64 (t : Int)) := ⟨_, rfl⟩
              rw [← hW8] at HPB HS8 HOB8 ⊢
              have htl := (ntl_le t).1
              have HSA := hide (fun (U : World) Ca Cb H (h : Sq w U A Bv pa da la pb db lb (fun k => ((k = A ∨ k = Bv) ∨ k = xb) ∨ k = bb) (ntl t) (ntl t) Ca Cb H) => sq_setA h n HN12.out z.pick (z.body.at_ (t : Int)) z.B z.ab z.cb HIN.out.strs HIN.out.high (by show (t : Int) < _; omega))
              have HSB := hide (fun (U : World) Ca Cb H (h : Sq w U A Bv pa da la pb db lb (fun k => ((k = A ∨ k = Bv) ∨ k = xb) ∨ k = bb) (ntl t) (ntl t) Ca Cb H) => sq_setB h n HN12.out pk (z.body.at_ (t : Int)) z.B z.ab z.cb HIN.out.strs HIN.out.high (by show (t : Int) < _; omega))
              obtain ⟨sc, hsc⟩ : ∃ sc, (z.body.at_ (t : Int)).setC = sc := ⟨_, rfl⟩
              obtain ⟨C2, hC2⟩ : ∃ C2, setP C n (z.body.at_ (t : Int)) = C2 := ⟨_, rfl⟩
              have HSA2 := hide (fun (U : World) H h => HSA.out U C C H h)
              have HSB2 := hide (fun (U : World) H h => HSB.out U C2 C H h)
              rw [hsc, hC2] at HSA2 HSB2
              clear HSA HSB hsc hC2 hW8 HS7 HOB7 HPB0 HS6 HOB6
              refine wp_region_noPanic ?_
              refine wp_region_held_drew (S := fun U => U.cell? ⟨A, 2, none⟩ = some (.pointer (some ⟨pa, 0, none⟩)) ∧ U.cell? ⟨Bv, 2, none⟩ = some (.pointer (some ⟨pb, 0, none⟩)) ∧ U.cell? ⟨xb, 2, none⟩ = some (.int .i64 z.pick) ∧ Pag U bb (.int .i64 (t : Int)) (.int .i64 z.body.kind) (.int .i64 z.body.level) (.int .i64 z.body.right) (.string z.body.high) (.slice z.ab z.body.items.length z.cb)) (by kernel_rfl) (⟨HS8.out.va.c2, HS8.out.vb.c2, HOB8.out.c2, HPB.out.more (Only.drew _ _)⟩) (fun hHeld => ?_)
              refine wpAnyH_take (i := 0) (oi := { dst := some 93, op := Op.move (Operand.tmp 15), type := 3, pos := "law.go:262", after := #[], guard := none }) (v := .int .i64 (t : Int)) rfl (by kernel_rfl) (by kernel_rfl) (by kernel_rfl) (fun _ _ _ h => h) (Or.inl ⟨by rfl, fun w' hSw => by clear hSw; go_simp⟩) (by assumption) ?_
              simp only [Act.put, List.setIfInBounds_toArray, List.set_cons_zero, List.set_cons_succ]
              refine wpAnyH_take (i := 1) (oi := { dst := some 94, op := Op.move (Operand.tmp 17), type := 3, pos := "law.go:262", after := #[], guard := none }) (v := .int .i64 (t : Int)) rfl (by kernel_rfl) (by kernel_rfl) (by kernel_rfl) (fun _ _ _ h => h) (Or.inl ⟨by rfl, fun w' hSw => by clear hSw; go_simp⟩) (by assumption) ?_
              simp only [Act.put, List.setIfInBounds_toArray, List.set_cons_zero, List.set_cons_succ]
              refine wpAnyH_take (i := 2) (oi := { dst := some 95, op := Op.binOp BinOp.neq 3 (Operand.tmp 93) (Operand.tmp 94) 3, type := 4, pos := "law.go:262", after := #[{ on := 0, ground := Ground.data }, { on := 1, ground := Ground.data }], guard := none }) (v := .bool false) rfl (by kernel_rfl) (by kernel_rfl) (by kernel_rfl) (fun _ _ _ h => h) (Or.inl ⟨by rfl, fun w' hSw => by clear hSw; go_simp⟩) (by assumption) ?_
              simp only [Act.put, List.setIfInBounds_toArray, List.set_cons_zero, List.set_cons_succ]
              refine wpAnyH_take (i := 3) (oi := { dst := some 96, op := Op.move (Operand.tmp 95), type := 4, pos := "law.go:262", after := #[{ on := 2, ground := Ground.data }], guard := none }) (v := .bool false) rfl (by kernel_rfl) (by kernel_rfl) (by kernel_rfl) (fun _ _ _ h => h) (Or.inl ⟨by rfl, fun w' hSw => by clear hSw; go_simp⟩) (by assumption) ?_
              simp only [Act.put, List.setIfInBounds_toArray, List.set_cons_zero, List.set_cons_succ]
              refine wpAnyH_take (i := 4) (oi := { dst := some 97, op := Op.fieldAddr 82 (Operand.tmp 7) 2, type := 0, pos := "law.go:262", after := #[{ on := 3, ground := Ground.guard }], guard := some (3, false) }) (v := .pointer (some ⟨A, 2, none⟩)) rfl (by kernel_rfl) (by kernel_rfl) (by kernel_rfl) (fun _ _ _ h => h) (Or.inl ⟨by rfl, fun w' hSw => by clear hSw; go_simp⟩) (by assumption) ?_
              simp only [Act.put, List.setIfInBounds_toArray, List.set_cons_zero, List.set_cons_succ]
              refine wpAnyH_take (i := 6) (oi := { dst := some 99, op := Op.move (Operand.tmp 13), type := 3, pos := "law.go:262", after := #[{ on := 3, ground := Ground.guard }], guard := some (3, false) }) (v := .int .i64 (n : Int)) rfl (by kernel_rfl) (by kernel_rfl) (by kernel_rfl) (fun _ _ _ h => h) (Or.inl ⟨by rfl, fun w' hSw => by clear hSw; go_simp⟩) (by assumption) ?_
              simp only [Act.put, List.setIfInBounds_toArray, List.set_cons_zero, List.set_cons_succ]
              refine wpAnyH_take (i := 7) (oi := { dst := some 100, op := Op.load 45 (Operand.tmp 19), type := 45, pos := "law.go:262", after := #[{ on := 3, ground := Ground.guard }], guard := some (3, false) }) (v := .agg #[.int .i64 (t : Int), .int .i64 z.body.kind, .int .i64 z.body.level, .int .i64 z.body.right, .string z.body.high, .slice z.ab z.body.items.length z.cb]) rfl (by kernel_rfl) (by kernel_rfl) (by kernel_rfl) (fun _ _ _ h => h) (yieldsIf_load_pg (by rfl) _ rfl _ rfl (fun W hW => hW.2.2.2)) (by assumption) ?_
              simp only [Act.put, List.setIfInBounds_toArray, List.set_cons_zero, List.set_cons_succ]
              refine wpAnyH_take (i := 8) (oi := { dst := some 101, op := Op.fieldAddr 47 (Operand.tmp 12) 2, type := 0, pos := "law.go:262", after := #[{ on := 3, ground := Ground.guard }], guard := some (3, false) }) (v := .pointer (some ⟨xb, 2, none⟩)) rfl (by kernel_rfl) (by kernel_rfl) (by kernel_rfl) (fun _ _ _ h => h) (Or.inl ⟨by rfl, fun w' hSw => by clear hSw; go_simp⟩) (by assumption) ?_
              simp only [Act.put, List.setIfInBounds_toArray, List.set_cons_zero, List.set_cons_succ]
              refine wpAnyH_take (i := 11) (oi := { dst := some 104, op := Op.fieldAddr 82 (Operand.tmp 9) 2, type := 0, pos := "law.go:262", after := #[{ on := 3, ground := Ground.guard }], guard := some (3, false) }) (v := .pointer (some ⟨Bv, 2, none⟩)) rfl (by kernel_rfl) (by kernel_rfl) (by kernel_rfl) (fun _ _ _ h => h) (Or.inl ⟨by rfl, fun w' hSw => by clear hSw; go_simp⟩) (by assumption) ?_
              simp only [Act.put, List.setIfInBounds_toArray, List.set_cons_zero, List.set_cons_succ]
              refine wpAnyH_take (i := 13) (oi := { dst := some 106, op := Op.move (Operand.tmp 13), type := 3, pos := "law.go:262", after := #[{ on := 3, ground := Ground.guard }], guard := some (3, false) }) (v := .int .i64 (n : Int)) rfl (by kernel_rfl) (by kernel_rfl) (by kernel_rfl) (fun _ _ _ h => h) (Or.inl ⟨by rfl, fun w' hSw => by clear hSw; go_simp⟩) (by assumption) ?_
              simp only [Act.put, List.setIfInBounds_toArray, List.set_cons_zero, List.set_cons_succ]
              refine wpAnyH_take (i := 14) (oi := { dst := some 107, op := Op.load 45 (Operand.tmp 19), type := 45, pos := "law.go:262", after := #[{ on := 3, ground := Ground.guard }], guard := some (3, false) }) (v := .agg #[.int .i64 (t : Int), .int .i64 z.body.kind, .int .i64 z.body.level, .int .i64 z.body.right, .string z.body.high, .slice z.ab z.body.items.length z.cb]) rfl (by kernel_rfl) (by kernel_rfl) (by kernel_rfl) (fun _ _ _ h => h) (yieldsIf_load_pg (by rfl) _ rfl _ rfl (fun W hW => hW.2.2.2)) (by assumption) ?_
              simp only [Act.put, List.setIfInBounds_toArray, List.set_cons_zero, List.set_cons_succ]
              refine wpAnyH_take (i := 15) (oi := { dst := some 108, op := Op.move (Operand.tmp 14), type := 3, pos := "law.go:262", after := #[{ on := 3, ground := Ground.guard }], guard := some (3, false) }) (v := .int .i64 pk) rfl (by kernel_rfl) (by kernel_rfl) (by kernel_rfl) (fun _ _ _ h => h) (Or.inl ⟨by rfl, fun w' hSw => by clear hSw; go_simp⟩) (by assumption) ?_
              simp only [Act.put, List.setIfInBounds_toArray, List.set_cons_zero, List.set_cons_succ]
              refine wpAnyH_take (i := 5) (oi := { dst := some 98, op := Op.load 36 (Operand.tmp 97), type := 36, pos := "law.go:262", after := #[{ on := 4, ground := Ground.data }, { on := 3, ground := Ground.guard }], guard := some (3, false) }) (v := .pointer (some ⟨pa, 0, none⟩)) rfl (by kernel_rfl) (by kernel_rfl) (by kernel_rfl) (fun _ _ _ h => h) (yieldsIf_load_cell (by rfl) 36 _ rfl _ rfl (fun W hW => hW.1) (fun W hc => ld_pPool hc)) (by assumption) ?_
              simp only [Act.put, List.setIfInBounds_toArray, List.set_cons_zero, List.set_cons_succ]
              refine wpAnyH_take (i := 9) (oi := { dst := some 102, op := Op.load 3 (Operand.tmp 101), type := 3, pos := "law.go:262", after := #[{ on := 8, ground := Ground.data }, { on := 3, ground := Ground.guard }], guard := some (3, false) }) (v := .int .i64 z.pick) rfl (by kernel_rfl) (by kernel_rfl) (by kernel_rfl) (fun _ _ _ h => h) (yieldsIf_load_cell (by rfl) 3 _ rfl _ rfl (fun W hW => hW.2.2.1) (fun W hc => ld_int hc)) (by assumption) ?_
              simp only [Act.put, List.setIfInBounds_toArray, List.set_cons_zero, List.set_cons_succ]
              refine wpAnyH_take (i := 12) (oi := { dst := some 105, op := Op.load 36 (Operand.tmp 104), type := 36, pos := "law.go:262", after := #[{ on := 11, ground := Ground.data }, { on := 3, ground := Ground.guard }], guard := some (3, false) }) (v := .pointer (some ⟨pb, 0, none⟩)) rfl (by kernel_rfl) (by kernel_rfl) (by kernel_rfl) (fun _ _ _ h => h) (yieldsIf_load_cell (by rfl) 36 _ rfl _ rfl (fun W hW => hW.2.1) (fun W hc => ld_pPool hc)) (by assumption) ?_
              simp only [Act.put, List.setIfInBounds_toArray, List.set_cons_zero, List.set_cons_succ]
              refine wpAnyH_ready (rs := [10]) (by kernel_rfl) (by simp) ?_
              refine AllReadyH.cons (o := { dst := some 103, op := Op.call { callee := Callee.value (Operand.func 21), args := #[Operand.tmp 98, Operand.tmp 99, Operand.tmp 100, Operand.tmp 102], argTypes := #[36, 3, 45, 3] }, type := 24, pos := "law.go:262", after := #[{ on := 5, ground := Ground.data }, { on := 6, ground := Ground.data }, { on := 7, ground := Ground.data }, { on := 9, ground := Ground.data }, { on := 3, ground := Ground.chain }, { on := 3, ground := Ground.guard }], guard := some (3, false) }) rfl (fun K hK => ?_) (AllReadyH.nil)
              go_simp
              refine (HSA2.out _ _ (HS8.out.more (Only.drew _ _))).mono ?_
              rintro e w9 ⟨rfl, hs9, ho9⟩
              have HS9 := hide hs9
              have HOB9 := hide ((HOB8.out.kept (Only.drew (fun _ => False) _) (fun e => e)).kept ho9 (fun e => e.1 (.inl (.inr rfl))))
              have HPB9 := hide ((HPB.out.more (Only.drew _ _)).kept ho9 (fun e => e.1 (.inr rfl)))
              clear hs9 ho9
              refine hK.out _ _ (⟨HS9.out.va.c2, HS9.out.vb.c2, HOB9.out.c2, HPB9.out⟩) (fun hHeld => ?_)
              clear hK K
              try simp only [Act.put, List.setIfInBounds_toArray, List.set_cons_zero, List.set_cons_succ]
              refine wpAnyH_ready (rs := [16]) (by kernel_rfl) (by simp) ?_
              refine AllReadyH.cons (o := { dst := some 109, op := Op.call { callee := Callee.value (Operand.func 21), args := #[Operand.tmp 105, Operand.tmp 106, Operand.tmp 107, Operand.tmp 108], argTypes := #[36, 3, 45, 3] }, type := 24, pos := "law.go:262", after := #[{ on := 12, ground := Ground.data }, { on := 13, ground := Ground.data }, { on := 14, ground := Ground.data }, { on := 15, ground := Ground.data }, { on := 10, ground := Ground.chain }, { on := 3, ground := Ground.guard }], guard := some (3, false) }) rfl (fun K hK => ?_) (AllReadyH.nil)
              go_simp
              refine (HSB2.out _ _ HS9.out).mono ?_
              rintro e w10 ⟨rfl, hs10, ho10⟩
              have HS10 := hide hs10
              have HOB10 := hide (HOB9.out.kept ho10 (fun e => e.1.1 (.inl (.inr rfl))))
              have HPB10 := hide (HPB9.out.kept ho10 (fun e => e.1.1 (.inr rfl)))
              clear hs10 ho10
              refine hK.out _ _ (⟨HS10.out.va.c2, HS10.out.vb.c2, HOB10.out.c2, HPB10.out⟩) (fun hHeld => ?_)
              clear hK K
              try simp only [Act.put, List.setIfInBounds_toArray, List.set_cons_zero, List.set_cons_succ]
              refine wpAnyH_take (i := 17) (oi := { dst := some 110, op := Op.binOp BinOp.neq 24 (Operand.tmp 103) (Operand.tmp 109) 24, type := 4, pos := "law.go:262", after := #[{ on := 10, ground := Ground.data }, { on := 16, ground := Ground.data }, { on := 3, ground := Ground.guard }], guard := some (3, false) }) (v := .bool false) rfl (by kernel_rfl) (by kernel_rfl) (by kernel_rfl) (fun _ _ _ h => h) (Or.inl ⟨by rfl, fun w' hSw => by clear hSw; go_simp⟩) (by assumption) ?_
              simp only [Act.put, List.setIfInBounds_toArray, List.set_cons_zero, List.set_cons_succ]
              refine wpAnyH_take (i := 18) (oi := { dst := some 111, op := Op.pick (Operand.tmp 96) (Operand.const (Value.bool true)) (Operand.tmp 110), type := 4, pos := "law.go:262", after := #[{ on := 3, ground := Ground.data }, { on := 17, ground := Ground.data }], guard := none }) (v := .bool false) rfl (by kernel_rfl) (by kernel_rfl) (by kernel_rfl) (fun _ _ _ h => h) (Or.inl ⟨by rfl, fun w' hSw => by clear hSw; go_simp⟩) (by assumption) ?_
              simp only [Act.put, List.setIfInBounds_toArray, List.set_cons_zero, List.set_cons_succ]
              refine wpAnyH_done (by kernel_rfl) ?_ _
              refine NoPanic.normal ?_
              go_wp2_with fail
              go_meet
              exact ⟨ntl t, C2, by have := (ntl_le t).2; omega, HS10.out.down (fun k e => .inl e) (.inl (.inl rfl)) (.inl (.inr rfl)), HOB10⟩
            · have a1 : (z.ask == 1) = false := by simp [h1]
              clear h1
              go_wp2_with fail
              go_meet
              exact ⟨t, C, by omega, HS1, HOB0⟩
          case rest =>
            obtain ⟨t2, C2, ht2, HS2, HOB2⟩ := hcut
            clear HS1 HOB0
            obtain ⟨pg, hpg⟩ : ∃ pg, fetP (C2 n) = pg := ⟨_, rfl⟩
            obtain ⟨fc, hfc⟩ : ∃ fc, fetC (C2 n) = fc := ⟨_, rfl⟩
            have HG := hide (And.intro hpg hfc)
            clear hpg hfc
            have v2 := HS2.out.va.c2
            have x2 := HOB2.out.c2
            go_wp2_with fail
            clear v2 x2
            refine (sq_fetchA HS2.out n HN12.out z.pick pg fc HG.out.1 HG.out.2).mono ?_
            rintro e w5 ⟨Bq, aq, cq, rfl, hS5, hB5, hs5, ho5⟩
            have HS5 := hide hs5
            have HB5 := hide hB5
            have HT5 := hide hS5
            clear hS5 hB5 hs5 ho5
            go_upto_region 21 with fail
            have HPS0 := hide (Pag.new w5 (.int .i64 pg.lsn) (.int .i64 pg.kind) (.int .i64 pg.level) (.int .i64 pg.right) (.string pg.high) (.slice aq pg.items.length cq))
            have HS6 := hide (HS5.out.var (.cells #[.int .i64 pg.lsn, .int .i64 pg.kind, .int .i64 pg.level, .int .i64 pg.right, .string pg.high, .slice aq pg.items.length cq] 45))
            have HT6 := hide (HT5.out.more (onlyA w5 (.cells #[.int .i64 pg.lsn, .int .i64 pg.kind, .int .i64 pg.level, .int .i64 pg.right, .string pg.high, .slice aq pg.items.length cq] 45)))
            obtain ⟨sb, hsb⟩ : ∃ b, w5.heap.size = b := ⟨_, rfl⟩
            obtain ⟨W6, hW6⟩ : ∃ W, W = w5.alloc (.cells #[.int .i64 pg.lsn, .int .i64 pg.kind, .int .i64 pg.level, .int .i64 pg.right, .string pg.high, .slice aq pg.items.length cq] 45) := ⟨_, rfl⟩
            rw [hsb] at HPS0 HS6 ⊢
            rw [← hW6] at HPS0 HS6 HT6 ⊢
            clear hsb hW6 HS5 HT5
            have u2 := HS6.out.vb.c2
            go_wp2_with fail
            clear u2
            refine (sq_fetchB HS6.out n HN12.out pk pg fc HG.out.1 HG.out.2).mono ?_
            rintro e w7 ⟨Br, ar, cr, rfl, hS7, hB7, hs7, ho7⟩
            have HPS7 := hide (HPS0.out.kept ho7 (fun e => e.1.1 (.inr rfl)))
            have HT7 := hide (HT6.out.kept ho7 (fun h0 e => by have h1 := HB5.out h0; have h2 := e.2; omega))
            have HS7 := hide hs7
            have HU7 := hide hS7
            clear hS7 hB7 hs7 ho7 HS6 HT6 HPS0 HB5
            go_upto_region 22 with fail
            have HPT := hide (Pag.new w7 (.int .i64 pg.lsn) (.int .i64 pg.kind) (.int .i64 pg.level) (.int .i64 pg.right) (.string pg.high) (.slice ar pg.items.length cr))
            have hoa := onlyA w7 (.cells #[.int .i64 pg.lsn, .int .i64 pg.kind, .int .i64 pg.level, .int .i64 pg.right, .string pg.high, .slice ar pg.items.length cr] 45)
            obtain ⟨tb, htb⟩ : ∃ b, w7.heap.size = b := ⟨_, rfl⟩
            obtain ⟨W8, hW8⟩ : ∃ W, W = w7.alloc (.cells #[.int .i64 pg.lsn, .int .i64 pg.kind, .int .i64 pg.level, .int .i64 pg.right, .string pg.high, .slice ar pg.items.length cr] 45) := ⟨_, rfl⟩
            rw [htb] at HPT ⊢
            rw [← hW8] at HPT hoa ⊢
            have HS8 := hide (HS7.out.more hoa)
            have HPS8 := hide (HPS7.out.more hoa)
            have HSM := hide (ysame_any W8 pg.lsn pg.kind pg.level pg.right pg.lsn pg.kind pg.level pg.right pg.high pg.high Bq Br cq cr aq ar pg.items pg.items (HT7.out.more hoa) (HU7.out.more hoa))
            rw [show decide (pg.lsn = pg.lsn ∧ pg.kind = pg.kind ∧ pg.level = pg.level ∧ pg.right = pg.right ∧ pg.high = pg.high ∧ pg.items = pg.items) = true by simp] at HSM
            clear htb hW8 hoa HS7 HT7 HU7 HPS7
            obtain ⟨p0, p1, p2, p3, p4, p5, _⟩ := HPS8.out
            obtain ⟨q0, q1, q2, q3, q4, q5, _⟩ := HPT.out
            go_wp2_with fail
            refine HSM.out.mono ?_
            rintro e w9 ⟨rfl, ho9⟩
            have HS9 := hide ((HS8.out.more ho9).up.down (X' := fun k => k = A ∨ k = Bv) (fun k e => .inl (.inl e)) (.inl rfl) (.inr rfl))
            clear ho9 HS8 HPS8 HPT HSM p0 p1 p2 p3 p4 p5 q0 q1 q2 q3 q4 q5 HS2 HOB2 HG
            go_wp2_with fail
            go_roundw
            case rel => exact ⟨j + 1, t2, C2, by omega, by omega, ht2, by go_num, HS9⟩
            case measure => simp [intOf]; omega
      · have h2 : ¬ (j : Int) < 100 := by omega
        go_wp2_with fail
        refine (oawake_any wr).mono ?_
        rintro e w9 ⟨rfl, ho9⟩
        have HO9 := hide (o2 HS.out.tw.only ho9)
        clear ho9 HS
        go_wp2_with fail
        go_ret
        exact ⟨rfl, HO9.out⟩
    · have h2 : ¬ (j : Int) < (L.length : Int) := by omega
      go_wp2_with fail
      refine (oawake_any wr).mono ?_
      rintro e w9 ⟨rfl, ho9⟩
      have HO9 := hide (o2 HS.out.tw.only ho9)
      clear ho9 HS
      go_wp2_with fail
      go_ret
      exact ⟨rfl, HO9.out⟩
end Go.Proofs.YtbfafijfhaejmaaGreatDoor

namespace Go.Proofs.YtbfafijfhaejmaaGreatDoor
open Go.ChangeShapes Go.WideShapes Go.ChangeAt Go.RowKit

theorem ownKnob_none : ownKnob Tryz.prog.godebug = none := by kernel_rfl
theorem gFirst : Tryz.prog.globalNamed "unicode/utf8.first" = some 1 := by kernel_rfl
theorem gRanges : Tryz.prog.globalNamed "unicode/utf8.acceptRanges" = some 2 := by kernel_rfl
def putCells (cs : Array Value) : Obj → Obj
  | .cells _ t frozen => .cells cs t frozen
  | o => o
def firstCells : Array Value := (Go.Pinned.utf8FirstZ.map fun n : Nat => Value.int .u8 (n : Int)).toArray
def rangeCells : Array Value := #[.int .u8 128, .int .u8 191, .int .u8 160, .int .u8 191, .int .u8 128, .int .u8 159, .int .u8 144, .int .u8 191, .int .u8 128, .int .u8 143, .int .u8 0, .int .u8 0, .int .u8 0, .int .u8 0, .int .u8 0, .int .u8 0, .int .u8 0, .int .u8 0, .int .u8 0, .int .u8 0, .int .u8 0, .int .u8 0, .int .u8 0, .int .u8 0, .int .u8 0, .int .u8 0, .int .u8 0, .int .u8 0, .int .u8 0, .int .u8 0, .int .u8 0, .int .u8 0]
noncomputable def settled (os : Os) : World := World.holding Tryz.prog os ⟨#[], #[], []⟩
/-- A world for the witness: the settled one, the two tables as they are laid. -/
noncomputable def laidWorld (os : Os) : World := { settled os with heap := ((settled os).heap.modify 1 (putCells firstCells)).modify 2 (putCells rangeCells) }
theorem sized_mem {H : Type} {ts : List TypeId} {ds : List (DataW H)} (h : (DataW.weightsEach Tryz.prog ts ds).all (· ≤ reachBytes) = true) {j : Nat} {t : TypeId} {d : DataW H} (ht : ts[j]? = some t) (hd : ds[j]? = some d) : ∀ n ∈ d.weights Tryz.prog t, n ≤ reachBytes := by
  intro n hn
  have := List.all_eq_true.1 h _ (DataW.weights_mem_each ht hd n hn)
  simpa using this
end Go.Proofs.YtbfafijfhaejmaaGreatDoor

namespace Go.Proofs.YtbfafijfhaejmaaGreatDoor.poolPicks
open Go.ChangeShapes Go.WideShapes Go.ChangeAt Go.RowKit

theorem laid_met (os : Os) : laidMet Tryz.prog Rows.poolPicksRow.laid ((laidWorld os).forCall (fun _ _ => 0) ⟨#[], #[.int .i64 0, .slice none 0 0, .slice none 0 0], []⟩).memory :=
  laidMet_of_run' 8 (by kernel_rfl) (by kernel_rfl)
set_option maxRecDepth 100000 in
theorem lifted (os : Os) (started : os.Started) (H : Type) (enc : TypeId × Value → H) (F : Stop.Interp) :
    ReturnsInHanded {} Tryz.checked os 7 .any ((OpenSpec.ofChange Rows.poolPicksSpec).preRow enc Tryz.prog Tryz.f7 Rows.poolPicksRow.domain false Rows.poolPicksRow.laid) (((OpenSpec.ofChange Rows.poolPicksSpec).at F).post enc Tryz.prog Tryz.f7 false true false false) := by
  refine returnsInHanded_of_row (C := Tryz.checked) (s := OpenSpec.ofChange Rows.poolPicksSpec) ownKnob_none started (by kernel_rfl) Tryz.func7
    (witness_row_at (enc := enc) (C := Tryz.checked) false (laidWorld os) #[.int .i64 0, .slice none 0 0, .slice none 0 0] rfl (by kernel_rfl) (by kernel_rfl) (by kernel_rfl)
      (OpenSpec.preRow_of_cond (x := ([.lit (.int .i64 0), .nil, .nil], [], [])) 8 (by kernel_rfl) (by kernel_rfl) (fun k hk => by cases hk) (by kernel_rfl) (laid_met os))) ?_
  intro W base args ds gs before hval0 hW _ _ hsz _ _ _
  have hval : ∀ (j : Nat) t v, Tryz.f7.params[j]? = some t → args[j]? = some v → Value.okWide Tryz.prog W .any base t v := hval0
  have hW' := hW
  obtain ⟨p, q, hA0, hV, rfl, hfz, hnd⟩ := hW
  have hA : DataW.TrodAll enc Tryz.prog W 0 (fun _ => true) true Tryz.f7.params.toList args.toList ds p := hA0
  rw [Tryz.params7] at hA hval hsz
  obtain ⟨v0, vs0, d0, ds0, p0, q0, hargs, rfl, rfl, h0, r0⟩ := trodAll_cons hA
  obtain ⟨v1, vs1, d1, ds1, p1, q1, hargs1, rfl, rfl, h1, r1⟩ := trodAll_cons r0
  obtain ⟨v2, vs2, d2, ds2, p2, q2, hargs2, rfl, rfl, h2, r2⟩ := trodAll_cons r1
  obtain ⟨rfl, rfl, rfl⟩ := trodAll_nil r2
  obtain rfl : args = #[v0, v1, v2] := by cases args; simp_all
  obtain ⟨rfl, rfl⟩ := trodVars_none hV
  obtain ⟨a0, rfl, rfl, rfl, w0⟩ := open_int Tryz.underlying3 (hval 0 3 v0 rfl rfl) h0
  obtain ⟨B, ao, cp, l, rfl, hat⟩ := open_oops (hval 1 22 v1 rfl rfl) h1 (sized_mem hsz (j := 1) rfl rfl)
  obtain ⟨Bp, ap, cpp, lp, rfl, hatp⟩ := open_zs (hval 2 54 v2 rfl rfl) h2 (sized_mem hsz (j := 2) rfl rfl)
  have lt1 : ∀ x ∈ p1, x.block < W.heap.size := fun x hx => hW'.lt x (by simp [hx])
  have lt2 : ∀ x ∈ p2, x.block < W.heap.size := fun x hx => hW'.lt x (by simp [hx])
  clear hA0 hval0
  simp only [List.append_nil] at hW'
  refine (picks_law W a0 B cp ao l hat Bp cpp ap lp hatp).mono fun e W' ⟨he, ho⟩ => ?_
  subst he
  have bel : Below W.heap.size W W' := ho.below (Nat.le_refl _) (fun _ _ h => h)
  exact ⟨_, rfl, _, _, _, [], _, [], hW', trodAll_mk1 (shut_bool Tryz.underlying4 _), (trodAll_cons_mk (shut_int Tryz.underlying3 w0) (trodAll_cons_mk (Below.trod Tryz.laidOut (by kernel_rfl) (of_decide_eq_true (by kernel_rfl)) h1 bel lt1) (trodAll_cons_mk (Below.trod Tryz.laidOut (by kernel_rfl) (of_decide_eq_true (by kernel_rfl)) h2 bel lt2) trodAll_mk0))), rfl, bel.frame _, fun h => by cases h⟩

theorem said : Rows.PoolPicksSaid :=
  OpenClaim.holds_of_cond 7 Tryz.f7 rfl rfl rfl rfl rfl rfl rfl ⟨rfl, rfl, rfl, rfl, rfl⟩ rfl rfl rfl rfl rfl (by kernel_rfl) Tryz.func7 (by kernel_rfl)
    (of_decide_eq_true (by kernel_rfl)) (by unfold Func.isWrapper; first | (rw [if_pos (by decide +kernel)]; kernel_rfl) | (rw [if_neg (by decide +kernel)]; exact ⟨rfl, rfl⟩))
    (fun os started H enc _ F => by rw [OpenClaim.pre_eq_preRow]; exact lifted os started H enc F)
theorem plain (f : FuncId) (fn : Func) (hf : Tryz.pinned.checked.prog.funcNamed "almonry/almonrylaw06.PoolPicks" = some f) (hfn : Tryz.pinned.checked.prog.funcs[f]? = some fn) :
    false = Tryz.pinned.checked.prog.looks [] ∧ ∀ (j : Nat) t, fn.params[j]? = some t → Tryz.pinned.checked.prog.wantsStandIn t = false := by
  obtain rfl : f = 7 := Option.some.inj ((show Tryz.prog.funcNamed "almonry/almonrylaw06.PoolPicks" = some 7 by kernel_rfl).symm.trans hf) |>.symm
  obtain rfl : fn = Tryz.f7 := (Option.some.inj (Tryz.func7.symm.trans hfn)).symm
  refine ⟨by kernel_rfl, fun j t ht => ?_⟩
  rw [Tryz.params7] at ht
  have ht' : t = 3 ∨ t = 22 ∨ t = 54 := by simpa using Array.mem_of_getElem? ht
  rcases ht' with e | e | e <;> subst e
  · exact (show Tryz.prog.wantsStandIn 3 = false by kernel_rfl)
  · exact (show Tryz.prog.wantsStandIn 22 = false by kernel_rfl)
  · exact (show Tryz.prog.wantsStandIn 54 = false by kernel_rfl)
theorem card : Rows.PoolPicksCardSaid :=
  Claim7.holds_tied_plain_at .later [] _ _ _ _ said (fun _ h => by cases h) (by kernel_rfl) (fun _ h => by cases h) poolPicks_row_tie rfl ⟨rfl, rfl⟩ (by kernel_rfl) rfl plain (by kernel_rfl)
end Go.Proofs.YtbfafijfhaejmaaGreatDoor.poolPicks
namespace Go.Proofs.YtbfafijfhaejmaaGreatDoor
theorem poolPicks_holds : Rows.PoolPicksCardSaid := poolPicks.card
#print axioms poolPicks_holds
end Go.Proofs.YtbfafijfhaejmaaGreatDoor
