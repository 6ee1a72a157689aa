/- Parts. -/
import Derived.Test.YtajjakljheafjaaGreatK47
import Derived.Test.YtajjakljheafjaaGreatK46
set_option maxRecDepth 100000
namespace Go.Proofs.YtajjakljheafjaaGreat
open Go.RowKit
theorem show_cell {w W : World} {B at_ : Nat} {s : Sh} (h : w.rangeAt B at_ s.cl) (ho : Only (fun _ => False) w W) (hl : B < w.heap.size) (i : Nat) {v : Value} (hv : s.cl[i]? = some v) : W.cell? ⟨B, at_ + i, none⟩ = some v := (ho.cell (p := ⟨B, at_ + i, none⟩) hl id).trans (h i v hv)
theorem show_view {w W : World} {B at_ : Nat} {s : Sh} (h : w.rangeAt B at_ s.cl) (ho : Only (fun _ => False) w W) (hl : B < w.heap.size) : W.rangeAt B (at_ + 7) (vvO s.V s.q).ar.toList := fun j v hv => by
  have hj : j < 11 := (List.getElem?_eq_some_iff.1 hv).1
  have : s.cl[7 + j]? = some v := by rw [← hv]; match j, hj with | 0, _ | 1, _ | 2, _ | 3, _ | 4, _ | 5, _ | 6, _ | 7, _ | 8, _ | 9, _ | 10, _ => rfl
  have q := show_cell h ho hl (7 + j) this
  rwa [← Nat.add_assoc] at q
theorem show_page {w W : World} {B at_ : Nat} {s : Sh} (h : w.rangeAt B at_ s.cl) (ho : Only (fun _ => False) w W) (hl : B < w.heap.size) : W.rangeAt B (at_ + 1) (pvS s).ar.toList := fun j v hv => by
  have hj : j < 6 := (List.getElem?_eq_some_iff.1 hv).1
  have : s.cl[1 + j]? = some v := by rw [← hv]; match j, hj with | 0, _ | 1, _ | 2, _ | 3, _ | 4, _ | 5, _ => rfl
  have q := show_cell h ho hl (1 + j) this
  rwa [← Nat.add_assoc] at q
theorem yieldsIf_load_viewR {ops : Array Oper} {S : World → Prop} {op : Oper} {a : Act} {V : Vv} (hw : Region.wanted op (yielded ops a.tmps) = true) (x : Operand) (ho : op.op = .load 42 x)
    {b o : Nat} (hx : a.eval x = .pointer (some ⟨b, o, none⟩)) (hS : ∀ w, S w → w.rangeAt b o V.ar.toList) : YieldsIf Tryz.prog ops S op (.agg V.ar) a :=
  yieldsIf_load_mid hw 42 x ho b o hx V.ar.toList _ hS Tryz.underlying42 rfl Tryz.sizeViewF
theorem yieldsIf_load_pageR {ops : Array Oper} {S : World → Prop} {op : Oper} {a : Act} {B : Pv} (hw : Region.wanted op (yielded ops a.tmps) = true) (x : Operand) (ho : op.op = .load 37 x)
    {b o : Nat} (hx : a.eval x = .pointer (some ⟨b, o, none⟩)) (hS : ∀ w, S w → w.rangeAt b o B.ar.toList) : YieldsIf Tryz.prog ops S op (.agg B.ar) a :=
  yieldsIf_load_mid hw 37 x ho b o hx B.ar.toList _ hS Tryz.underlying37 rfl Tryz.sizePageB
theorem begun_chg {a : Aq} {own : Int} (h : a.c = 3 ∨ a.c = 4) : Pn.begun a own = { Pn.start a own with wk := 1, wkey := a.key } := by
  unfold Pn.begun
  rw [if_pos (by unfold Pn.chg Pn.start; rcases h with h | h <;> simp [h])]
/-- A plan that waits for its key. -/
structure Wt (P : Pn) (key : ByteArray) : Prop where
  wk : P.wk = 1
  wkey : P.wkey = key
  ws : P.ws = 0
  wp : P.wp = 0
set_option maxRecDepth 100000 in
set_option maxHeartbeats 6400000 in
theorem locks_law (w : World) (a : Aq) (B cp : Nat) (ao : Option Addr) (l : List Sh) (hS : Shs w B ao l) (e : Int) (he : 0 ≤ e ∧ e ≤ 255) :
    Calls Tryz.prog 7 #[.agg a.ar, .slice ao l.length cp, .int .u8 e] w fun x w' => x = .returned (.bool true) ∧ Only (fun _ => False) w w' := by
  have HO := hide (onlyA w (.cells a.ar 24))
  have HB := hide (Cb.new w a.ar.toList 24)
  have HSH := hide (hS.kept HO.out (fun _ e => e.elim))
  have hlen := hS.len
  have HNN := hide (fun W => New_no W a 5)
  have HNO := hide (fun W => New_ok W a 5)
  have HE := hide he
  clear hS he
  unfold Aq.ar at *
  obtain ⟨W0, hW0⟩ : ∃ x, w.alloc (.cells #[.int .u8 a.c, .string a.key, .string a.tok, .string a.val, .int .i64 a.n] 24) = x := ⟨_, rfl⟩
  have HB : Hid (Cb W0 w.heap.size [.int .u8 a.c, .string a.key, .string a.tok, .string a.val, .int .i64 a.n]) := by rw [← hW0]; exact HB.out
  rw [hW0] at HO HSH
  have HW0 := hide hW0
  clear hW0
  have a0 := HB.out.c 0 _ rfl
  have a1 := HB.out.c 1 _ rfl
  have a2 := HB.out.c 2 _ rfl
  have a3 := HB.out.c 3 _ rfl
  have a4 := HB.out.c 4 _ rfl
  by_cases hch : a.c = 3 ∨ a.c = 4
  · have HCH := hide hch
    have hb : (a.c != 3) = false ∨ ((a.c != 3) = true ∧ (a.c != 4) = false) := by
      rcases hch with q | q
      · exact .inl (by simp [q])
      · exact .inr ⟨by simp [q], by simp [q]⟩
    clear hch
    cases hk : a.ok 5
    · have HNQ := hide (HNN.out W0 hk)
      clear HNN HNO hk HSH
      go_enter Tryz.func7, Tryz.ntmps7
      go_upto_region 1 with fail
      rw [HW0.out]
      clear HW0
      go_cut [20] (fun x wx => x = .bool false ∧ wx = W0)
      case first =>
        rcases hb with hb | ⟨hb, hb2⟩
        all_goals go_wp2_with fail
        all_goals go_meet
        all_goals exact ⟨rfl, rfl⟩
      case rest =>
        obtain ⟨rfl, hwx⟩ := hcut
        obtain rfl := hwx.symm
        go_wp2_with fail
        refine HNQ.out.mono ?_
        rintro x w1 ⟨rfl, ho⟩
        have HO1 := hide (o2 HO.out ho)
        clear ho HNQ a0 a1 a2 a3 a4
        go_wp2_with fail
        refine (lwawake_any w1).mono ?_
        rintro x w2 ⟨rfl, ho⟩
        have HO2 := hide (o2 HO1.out ho)
        clear ho
        go_wp2_with fail
        go_ret
        exact ⟨rfl, HO2.out⟩
    · have HNQ := hide (HNO.out W0 hk)
      rw [begun_chg HCH.out] at HNQ
      have HWT0 : Hid (Wt { Pn.start a 5 with wk := 1, wkey := a.key } a.key) := ⟨rfl, rfl, rfl, rfl⟩
      obtain ⟨P0, hP0⟩ : ∃ P, { Pn.start a 5 with wk := 1, wkey := a.key } = P := ⟨_, rfl⟩
      rw [hP0] at HNQ HWT0
      clear HNN HNO hk hP0
      go_enter Tryz.func7, Tryz.ntmps7
      go_upto_region 1 with fail
      rw [HW0.out]
      clear HW0
      go_cut [20] (fun x wx => x = .bool false ∧ wx = W0)
      case first =>
        rcases hb with hb | ⟨hb, hb2⟩
        all_goals go_wp2_with fail
        all_goals go_meet
        all_goals exact ⟨rfl, rfl⟩
      case rest =>
        obtain ⟨rfl, hwx⟩ := hcut
        obtain rfl := hwx.symm
        clear hb
        go_wp2_with fail
        refine HNQ.out.mono ?_
        rintro x w1 ⟨p, hpn, rfl, hp, ho⟩
        have HP1 := hide hp
        have HO1 := hide (o2 HO.out ho)
        have HB1 := hide (HB.out.more ho)
        have HX1 := hide ho
        have HPN : Hid (W0.heap.size ≤ p) := hpn
        have HBW : Hid (w.heap.size < W0.heap.size) := HB.out.lt
        clear hp hpn ho HNQ a0 a1 a2 a3 a4 HO HB
        go_wp2_with fail
        go_loopw [9] (fun y wr => ∃ (j : Nat), j ≤ l.length ∧ y = .int .i64 (j : Int) ∧ Hid (Pm wr (fun k => k = p) p P0) ∧ Hid (Only (fun k => k = p) w1 wr)) (fun y _ => l.length - (intOf y).toNat)
        case atStart => exact ⟨0, by omega, rfl, HP1, hide (Only.refl _ _)⟩
        case round =>
          obtain ⟨j, hj, rfl, HP, HOW⟩ := hrel
          have HSR := hide (HSH.out.kept ((HX1.out.mono (fun _ _ e => e.elim)).trans HOW.out (fun _ _ e => e) : Only (fun k => k = p) W0 wr) (fun b e => by rw [e]; exact HPN.out))
          by_cases hlt : j < l.length
          · obtain ⟨o, hao, hcell⟩ := HSR.out.at_ (by omega)
            have HRG := hide (hcell j hlt)
            have HLT : Hid (B < wr.heap.size) := HSR.out.lt (by omega)
            have HBL : Hid (B < W0.heap.size) := HSH.out.lt (by omega)
            subst hao
            obtain ⟨s, hs⟩ : ∃ s, l[j] = s := ⟨_, rfl⟩
            rw [hs] at HRG
            clear hs hcell
            have hj0 : (0 : Int) ≤ (j : Int) := by omega
            have hj1 : (j : Int) < (l.length : Int) := by omega
            have HPG : Hid (∀ W, Only (fun _ => False) wr W → Calls Tryz.prog 12 #[.pointer (some ⟨p, 0, none⟩), .agg (vvO s.V s.q).ar, .agg (pvS s).ar, .slice s.fa s.fr.length s.fc] W (NoP W)) := fun W ho => page_no W _ _ _ _ _ _ (fun W2 ho2 => by
              have := wants_any W2 _ p P0 ((HP.out.more ho).more ho2) 3
              rw [HWT0.out.wk] at this
              exact this)
            go_upto_region 9 with fail
            go_cut [10, 11] (fun x y wx => ∃ b, x = .pointer (some ⟨b, 0, none⟩) ∧ y = .bool false ∧ Hid (Pm wx (fun k => k = p) p P0) ∧ Hid (Only (fun k => k = p) wr wx))
            case first =>
              refine wp_region_noPanic ?_
              refine wp_region_held_drew (S := fun W => Only (fun _ => False) wr W) (by kernel_rfl) (Only.drew _ _) (fun hHeld => ?_)
              refine wpAnyH_take (i := 0) (oi := { dst := some 45, op := Op.move (Operand.tmp 7), type := 27, pos := "law.go:293", after := #[], guard := none }) (v := .pointer (some ⟨p, 0, none⟩)) rfl (by kernel_rfl) (by kernel_rfl) (by kernel_rfl) (fun _ _ _ h => h) (Or.inl ⟨by rfl, fun w' hSw => by clear hSw; go_simp⟩) (by assumption) ?_
              simp only [Act.put, List.setIfInBounds_toArray, List.set_cons_zero, List.set_cons_succ]
              refine wpAnyH_take (i := 1) (oi := { dst := some 46, op := Op.move (Operand.tmp 1), type := 25, pos := "law.go:293", after := #[], guard := none }) (v := .slice (some ⟨B, o, none⟩) l.length cp) rfl (by kernel_rfl) (by kernel_rfl) (by kernel_rfl) (fun _ _ _ h => h) (Or.inl ⟨by rfl, fun w' hSw => by clear hSw; go_simp⟩) (by assumption) ?_
              simp only [Act.put, List.setIfInBounds_toArray, List.set_cons_zero, List.set_cons_succ]
              refine wpAnyH_take (i := 2) (oi := { dst := some 47, op := Op.move (Operand.tmp 9), type := 3, pos := "law.go:293", after := #[], guard := none }) (v := .int .i64 (j : Int)) rfl (by kernel_rfl) (by kernel_rfl) (by kernel_rfl) (fun _ _ _ h => h) (Or.inl ⟨by rfl, fun w' hSw => by clear hSw; go_simp⟩) (by assumption) ?_
              simp only [Act.put, List.setIfInBounds_toArray, List.set_cons_zero, List.set_cons_succ]
              refine wpAnyH_take (i := 6) (oi := { dst := some 51, op := Op.move (Operand.tmp 1), type := 25, pos := "law.go:293", after := #[], guard := none }) (v := .slice (some ⟨B, o, none⟩) l.length cp) rfl (by kernel_rfl) (by kernel_rfl) (by kernel_rfl) (fun _ _ _ h => h) (Or.inl ⟨by rfl, fun w' hSw => by clear hSw; go_simp⟩) (by assumption) ?_
              simp only [Act.put, List.setIfInBounds_toArray, List.set_cons_zero, List.set_cons_succ]
              refine wpAnyH_take (i := 7) (oi := { dst := some 52, op := Op.move (Operand.tmp 9), type := 3, pos := "law.go:293", after := #[], guard := none }) (v := .int .i64 (j : Int)) rfl (by kernel_rfl) (by kernel_rfl) (by kernel_rfl) (fun _ _ _ h => h) (Or.inl ⟨by rfl, fun w' hSw => by clear hSw; go_simp⟩) (by assumption) ?_
              simp only [Act.put, List.setIfInBounds_toArray, List.set_cons_zero, List.set_cons_succ]
              refine wpAnyH_take (i := 11) (oi := { dst := some 56, op := Op.move (Operand.tmp 1), type := 25, pos := "law.go:293", after := #[], guard := none }) (v := .slice (some ⟨B, o, none⟩) l.length cp) rfl (by kernel_rfl) (by kernel_rfl) (by kernel_rfl) (fun _ _ _ h => h) (Or.inl ⟨by rfl, fun w' hSw => by clear hSw; go_simp⟩) (by assumption) ?_
              simp only [Act.put, List.setIfInBounds_toArray, List.set_cons_zero, List.set_cons_succ]
              refine wpAnyH_take (i := 12) (oi := { dst := some 57, op := Op.move (Operand.tmp 9), type := 3, pos := "law.go:293", after := #[], guard := none }) (v := .int .i64 (j : Int)) rfl (by kernel_rfl) (by kernel_rfl) (by kernel_rfl) (fun _ _ _ h => h) (Or.inl ⟨by rfl, fun w' hSw => by clear hSw; go_simp⟩) (by assumption) ?_
              simp only [Act.put, List.setIfInBounds_toArray, List.set_cons_zero, List.set_cons_succ]
              refine wpAnyH_take (i := 3) (oi := { dst := some 48, op := Op.indexAddr 25 (Operand.tmp 46) (Operand.tmp 47), type := 0, pos := "law.go:293", after := #[{ on := 1, ground := Ground.data }, { on := 2, ground := Ground.data }], guard := none }) (v := .pointer (some ⟨B, o + j * 22, none⟩)) rfl (by kernel_rfl) (by kernel_rfl) (by kernel_rfl) (fun _ _ _ h => h) (Or.inl ⟨by rfl, fun w' hSw => by clear hSw; go_simp⟩) (by assumption) ?_
              simp only [Act.put, List.setIfInBounds_toArray, List.set_cons_zero, List.set_cons_succ]
              refine wpAnyH_take (i := 8) (oi := { dst := some 53, op := Op.indexAddr 25 (Operand.tmp 51) (Operand.tmp 52), type := 0, pos := "law.go:293", after := #[{ on := 6, ground := Ground.data }, { on := 7, ground := Ground.data }], guard := none }) (v := .pointer (some ⟨B, o + j * 22, none⟩)) rfl (by kernel_rfl) (by kernel_rfl) (by kernel_rfl) (fun _ _ _ h => h) (Or.inl ⟨by rfl, fun w' hSw => by clear hSw; go_simp⟩) (by assumption) ?_
              simp only [Act.put, List.setIfInBounds_toArray, List.set_cons_zero, List.set_cons_succ]
              refine wpAnyH_take (i := 13) (oi := { dst := some 58, op := Op.indexAddr 25 (Operand.tmp 56) (Operand.tmp 57), type := 0, pos := "law.go:293", after := #[{ on := 11, ground := Ground.data }, { on := 12, ground := Ground.data }], guard := none }) (v := .pointer (some ⟨B, o + j * 22, none⟩)) rfl (by kernel_rfl) (by kernel_rfl) (by kernel_rfl) (fun _ _ _ h => h) (Or.inl ⟨by rfl, fun w' hSw => by clear hSw; go_simp⟩) (by assumption) ?_
              simp only [Act.put, List.setIfInBounds_toArray, List.set_cons_zero, List.set_cons_succ]
              refine wpAnyH_take (i := 4) (oi := { dst := some 49, op := Op.fieldAddr 44 (Operand.tmp 48) 2, type := 0, pos := "law.go:293", after := #[{ on := 3, ground := Ground.data }], guard := none }) (v := .pointer (some ⟨B, o + j * 22 + 7, none⟩)) rfl (by kernel_rfl) (by kernel_rfl) (by kernel_rfl) (fun _ _ _ h => h) (Or.inl ⟨by rfl, fun w' hSw => by clear hSw; go_simp⟩) (by assumption) ?_
              simp only [Act.put, List.setIfInBounds_toArray, List.set_cons_zero, List.set_cons_succ]
              refine wpAnyH_take (i := 9) (oi := { dst := some 54, op := Op.fieldAddr 44 (Operand.tmp 53) 1, type := 0, pos := "law.go:293", after := #[{ on := 8, ground := Ground.data }], guard := none }) (v := .pointer (some ⟨B, o + j * 22 + 1, none⟩)) rfl (by kernel_rfl) (by kernel_rfl) (by kernel_rfl) (fun _ _ _ h => h) (Or.inl ⟨by rfl, fun w' hSw => by clear hSw; go_simp⟩) (by assumption) ?_
              simp only [Act.put, List.setIfInBounds_toArray, List.set_cons_zero, List.set_cons_succ]
              refine wpAnyH_take (i := 14) (oi := { dst := some 59, op := Op.fieldAddr 44 (Operand.tmp 58) 3, type := 0, pos := "law.go:293", after := #[{ on := 13, ground := Ground.data }], guard := none }) (v := .pointer (some ⟨B, o + j * 22 + 18, none⟩)) rfl (by kernel_rfl) (by kernel_rfl) (by kernel_rfl) (fun _ _ _ h => h) (Or.inl ⟨by rfl, fun w' hSw => by clear hSw; go_simp⟩) (by assumption) ?_
              simp only [Act.put, List.setIfInBounds_toArray, List.set_cons_zero, List.set_cons_succ]
              refine wpAnyH_take (i := 5) (oi := { dst := some 50, op := Op.load 42 (Operand.tmp 49), type := 42, pos := "law.go:293", after := #[{ on := 4, ground := Ground.data }], guard := none }) (v := .agg (vvO s.V s.q).ar) rfl (by kernel_rfl) (by kernel_rfl) (by kernel_rfl) (fun _ _ _ h => h) (yieldsIf_load_viewR (V := vvO s.V s.q) (by rfl) _ rfl rfl (fun W hW => show_view (HRG.out) hW HLT.out)) (by assumption) ?_
              simp only [Act.put, List.setIfInBounds_toArray, List.set_cons_zero, List.set_cons_succ]
              refine wpAnyH_take (i := 10) (oi := { dst := some 55, op := Op.load 37 (Operand.tmp 54), type := 37, pos := "law.go:293", after := #[{ on := 9, ground := Ground.data }], guard := none }) (v := .agg (pvS s).ar) rfl (by kernel_rfl) (by kernel_rfl) (by kernel_rfl) (fun _ _ _ h => h) (yieldsIf_load_pageR (B := pvS s) (by rfl) _ rfl rfl (fun W hW => show_page (HRG.out) hW HLT.out)) (by assumption) ?_
              simp only [Act.put, List.setIfInBounds_toArray, List.set_cons_zero, List.set_cons_succ]
              refine wpAnyH_take (i := 15) (oi := { dst := some 60, op := Op.load 38 (Operand.tmp 59), type := 38, pos := "law.go:293", after := #[{ on := 14, ground := Ground.data }], guard := none }) (v := .slice s.fa s.fr.length s.fc) rfl (by kernel_rfl) (by kernel_rfl) (by kernel_rfl) (fun _ _ _ h => h) (yieldsIf_load_cell (by rfl) 38 _ rfl _ rfl (fun W hW => show_cell (HRG.out) hW HLT.out 18 rfl) (fun W hc => ld_ints hc)) (by assumption) ?_
              simp only [Act.put, List.setIfInBounds_toArray, List.set_cons_zero, List.set_cons_succ]
              refine wpAnyH_ready (rs := [16, 20]) (by kernel_rfl) (by simp) ?_
              refine AllReadyH.cons (o := { dst := some 61, op := Op.call { callee := Callee.value (Operand.func 12), args := #[Operand.tmp 45, Operand.tmp 50, Operand.tmp 55, Operand.tmp 60], argTypes := #[27, 42, 37, 38] }, type := 51, pos := "law.go:293", after := #[{ on := 0, ground := Ground.data }, { on := 5, ground := Ground.data }, { on := 10, ground := Ground.data }, { on := 15, ground := Ground.data }], guard := none }) rfl (fun K hK => ?_) (AllReadyH.cons (o := { dst := some 10, op := Op.alloc 50, type := 0, pos := "law.go:293", after := #[], guard := none }) rfl (fun K hK => ?_) (AllReadyH.nil))
              · go_simp
                refine (HPG.out _ hHeld).mono ?_
                rintro x w2 ⟨rfl, ho⟩
                have HO2 := hide (o2 hHeld ho)
                clear ho
                refine hK.out _ _ (HO2.out) (fun hHeld => ?_)
                clear hK K
                try simp only [Act.put, List.setIfInBounds_toArray, List.set_cons_zero, List.set_cons_succ]
                refine wpAnyH_take (i := 17) (oi := { dst := some 44, op := Op.move (Operand.tmp 61), type := 51, pos := "law.go:293", after := #[{ on := 16, ground := Ground.data }], guard := none }) (v := .tuple #[.agg Hr.none.cells, .bool false]) rfl (by kernel_rfl) (by kernel_rfl) (by kernel_rfl) (fun _ _ _ h => h) (Or.inl ⟨by rfl, fun w' hSw => by clear hSw; go_simp⟩) (by assumption) ?_
                simp only [Act.put, List.setIfInBounds_toArray, List.set_cons_zero, List.set_cons_succ]
                refine wpAnyH_take (i := 18) (oi := { dst := some 62, op := Op.extract (Operand.tmp 44) 0, type := 50, pos := "law.go:293", after := #[{ on := 17, ground := Ground.data }], guard := none }) (v := .agg Hr.none.cells) rfl (by kernel_rfl) (by kernel_rfl) (by kernel_rfl) (fun _ _ _ h => h) (Or.inl ⟨by rfl, fun w' hSw => by clear hSw; go_simp⟩) (by assumption) ?_
                simp only [Act.put, List.setIfInBounds_toArray, List.set_cons_zero, List.set_cons_succ]
                refine wpAnyH_take (i := 19) (oi := { dst := some 63, op := Op.extract (Operand.tmp 44) 1, type := 4, pos := "law.go:293", after := #[{ on := 17, ground := Ground.data }, { on := 21, ground := Ground.gcOnly Departure.lateStores }], guard := none }) (v := .bool false) rfl (by kernel_rfl) (by kernel_rfl) (by kernel_rfl) (fun _ _ _ h => h) (Or.inl ⟨by rfl, fun w' hSw => by clear hSw; go_simp⟩) (by assumption) ?_
                simp only [Act.put, List.setIfInBounds_toArray, List.set_cons_zero, List.set_cons_succ]
                refine wpAnyH_ready (rs := [20]) (by kernel_rfl) (by simp) ?_
                refine AllReadyH.cons (o := { dst := some 10, op := Op.alloc 50, type := 0, pos := "law.go:293", after := #[], guard := none }) rfl (fun K hK => ?_) (AllReadyH.nil)
                go_simp
                have HCB := hide (Cb.new w2 Hr.none.cl 50)
                have HO3 := hide (o2 HO2.out (onlyA w2 (.cells Hr.none.cells 50)))
                refine hK.out _ _ (HO3.out) (fun hHeld => ?_)
                clear hK K
                try simp only [Act.put, List.setIfInBounds_toArray, List.set_cons_zero, List.set_cons_succ]
                refine wpAnyH_ready (rs := [21]) (by kernel_rfl) (by simp) ?_
                refine AllReadyH.cons (o := { dst := none, op := Op.store 50 (Operand.tmp 10) (Operand.tmp 62), type := 0, pos := "law.go:293", after := #[{ on := 20, ground := Ground.data }, { on := 18, ground := Ground.data }, { on := 16, ground := Ground.chain }, { on := 0, ground := Ground.phase }, { on := 1, ground := Ground.phase }, { on := 2, ground := Ground.phase }, { on := 3, ground := Ground.phase }, { on := 4, ground := Ground.phase }, { on := 5, ground := Ground.phase }, { on := 6, ground := Ground.phase }, { on := 7, ground := Ground.phase }, { on := 8, ground := Ground.phase }, { on := 9, ground := Ground.phase }, { on := 10, ground := Ground.phase }, { on := 11, ground := Ground.phase }, { on := 12, ground := Ground.phase }, { on := 13, ground := Ground.phase }, { on := 14, ground := Ground.phase }, { on := 15, ground := Ground.phase }, { on := 16, ground := Ground.phase }, { on := 17, ground := Ground.phase }, { on := 18, ground := Ground.phase }, { on := 19, ground := Ground.textOnly Departure.lateStores }, { on := 20, ground := Ground.phase }], guard := none }) rfl (fun K hK => ?_) (AllReadyH.nil)
                rw [if_pos (by rfl)]
                have HTH : Hid ((w2.alloc (.cells Hr.none.cells 50)).there w2.heap.size 0 Hr.none.cells.size) := by exact HCB.out.rg.there
                refine wp_store_mid 50 (.tmp 10) (.tmp 62) rfl w2.heap.size 0 Hr.none.cells rfl rfl HTH.out Tryz.sizeRecF (by simp [Value.oneCell']) ?_
                have HLB : Hid (wr.heap.size ≤ w2.heap.size) := HO2.out.size
                have HO4 : Hid (Only (fun _ => False) wr ((w2.alloc (.cells Hr.none.cells 50)).setCells w2.heap.size 0 Hr.none.cl)) := (HO3.out).trans (only_setCells w2.heap.size Hr.none.cl 0 (w2.alloc (.cells Hr.none.cells 50))) (fun i hi e => by have := HLB.out; omega)
                refine hK.out _ _ (HO4.out) (fun hHeld => ?_)
                clear hK K
                simp only [Act.put]
                refine wpAnyH_take (i := 22) (oi := { dst := some 11, op := Op.assign (Operand.tmp 63), type := 4, pos := "law.go:293", after := #[{ on := 19, ground := Ground.data }, { on := 21, ground := Ground.chain }, { on := 0, ground := Ground.phase }, { on := 1, ground := Ground.phase }, { on := 2, ground := Ground.phase }, { on := 3, ground := Ground.phase }, { on := 4, ground := Ground.phase }, { on := 5, ground := Ground.phase }, { on := 6, ground := Ground.phase }, { on := 7, ground := Ground.phase }, { on := 8, ground := Ground.phase }, { on := 9, ground := Ground.phase }, { on := 10, ground := Ground.phase }, { on := 11, ground := Ground.phase }, { on := 12, ground := Ground.phase }, { on := 13, ground := Ground.phase }, { on := 14, ground := Ground.phase }, { on := 15, ground := Ground.phase }, { on := 16, ground := Ground.phase }, { on := 17, ground := Ground.phase }, { on := 18, ground := Ground.phase }, { on := 19, ground := Ground.phase }, { on := 20, ground := Ground.phase }, { on := 21, ground := Ground.phase }], guard := none }) (v := .bool false) rfl (by kernel_rfl) (by kernel_rfl) (by kernel_rfl) (fun _ _ _ h => h) (Or.inl ⟨by rfl, fun w' hSw => by clear hSw; go_simp⟩) (by assumption) ?_
                simp only [Act.put, List.setIfInBounds_toArray, List.set_cons_zero, List.set_cons_succ]
                refine wpAnyH_done (by kernel_rfl) ?_ _
                refine NoPanic.normal ?_
                go_wp2_with fail
                go_meet
                exact ⟨_, rfl, rfl, hide (HP.out.more HO4.out), hide (HO4.out.mono (fun _ _ e => e.elim))⟩
              · go_simp
                refine hK.out _ _ (o2 hHeld (onlyA _ _)) (fun hHeld => ?_)
                clear hK K
                try simp only [Act.put, List.setIfInBounds_toArray, List.set_cons_zero, List.set_cons_succ]
                refine wpAnyH_ready (rs := [16]) (by kernel_rfl) (by simp) ?_
                refine AllReadyH.cons (o := { dst := some 61, op := Op.call { callee := Callee.value (Operand.func 12), args := #[Operand.tmp 45, Operand.tmp 50, Operand.tmp 55, Operand.tmp 60], argTypes := #[27, 42, 37, 38] }, type := 51, pos := "law.go:293", after := #[{ on := 0, ground := Ground.data }, { on := 5, ground := Ground.data }, { on := 10, ground := Ground.data }, { on := 15, ground := Ground.data }], guard := none }) rfl (fun K hK => ?_) (AllReadyH.nil)
                go_simp
                refine (HPG.out _ hHeld).mono ?_
                rintro x w2 ⟨rfl, ho⟩
                have HO2 := hide (o2 hHeld ho)
                have HCB := hide ((Cb.new wr.drew Hr.none.cl 50).more ho)
                clear ho
                refine hK.out _ _ (HO2.out) (fun hHeld => ?_)
                clear hK K
                try simp only [Act.put, List.setIfInBounds_toArray, List.set_cons_zero, List.set_cons_succ]
                refine wpAnyH_take (i := 17) (oi := { dst := some 44, op := Op.move (Operand.tmp 61), type := 51, pos := "law.go:293", after := #[{ on := 16, ground := Ground.data }], guard := none }) (v := .tuple #[.agg Hr.none.cells, .bool false]) rfl (by kernel_rfl) (by kernel_rfl) (by kernel_rfl) (fun _ _ _ h => h) (Or.inl ⟨by rfl, fun w' hSw => by clear hSw; go_simp⟩) (by assumption) ?_
                simp only [Act.put, List.setIfInBounds_toArray, List.set_cons_zero, List.set_cons_succ]
                refine wpAnyH_take (i := 18) (oi := { dst := some 62, op := Op.extract (Operand.tmp 44) 0, type := 50, pos := "law.go:293", after := #[{ on := 17, ground := Ground.data }], guard := none }) (v := .agg Hr.none.cells) rfl (by kernel_rfl) (by kernel_rfl) (by kernel_rfl) (fun _ _ _ h => h) (Or.inl ⟨by rfl, fun w' hSw => by clear hSw; go_simp⟩) (by assumption) ?_
                simp only [Act.put, List.setIfInBounds_toArray, List.set_cons_zero, List.set_cons_succ]
                refine wpAnyH_take (i := 19) (oi := { dst := some 63, op := Op.extract (Operand.tmp 44) 1, type := 4, pos := "law.go:293", after := #[{ on := 17, ground := Ground.data }, { on := 21, ground := Ground.gcOnly Departure.lateStores }], guard := none }) (v := .bool false) rfl (by kernel_rfl) (by kernel_rfl) (by kernel_rfl) (fun _ _ _ h => h) (Or.inl ⟨by rfl, fun w' hSw => by clear hSw; go_simp⟩) (by assumption) ?_
                simp only [Act.put, List.setIfInBounds_toArray, List.set_cons_zero, List.set_cons_succ]
                refine wpAnyH_ready (rs := [21]) (by kernel_rfl) (by simp) ?_
                refine AllReadyH.cons (o := { dst := none, op := Op.store 50 (Operand.tmp 10) (Operand.tmp 62), type := 0, pos := "law.go:293", after := #[{ on := 20, ground := Ground.data }, { on := 18, ground := Ground.data }, { on := 16, ground := Ground.chain }, { on := 0, ground := Ground.phase }, { on := 1, ground := Ground.phase }, { on := 2, ground := Ground.phase }, { on := 3, ground := Ground.phase }, { on := 4, ground := Ground.phase }, { on := 5, ground := Ground.phase }, { on := 6, ground := Ground.phase }, { on := 7, ground := Ground.phase }, { on := 8, ground := Ground.phase }, { on := 9, ground := Ground.phase }, { on := 10, ground := Ground.phase }, { on := 11, ground := Ground.phase }, { on := 12, ground := Ground.phase }, { on := 13, ground := Ground.phase }, { on := 14, ground := Ground.phase }, { on := 15, ground := Ground.phase }, { on := 16, ground := Ground.phase }, { on := 17, ground := Ground.phase }, { on := 18, ground := Ground.phase }, { on := 19, ground := Ground.textOnly Departure.lateStores }, { on := 20, ground := Ground.phase }], guard := none }) rfl (fun K hK => ?_) (AllReadyH.nil)
                rw [if_pos (by rfl)]
                have HTH : Hid (w2.there wr.heap.size 0 Hr.none.cells.size) := by exact HCB.out.rg.there
                refine wp_store_mid 50 (.tmp 10) (.tmp 62) rfl wr.heap.size 0 Hr.none.cells rfl rfl HTH.out Tryz.sizeRecF (by simp [Value.oneCell']) ?_
                have HLB : Hid (wr.heap.size ≤ wr.heap.size) := Nat.le_refl _
                have HO4 : Hid (Only (fun _ => False) wr (w2.setCells wr.heap.size 0 Hr.none.cl)) := (HO2.out).trans (only_setCells wr.heap.size Hr.none.cl 0 w2) (fun i hi e => by have := HLB.out; omega)
                refine hK.out _ _ (HO4.out) (fun hHeld => ?_)
                clear hK K
                simp only [Act.put]
                refine wpAnyH_take (i := 22) (oi := { dst := some 11, op := Op.assign (Operand.tmp 63), type := 4, pos := "law.go:293", after := #[{ on := 19, ground := Ground.data }, { on := 21, ground := Ground.chain }, { on := 0, ground := Ground.phase }, { on := 1, ground := Ground.phase }, { on := 2, ground := Ground.phase }, { on := 3, ground := Ground.phase }, { on := 4, ground := Ground.phase }, { on := 5, ground := Ground.phase }, { on := 6, ground := Ground.phase }, { on := 7, ground := Ground.phase }, { on := 8, ground := Ground.phase }, { on := 9, ground := Ground.phase }, { on := 10, ground := Ground.phase }, { on := 11, ground := Ground.phase }, { on := 12, ground := Ground.phase }, { on := 13, ground := Ground.phase }, { on := 14, ground := Ground.phase }, { on := 15, ground := Ground.phase }, { on := 16, ground := Ground.phase }, { on := 17, ground := Ground.phase }, { on := 18, ground := Ground.phase }, { on := 19, ground := Ground.phase }, { on := 20, ground := Ground.phase }, { on := 21, ground := Ground.phase }], guard := none }) (v := .bool false) rfl (by kernel_rfl) (by kernel_rfl) (by kernel_rfl) (fun _ _ _ h => h) (Or.inl ⟨by rfl, fun w' hSw => by clear hSw; go_simp⟩) (by assumption) ?_
                simp only [Act.put, List.setIfInBounds_toArray, List.set_cons_zero, List.set_cons_succ]
                refine wpAnyH_done (by kernel_rfl) ?_ _
                refine NoPanic.normal ?_
                go_wp2_with fail
                go_meet
                exact ⟨_, rfl, rfl, hide (HP.out.more HO4.out), hide (HO4.out.mono (fun _ _ e => e.elim))⟩
            case rest =>
              obtain ⟨b, rfl, rfl, HP2, HO2⟩ := hcut
              have k21 := ((HO2.out.cell (p := ⟨B, o + j * 22 + 21, none⟩) HLT.out (fun e => by have q : B = p := e; have := HPN.out; have := HBL.out; omega)).trans (HRG.out 21 _ rfl))
              have HSP := hide (Space_any _ _ p P0 HP2.out s.n)
              rw [show P0.spc s.n = P0 from by unfold Pn.spc; rw [if_neg (by rw [HWT0.out.wk]; decide)]] at HSP
              go_wp2_with fail
              refine HSP.out.mono ?_
              rintro x w4 ⟨rfl, hp, ho⟩
              have HP4 := hide hp
              have HO4 := hide (HO2.out.trans ho (fun _ _ e => e))
              clear hp ho HSP HP2 HO2 k21
              have HLK := hide (Lock_any w4 _ p P0 HP4.out false 0)
              rw [show P0.lck false 0 = P0 from by unfold Pn.lck; rw [if_pos HWT0.out.wk, if_pos rfl, if_neg (by decide)]] at HLK
              go_wp2_with fail
              refine HLK.out.mono ?_
              rintro x w5 ⟨rfl, hp, ho⟩
              have HP5 := hide hp
              have HO5 := hide (HO4.out.trans ho (fun _ _ e => e))
              clear hp ho HLK HP4 HO4
              have HB5 := hide (HB1.out.kept (HOW.out.trans HO5.out (fun _ _ e => e)) (fun e => by have := HPN.out; have := HBW.out; omega))
              have HWT := hide (fun W (h : Pm W (fun k => k = p) p P0) => Want_any W _ p P0 h)
              unfold Pn.want at HWT
              rw [HWT0.out.wk, HWT0.out.wkey, HWT0.out.ws, HWT0.out.wp] at HWT
              have HRP : Hid (∀ W, Pm W (fun k => k = p) p P0 → Calls Tryz.prog 13 #[.pointer (some ⟨p, 0, none⟩)] W fun e w' => e = .returned (.agg #[.int .i64 0, .bool false, .string ⟨#[]⟩, .slice none 0 0]) ∧ Only (fun _ => False) W w') := fun W h => Reply_no W _ (fun W2 ho2 => by
                have := wants_any W2 _ p P0 (h.more ho2) 4
                rw [HWT0.out.wk] at this
                exact this)
              have hne := neW_run 1 a.key 0 0
              go_upto_region 12 with fail
              go_cut [88] (fun x wx => x = .bool false ∧ Hid (Pm wx (fun k => k = p) p P0) ∧ Hid (Only (fun k => k = p) wr wx))
              case first =>
                refine wp_region_noPanic ?_
                refine wp_region_held_drew (S := fun W => Only (fun _ => False) w5 W) (by kernel_rfl) (Only.drew _ _) (fun hHeld => ?_)
                refine wpAnyH_take (i := 0) (oi := { dst := some 73, op := Op.move (Operand.tmp 11), type := 4, pos := "law.go:296", after := #[], guard := none }) (v := .bool false) rfl (by kernel_rfl) (by kernel_rfl) (by kernel_rfl) (fun _ _ _ h => h) (Or.inl ⟨by rfl, fun w' hSw => by clear hSw; go_simp⟩) (by assumption) ?_
                simp only [Act.put, List.setIfInBounds_toArray, List.set_cons_zero, List.set_cons_succ]
                refine wpAnyH_take (i := 1) (oi := { dst := some 74, op := Op.move (Operand.tmp 73), type := 4, pos := "law.go:296", after := #[{ on := 0, ground := Ground.data }], guard := none }) (v := .bool false) rfl (by kernel_rfl) (by kernel_rfl) (by kernel_rfl) (fun _ _ _ h => h) (Or.inl ⟨by rfl, fun w' hSw => by clear hSw; go_simp⟩) (by assumption) ?_
                simp only [Act.put, List.setIfInBounds_toArray, List.set_cons_zero, List.set_cons_succ]
                refine wpAnyH_take (i := 2) (oi := { dst := some 75, op := Op.move (Operand.tmp 7), type := 27, pos := "law.go:296", after := #[{ on := 1, ground := Ground.guard }], guard := some (1, false) }) (v := .pointer (some ⟨p, 0, none⟩)) rfl (by kernel_rfl) (by kernel_rfl) (by kernel_rfl) (fun _ _ _ h => h) (Or.inl ⟨by rfl, fun w' hSw => by clear hSw; go_simp⟩) (by assumption) ?_
                simp only [Act.put, List.setIfInBounds_toArray, List.set_cons_zero, List.set_cons_succ]
                refine wpAnyH_take (i := 4) (oi := { dst := some 77, op := Op.fieldAddr 24 (Operand.tmp 3) 1, type := 0, pos := "law.go:296", after := #[{ on := 1, ground := Ground.guard }], guard := some (1, false) }) (v := .pointer (some ⟨w.heap.size, 1, none⟩)) rfl (by kernel_rfl) (by kernel_rfl) (by kernel_rfl) (fun _ _ _ h => h) (Or.inl ⟨by rfl, fun w' hSw => by clear hSw; go_simp⟩) (by assumption) ?_
                simp only [Act.put, List.setIfInBounds_toArray, List.set_cons_zero, List.set_cons_succ]
                refine wpAnyH_take (i := 5) (oi := { dst := some 78, op := Op.load 9 (Operand.tmp 77), type := 9, pos := "law.go:296", after := #[{ on := 4, ground := Ground.data }, { on := 1, ground := Ground.guard }], guard := some (1, false) }) (v := .string a.key) rfl (by kernel_rfl) (by kernel_rfl) (by kernel_rfl) (fun _ _ _ h => h) (yieldsIf_load_cell (by rfl) 9 _ rfl _ rfl (fun W hW => (HB5.out.more hW).c 1 _ rfl) (fun W hc => ld_string hc)) (by assumption) ?_
                simp only [Act.put, List.setIfInBounds_toArray, List.set_cons_zero, List.set_cons_succ]
                refine wpAnyH_take (i := 6) (oi := { dst := some 79, op := Op.build 32 #[(0, Operand.const (Value.int IntKind.i64 1)), (1, Operand.tmp 78)], type := 32, pos := "law.go:296", after := #[{ on := 5, ground := Ground.data }, { on := 1, ground := Ground.guard }], guard := some (1, false) }) (v := .agg #[.int .i64 1, .string a.key, .int .i64 0, .int .i64 0]) rfl (by kernel_rfl) (by kernel_rfl) (by kernel_rfl) (fun _ _ _ h => h) (Or.inl ⟨by rfl, fun w' hSw => by clear hSw; go_simp⟩) (by assumption) ?_
                simp only [Act.put, List.setIfInBounds_toArray, List.set_cons_zero, List.set_cons_succ]
                refine wpAnyH_ready (rs := [3]) (by kernel_rfl) (by simp) ?_
                refine AllReadyH.cons (o := { dst := some 76, op := Op.call { callee := Callee.value (Operand.func 10), args := #[Operand.tmp 75], argTypes := #[27] }, type := 32, pos := "law.go:296", after := #[{ on := 2, ground := Ground.data }, { on := 1, ground := Ground.chain }, { on := 1, ground := Ground.guard }], guard := some (1, false) }) rfl (fun K hK => ?_) (AllReadyH.nil)
                go_simp
                refine (HWT.out _ (HP5.out.more hHeld)).mono ?_
                rintro x v1 ⟨rfl, ho⟩
                have HV1 := hide (o2 hHeld ho)
                clear ho
                refine hK.out _ _ (HV1.out) (fun hHeld => ?_)
                clear hK K
                try simp only [Act.put, List.setIfInBounds_toArray, List.set_cons_zero, List.set_cons_succ]
                refine wpAnyH_take (i := 7) (oi := { dst := some 80, op := Op.binOp BinOp.neq 32 (Operand.tmp 76) (Operand.tmp 79) 32, type := 4, pos := "law.go:296", after := #[{ on := 3, ground := Ground.data }, { on := 6, ground := Ground.data }, { on := 1, ground := Ground.guard }], guard := some (1, false) }) (v := .bool false) rfl (by kernel_rfl) (by kernel_rfl) (by kernel_rfl) (fun _ _ _ h => h) (Or.inl ⟨by rfl, fun w' hSw => by clear hSw; go_simp⟩) (by assumption) ?_
                simp only [Act.put, List.setIfInBounds_toArray, List.set_cons_zero, List.set_cons_succ]
                refine wpAnyH_take (i := 8) (oi := { dst := some 81, op := Op.pick (Operand.tmp 74) (Operand.const (Value.bool true)) (Operand.tmp 80), type := 4, pos := "law.go:296", after := #[{ on := 1, ground := Ground.data }, { on := 7, ground := Ground.data }], guard := none }) (v := .bool false) rfl (by kernel_rfl) (by kernel_rfl) (by kernel_rfl) (fun _ _ _ h => h) (Or.inl ⟨by rfl, fun w' hSw => by clear hSw; go_simp⟩) (by assumption) ?_
                simp only [Act.put, List.setIfInBounds_toArray, List.set_cons_zero, List.set_cons_succ]
                refine wpAnyH_take (i := 9) (oi := { dst := some 82, op := Op.move (Operand.tmp 81), type := 4, pos := "law.go:296", after := #[{ on := 8, ground := Ground.data }, { on := 3, ground := Ground.chain }], guard := none }) (v := .bool false) rfl (by kernel_rfl) (by kernel_rfl) (by kernel_rfl) (fun _ _ _ h => h) (Or.inl ⟨by rfl, fun w' hSw => by clear hSw; go_simp⟩) (by assumption) ?_
                simp only [Act.put, List.setIfInBounds_toArray, List.set_cons_zero, List.set_cons_succ]
                refine wpAnyH_take (i := 10) (oi := { dst := some 83, op := Op.move (Operand.tmp 7), type := 27, pos := "law.go:296", after := #[{ on := 9, ground := Ground.guard }], guard := some (9, false) }) (v := .pointer (some ⟨p, 0, none⟩)) rfl (by kernel_rfl) (by kernel_rfl) (by kernel_rfl) (fun _ _ _ h => h) (Or.inl ⟨by rfl, fun w' hSw => by clear hSw; go_simp⟩) (by assumption) ?_
                simp only [Act.put, List.setIfInBounds_toArray, List.set_cons_zero, List.set_cons_succ]
                refine wpAnyH_take (i := 12) (oi := { dst := some 85, op := Op.build 55 #[], type := 55, pos := "law.go:296", after := #[{ on := 9, ground := Ground.guard }], guard := some (9, false) }) (v := .agg #[.int .i64 0, .bool false, .string ⟨#[]⟩, .slice none 0 0]) rfl (by kernel_rfl) (by kernel_rfl) (by kernel_rfl) (fun _ _ _ h => h) (Or.inl ⟨by rfl, fun w' hSw => by clear hSw; go_simp⟩) (by assumption) ?_
                simp only [Act.put, List.setIfInBounds_toArray, List.set_cons_zero, List.set_cons_succ]
                refine wpAnyH_ready (rs := [11]) (by kernel_rfl) (by simp) ?_
                refine AllReadyH.cons (o := { dst := some 84, op := Op.call { callee := Callee.value (Operand.func 13), args := #[Operand.tmp 83], argTypes := #[27] }, type := 55, pos := "law.go:296", after := #[{ on := 10, ground := Ground.data }, { on := 9, ground := Ground.chain }, { on := 9, ground := Ground.guard }], guard := some (9, false) }) rfl (fun K hK => ?_) (AllReadyH.nil)
                go_simp
                refine (HRP.out _ (HP5.out.more hHeld)).mono ?_
                rintro x v2 ⟨rfl, ho⟩
                have HV2 := hide (o2 hHeld ho)
                clear ho
                refine hK.out _ _ (HV2.out) (fun hHeld => ?_)
                clear hK K
                try simp only [Act.put, List.setIfInBounds_toArray, List.set_cons_zero, List.set_cons_succ]
                refine wpAnyH_ready (rs := [13]) (by kernel_rfl) (by simp) ?_
                refine AllReadyH.cons (o := { dst := some 86, op := Op.call { callee := Callee.value (Operand.func 16), args := #[Operand.tmp 84, Operand.tmp 85], argTypes := #[55, 55] }, type := 4, pos := "law.go:296", after := #[{ on := 11, ground := Ground.data }, { on := 12, ground := Ground.data }, { on := 11, ground := Ground.chain }, { on := 9, ground := Ground.guard }], guard := some (9, false) }) rfl (fun K hK => ?_) (AllReadyH.nil)
                go_simp
                refine (reply_none _).mono ?_
                rintro x v3 ⟨rfl, ho⟩
                have HV3 := hide (o2 hHeld ho)
                clear ho
                refine hK.out _ _ (HV3.out) (fun hHeld => ?_)
                clear hK K
                try simp only [Act.put, List.setIfInBounds_toArray, List.set_cons_zero, List.set_cons_succ]
                refine wpAnyH_take (i := 14) (oi := { dst := some 87, op := Op.unOp UnOp.not 4 (Operand.tmp 86), type := 4, pos := "law.go:296", after := #[{ on := 13, ground := Ground.data }, { on := 9, ground := Ground.guard }], guard := some (9, false) }) (v := .bool false) rfl (by kernel_rfl) (by kernel_rfl) (by kernel_rfl) (fun _ _ _ h => h) (Or.inl ⟨by rfl, fun w' hSw => by clear hSw; go_simp⟩) (by assumption) ?_
                simp only [Act.put, List.setIfInBounds_toArray, List.set_cons_zero, List.set_cons_succ]
                refine wpAnyH_take (i := 15) (oi := { dst := some 88, op := Op.pick (Operand.tmp 82) (Operand.const (Value.bool true)) (Operand.tmp 87), type := 4, pos := "law.go:296", after := #[{ on := 9, ground := Ground.data }, { on := 14, ground := Ground.data }], guard := none }) (v := .bool false) rfl (by kernel_rfl) (by kernel_rfl) (by kernel_rfl) (fun _ _ _ h => h) (Or.inl ⟨by rfl, fun w' hSw => by clear hSw; go_simp⟩) (by assumption) ?_
                simp only [Act.put, List.setIfInBounds_toArray, List.set_cons_zero, List.set_cons_succ]
                refine wpAnyH_done (by kernel_rfl) ?_ _
                refine NoPanic.normal ?_
                go_wp2_with fail
                go_meet
                exact ⟨rfl, hide (HP5.out.more hHeld), hide (HO5.out.trans hHeld (fun _ _ e => e.elim))⟩
              case rest =>
                obtain ⟨rfl, HP6, HO6⟩ := hcut
                go_wp2_with fail
                go_roundw
                case rel => exact ⟨j + 1, by omega, by go_num, HP6, hide (HOW.out.trans HO6.out (fun _ _ e => e))⟩
                case measure => simp [intOf]; omega
          · have HBR := hide (HB1.out.kept HOW.out (fun e => by have := HPN.out; have := HBW.out; omega))
            have HEE := hide HE.out
            have hcv : IntKind.i64.wrap e = e := by rw [IntKind.wrap_i64]; have := HE.out; omega
            clear HSR
            by_cases he : e = 0
            · have hb : (e == 0) = true := by simp [he]
              have hb2 : (e != 0) = false := by simp [he]
              have HLK := hide (Lock_any wr _ p P0 HP.out true e)
              have HWQ : Hid (P0.lck true e = P0.lks) := by unfold Hid Pn.lck; rw [if_pos HWT0.out.wk, if_pos he, if_pos rfl]
              rw [HWQ.out] at HLK
              clear he
              go_wp2_with fail
              refine HLK.out.mono ?_
              rintro x w2 ⟨rfl, hp, ho⟩
              have HP2 := hide hp
              have HO2 := hide (HOW.out.trans ho (fun _ _ e => e))
              clear hp ho HLK HP HOW
              have heq := eqW_run 3 ⟨#[]⟩ 0 1
              go_wp2_with fail
              refine (Want_any w2 _ p _ HP2.out).mono ?_
              rintro x w3 ⟨rfl, ho⟩
              have HO3 := hide (HO2.out.trans ho (fun _ _ e => e.elim))
              clear ho HO2 HP2
              unfold Pn.want
              rw [show P0.lks.wk = 3 from rfl, show P0.lks.wkey = ⟨#[]⟩ from rfl, show P0.lks.ws = 0 from rfl, show P0.lks.wp = 1 from rfl]
              go_wp2_with fail
              refine (lwawake_any w3).mono ?_
              rintro x w4 ⟨rfl, ho⟩
              have HO4 := hide (HO3.out.trans ho (fun _ _ e => e.elim))
              clear ho HO3
              go_wp2_with fail
              go_ret
              exact ⟨rfl, HO1.out.trans HO4.out (fun i hi e => by have := HPN.out; have := HBW.out; omega)⟩
            · have hb : (e == 0) = false := by simpa using he
              have hb2 : (e != 0) = true := by simp [he]
              have HLK := hide (Lock_any wr _ p P0 HP.out false e)
              have HWQ : Hid (P0.lck false e = Pn.over e false ⟨#[]⟩ none [] 0) := by unfold Hid Pn.lck; rw [if_pos HWT0.out.wk, if_neg he]; unfold Pn.fl; rw [if_neg (by rw [HWT0.out.wk]; decide)]
              rw [HWQ.out] at HLK
              clear he
              go_wp2_with fail
              refine HLK.out.mono ?_
              rintro x w2 ⟨rfl, hp, ho⟩
              have HP2 := hide hp
              have HO2 := hide (HOW.out.trans ho (fun _ _ e => e))
              clear hp ho HLK HP HOW
              have hfw : ∀ W : World, (Instr.field 32 (.agg #[.int .i64 4, .string ⟨#[]⟩, .int .i64 0, .int .i64 0]) 0).run Tryz.prog W = .ok (.int .i64 4) W := fun _ => by kernel_rfl
              go_wp2_with fail
              refine (Want_any w2 _ p _ HP2.out).mono ?_
              rintro x w3 ⟨rfl, ho⟩
              have HO3 := hide (HO2.out.trans ho (fun _ _ e => e.elim))
              have HP3 := hide (HP2.out.more ho)
              clear ho HO2 HP2
              unfold Pn.want Pn.over
              simp only []
              go_wp2_with fail
              refine (Reply_over w3 _ p _ HP3.out rfl (Nat.zero_le _)).mono ?_
              rintro x w4 ⟨a4, c4, rfl, hr, _, ho⟩
              have HO4 := hide (HO3.out.trans ho (fun _ _ e => e.elim))
              have HRP := hide (reply_eq w4 e false ⟨#[]⟩ a4 none c4 0 [] hr (Rws.nil _ _) (by decide))
              clear ho HO3 hr
              unfold Pn.rep Pn.over
              simp only [List.length_nil] at HRP ⊢
              go_wp2_with fail
              refine HRP.out.mono ?_
              rintro x w5 ⟨rfl, ho⟩
              have HO5 := hide (HO4.out.trans ho (fun _ _ e => e.elim))
              clear ho HO4 HRP
              go_wp2_with fail
              refine (lwawake_any w5).mono ?_
              rintro x w6 ⟨rfl, ho⟩
              have HO6 := hide (HO5.out.trans ho (fun _ _ e => e.elim))
              clear ho HO5
              go_wp2_with fail
              go_ret
              exact ⟨rfl, HO1.out.trans HO6.out (fun i hi e => by have := HPN.out; have := HBW.out; omega)⟩
  · have hb3 : (a.c != 3) = true := by simpa using (fun q => hch (.inl q))
    have hb4 : (a.c != 4) = true := by simpa using (fun q => hch (.inr q))
    clear hch HNN HNO
    go_enter Tryz.func7, Tryz.ntmps7
    go_upto_region 1 with fail
    rw [HW0.out]
    clear HW0
    go_wp2_with fail
    refine (lwawake_any W0).mono ?_
    rintro x w1 ⟨rfl, ho⟩
    have HO1 := hide (o2 HO.out ho)
    clear ho
    go_wp2_with fail
    go_ret
    exact ⟨rfl, HO1.out⟩
end Go.Proofs.YtajjakljheafjaaGreat
