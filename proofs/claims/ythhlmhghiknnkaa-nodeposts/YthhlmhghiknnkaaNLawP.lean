/- Walk of NodePosts. -/
import Derived.Test.YthhlmhghiknnkaaNPostP
import Derived.Test.YthhlmhghiknnkaaNRoot
import Derived.Test.YthhlmhghiknnkaaNGrown
namespace Go.Proofs.Ythhlmhghiknnkaa
open Go.RowKit

theorem two_newP (w : World) (a b : En) : Ev ((w.alloc (.cells #[.string a.key, .int .i64 a.page, .int .i64 a.slot] 23)).alloc (.cells #[.string b.key, .int .i64 b.page, .int .i64 b.slot] 23)) w.heap.size a ∧ Ev ((w.alloc (.cells #[.string a.key, .int .i64 a.page, .int .i64 a.slot] 23)).alloc (.cells #[.string b.key, .int .i64 b.page, .int .i64 b.slot] 23)) (w.heap.size + 1) b ∧ Only (fun _ => False) w ((w.alloc (.cells #[.string a.key, .int .i64 a.page, .int .i64 a.slot] 23)).alloc (.cells #[.string b.key, .int .i64 b.page, .int .i64 b.slot] 23)) := by
  have e1 := Ev.new (w.alloc (.cells #[.string a.key, .int .i64 a.page, .int .i64 a.slot] 23)) b
  rw [World.size_alloc] at e1
  exact ⟨(Ev.new w a).more (onlyA _ _), e1, o2 (onlyA _ _) (onlyA _ _)⟩
def eM : En := ⟨⟨#[109]⟩, 0, 0⟩
theorem eM_ok : eM.ok = true := by decide
/-- An inner node without a High that a variable holds; no child of it is 9999. -/
structure Iv (W : World) (b : Nat) (B : Nat) (ao : Option Addr) (cp : Nat) (l : List ByteArray) (ks : List (En × Int)) : Prop where
  pag : Pag W b (.int .i64 0) (.int .i64 3) (.int .i64 1) (.int .i64 0) (.string ⟨#[]⟩) (.slice ao l.length cp)
  ip : Ip W 1 0 ⟨#[]⟩ noE B ao l ks
  fit : Fit ao l.length cp
  few : l.length ≤ 255
  kids : ∀ k ∈ ks, k.2 ≠ 9999
theorem Iv.more {W W' : World} {b : Nat} {B : Nat} {ao : Option Addr} {cp : Nat} {l : List ByteArray} {ks : List (En × Int)} (x : Iv W b B ao cp l ks) (ho : Only (fun _ => False) W W') : Iv W' b B ao cp l ks := ⟨x.pag.more ho, x.ip.more ho, x.fit, x.few, x.kids⟩
theorem ch_yes {ks : List (En × Int)} {x : En} (hx : x.ok = true) : chV ks noE x = .tuple #[.int .i64 (chE ks x), .int .i64 0] := by
  unfold chV
  rw [if_pos ⟨hx, byd_noE _⟩]
theorem ch_no {ks : List (En × Int)} {x : En} (hx : x.ok = false) : chV ks noE x = .tuple #[.int .i64 0, .int .i64 140] := by
  unfold chV
  rw [if_neg (fun h => by rw [hx] at h; exact absurd h.1 (by decide))]
set_option maxRecDepth 100000 in
set_option maxHeartbeats 6400000 in
theorem nodePosts_law (w : World) (BL : Nat) (aL : Option Addr) (cL : Nat) (L : List En) (e x : En) (hL : Els w BL aL L) (_hn : L.length ≤ maxLen) : Calls Try.prog 8 #[.slice aL L.length cL, e.agg, x.agg] w fun z w' => z = .returned (.bool true) ∧ Only (fun _ => False) w w' := by
  have HAW := hide nawake_any
  have HX := hide (two_newP w e x)
  have HE := hide hL
  have HRT : Hid (∀ W, Calls Try.prog 27 #[.int .i64 1, .int .i64 2, .agg #[.string ⟨#[109]⟩, .int .i64 0, .int .i64 0], .int .i64 3] W fun z w' => Res W w' z ⟨0, 3, 1, 0, ⟨#[]⟩, [noE.encS 2, eM.encS 3]⟩ 0) := fun W => by
    have h := root_ok W 1 2 3 eM (by decide) (by decide) (by decide) eM_ok
    exact h
  have HIR : Hid (∀ (W : World) (B : Nat) (ao : Option Addr), Strs W B ao [noE.encS 2, eM.encS 3] → Ip W 1 0 ⟨#[]⟩ noE B ao [noE.encS 2, eM.encS 3] [(noE, 2), (eM, 3)]) := fun W B ao hS => ip_root hS (by decide) (by decide) eM_ok
  have HL0 : Hid ([noE.encS 2, eM.encS 3].length ≤ 255) := by unfold Hid; simp
  obtain ⟨l0, hl0⟩ : ∃ l, [noE.encS 2, eM.encS 3] = l := ⟨_, rfl⟩
  rw [hl0] at HRT HIR HL0
  clear hl0
  have HI : Hid (∀ (W : World) (B : Nat) (ao : Option Addr) (cp : Nat) (l : List ByteArray) (ks : List (En × Int)) (s : En) (c : Int), Ip W 1 0 ⟨#[]⟩ noE B ao l ks → Fit ao l.length cp → Calls Try.prog 30 #[.agg #[.int .i64 0, .int .i64 3, .int .i64 1, .int .i64 0, .string ⟨#[]⟩, .slice ao l.length cp], .agg #[.string s.key, .int .i64 s.page, .int .i64 s.slot], .int .i64 c] W fun z w' => ∃ p k, Res W w' z p k ∧ ((k = 0 ∧ p = ⟨0, 3, 1, 0, ⟨#[]⟩, posI l ks s c⟩ ∧ s.ok = true ∧ okC c = true ∧ s ∉ ks.map Prod.fst ∧ (posI l ks s c).length ≤ 255) ∨ (¬ k = 0 ∧ p = .none))) := fun W B ao cp l ks s c hP hF => (post_ok W 0 1 0 ⟨#[]⟩ noE s c B cp ao l ks hP hF).mono (fun z w' q => q.any)
  have HCH : Hid (∀ (W : World) (B cp : Nat) (ao : Option Addr) (l : List ByteArray) (ks : List (En × Int)), Ip W 1 0 ⟨#[]⟩ noE B ao l ks → Calls Try.prog 29 #[.agg #[.int .i64 0, .int .i64 3, .int .i64 1, .int .i64 0, .string ⟨#[]⟩, .slice ao l.length cp], .agg #[.string x.key, .int .i64 x.page, .int .i64 x.slot]] W fun z w' => z = .returned (chV ks noE x) ∧ Only (fun _ => False) W w') := fun W B cp ao l ks hP => by
    have h := child_ok W 0 1 0 ⟨#[]⟩ noE x B cp ao l ks hP
    exact h
  have HCB : Hid (∀ (W : World) (ao : Option Addr) (n cp : Nat), Calls Try.prog 29 #[.agg #[.int .i64 0, .int .i64 0, .int .i64 0, .int .i64 0, .string ⟨#[]⟩, .slice ao n cp], .agg #[.string x.key, .int .i64 x.page, .int .i64 x.slot]] W fun z w' => z = .returned (.tuple #[.int .i64 0, .int .i64 140]) ∧ Only (fun _ => False) W w') := fun W ao n cp => by
    have h := child_bad W 0 0 0 0 ⟨#[]⟩ ao n cp x (by decide)
    exact h
  have HKD : Hid (∀ (W : World) (B cp : Nat) (ao : Option Addr) (l : List ByteArray) (ks : List (En × Int)), Ip W 1 0 ⟨#[]⟩ noE B ao l ks → Calls Try.prog 31 #[.agg #[.int .i64 0, .int .i64 3, .int .i64 1, .int .i64 0, .string ⟨#[]⟩, .slice ao l.length cp]] W fun z w' => KdR W w' z ks) := fun W B cp ao l ks hP => kids_ok W 0 1 0 ⟨#[]⟩ noE B cp ao l ks hP
  have HCM : Hid (∀ (a b : En) W, Calls Try.prog 17 #[.agg #[.string a.key, .int .i64 a.page, .int .i64 a.slot], .agg #[.string b.key, .int .i64 b.page, .int .i64 b.slot]] W fun z w' => z = .returned (.int .i64 (cmpE a b)) ∧ Only (fun _ => False) W w') := fun a b W => compare_any a b W
  clear hL _hn
  unfold En.agg
  go_enter Try.func8, Try.ntmps8
  go_upto_region 1 with fail
  obtain ⟨W0, hW0⟩ : ∃ y, (w.alloc (.cells #[.string e.key, .int .i64 e.page, .int .i64 e.slot] 23)).alloc (.cells #[.string x.key, .int .i64 x.page, .int .i64 x.slot] 23) = y := ⟨_, rfl⟩
  rw [hW0] at HX ⊢
  clear hW0
  go_wp2_with fail
  refine (HRT.out _).mono ?_
  rintro z w1 ⟨B, ao, cp, rfl, hS, hF, ho, hB⟩
  have HP1 := hide (HIR.out _ _ _ hS)
  have HF1 := hide hF
  have HVE1 := hide (HX.out.1.more ho)
  have HVX1 := hide (HX.out.2.1.more ho)
  have HO1 := hide (o2 HX.out.2.2 ho)
  clear hS hF ho hB HX HRT HIR
  simp only [] at HF1
  simp only []
  go_upto_region 2 with fail
  have HA := hide (onlyA w1 (.cells #[.int .i64 0, .int .i64 3, .int .i64 1, .int .i64 0, .string ⟨#[]⟩, .slice ao l0.length cp] 38))
  have HG2 := hide (Pag.new w1 (.int .i64 0) (.int .i64 3) (.int .i64 1) (.int .i64 0) (.string ⟨#[]⟩) (.slice ao l0.length cp))
  have HZ : Hid (w.heap.size + 1 < w1.heap.size) := HVX1.out.lt
  obtain ⟨b7, hb7⟩ : ∃ b, w1.heap.size = b := ⟨_, rfl⟩
  rw [hb7] at HG2 HZ ⊢
  clear hb7
  obtain ⟨w2, hw2⟩ : ∃ y, w1.alloc (.cells #[.int .i64 0, .int .i64 3, .int .i64 1, .int .i64 0, .string ⟨#[]⟩, .slice ao l0.length cp] 38) = y := ⟨_, rfl⟩
  rw [hw2] at HA HG2 ⊢
  clear hw2
  have HV2 : Hid (Iv w2 b7 B ao cp l0 [(noE, 2), (eM, 3)]) := ⟨HG2.out, HP1.out.more HA.out, HF1.out, HL0.out, by simp⟩
  have HVE2 := hide (HVE1.out.more HA.out)
  have HVX2 := hide (HVX1.out.more HA.out)
  have HO2 := hide (o2 HO1.out HA.out)
  clear HA HG2 HP1 HF1 HL0 HVE1 HVX1 HO1
  obtain ⟨N, hN⟩ : ∃ N, L.length = N := ⟨_, rfl⟩
  have HN := hide hN
  rw [hN]
  clear hN
  by_cases h300 : 300 < N
  · have h300' : (300 : Int) < (N : Int) := by omega
    go_wp2_with fail
    refine (HAW.out _).mono ?_
    rintro z w3 ⟨rfl, ho⟩
    have HO3 := hide (o2 HO2.out ho)
    clear ho
    go_wp2_with fail
    go_ret
    exact ⟨rfl, HO3.out⟩
  · have h300' : ¬ (300 : Int) < (N : Int) := by omega
    go_wp2_with fail
    clear h300'
    go_loopw [9] (fun i wr => ∃ (j : Nat) (B : Nat) (ao : Option Addr) (cp : Nat) (l : List ByteArray) (ks : List (En × Int)), j ≤ N ∧ i = .int .i64 (j : Int) ∧ Hid (Iv wr b7 B ao cp l ks) ∧ Hid (Ev wr w.heap.size e) ∧ Hid (Ev wr (w.heap.size + 1) x) ∧ Hid (Only (fun _ => False) w wr)) (fun i _ => N - (intOf i).toNat)
    case atStart => exact ⟨0, B, ao, cp, l0, [(noE, 2), (eM, 3)], Nat.zero_le _, rfl, HV2, HVE2, HVX2, HO2⟩
    case round =>
      clear HV2 HVE2 HVX2 HO2
      obtain ⟨j, B, ao, cp, l, ks, hj, rfl, HV, HVE, HVX, HOj⟩ := hrel
      by_cases hlt : j < N
      · have hlk : (j : Int) < (N : Int) := by omega
        have hlk2 : ¬ (N : Int) ≤ (j : Int) := by omega
        have hjL : j < L.length := by have := HN.out; omega
        obtain ⟨o, rfl, hb⟩ := (HE.out.more HOj.out).of j hjL
        obtain ⟨s, hs⟩ : ∃ s, L[j] = s := ⟨_, rfl⟩
        rw [hs] at hb
        have HB := hide hb
        clear hb hs
        obtain ⟨c9, hc9⟩ : ∃ c : Int, 10 + (j : Int) = c := ⟨_, rfl⟩
        have hwc : IntKind.i64.wrap c9 = c9 := by rw [IntKind.wrap_i64]; omega
        have HC9 : Hid (c9 ≠ 9999) := by unfold Hid; omega
        go_upto_region 9 with fail
        go_cut [10, 11] (fun y z wx => ∃ c p k B5 ao5 cp5, y = .pointer (some ⟨c, 0, none⟩) ∧ z = .int .i64 k ∧ Hid (Nv wr wx c p B5 ao5 cp5) ∧ Hid ((k = 0 ∧ p = ⟨0, 3, 1, 0, ⟨#[]⟩, posI l ks s c9⟩ ∧ s.ok = true ∧ okC c9 = true ∧ s ∉ ks.map Prod.fst ∧ (posI l ks s c9).length ≤ 255) ∨ (¬ k = 0 ∧ p = .none)))
        case first =>
          -- {r9
          refine wp_region_noPanic ?_
          refine wp_region_held_drew (S := fun W => Only (fun _ => False) wr W) (by kernel_rfl) (Only.drew _ _) (fun hHeld => ?_)
          refine wpAnyH_take (i := 0) (oi := { dst := some 41, op := Op.load 38 (Operand.tmp 7), type := 38, pos := "law.go:241", after := #[], guard := none }) (v := .agg #[.int .i64 0, .int .i64 3, .int .i64 1, .int .i64 0, .string ⟨#[]⟩, .slice ao l.length cp]) rfl (by kernel_rfl) (by kernel_rfl) (by kernel_rfl) (fun _ _ _ h => h) (yieldsIf_load_page (by rfl) _ rfl _ rfl (fun W hW => HV.out.pag.more hW)) (by assumption) ?_
          simp only [Act.put, List.setIfInBounds_toArray, List.set_cons_zero, List.set_cons_succ]
          refine wpAnyH_take (i := 1) (oi := { dst := some 42, op := Op.move (Operand.tmp 0), type := 35, pos := "law.go:241", after := #[], guard := none }) (v := .slice (some ⟨BL, o, none⟩) N cL) rfl (by kernel_rfl) (by kernel_rfl) (by kernel_rfl) (fun _ _ _ h => h) (Or.inl ⟨by rfl, fun w' hSw => by clear hSw; go_simp⟩) (by assumption) ?_
          simp only [Act.put, List.setIfInBounds_toArray, List.set_cons_zero, List.set_cons_succ]
          refine wpAnyH_take (i := 2) (oi := { dst := some 43, op := Op.move (Operand.tmp 9), type := 3, pos := "law.go:241", after := #[], guard := none }) (v := .int .i64 (j : Int)) rfl (by kernel_rfl) (by kernel_rfl) (by kernel_rfl) (fun _ _ _ h => h) (Or.inl ⟨by rfl, fun w' hSw => by clear hSw; go_simp⟩) (by assumption) ?_
          simp only [Act.put, List.setIfInBounds_toArray, List.set_cons_zero, List.set_cons_succ]
          refine wpAnyH_take (i := 5) (oi := { dst := some 46, op := Op.move (Operand.tmp 9), type := 3, pos := "law.go:241", after := #[], guard := none }) (v := .int .i64 (j : Int)) rfl (by kernel_rfl) (by kernel_rfl) (by kernel_rfl) (fun _ _ _ h => h) (Or.inl ⟨by rfl, fun w' hSw => by clear hSw; go_simp⟩) (by assumption) ?_
          simp only [Act.put, List.setIfInBounds_toArray, List.set_cons_zero, List.set_cons_succ]
          refine wpAnyH_take (i := 3) (oi := { dst := some 44, op := Op.indexAddr 35 (Operand.tmp 42) (Operand.tmp 43), type := 0, pos := "law.go:241", after := #[{ on := 1, ground := Ground.data }, { on := 2, ground := Ground.data }], guard := none }) (v := .pointer (some ⟨BL, o + j * 3, none⟩)) rfl (by kernel_rfl) (by kernel_rfl) (by kernel_rfl) (fun _ _ _ h => h) (Or.inl ⟨by rfl, fun w' hSw => by clear hSw; go_simp⟩) (by assumption) ?_
          simp only [Act.put, List.setIfInBounds_toArray, List.set_cons_zero, List.set_cons_succ]
          refine wpAnyH_take (i := 6) (oi := { dst := some 47, op := Op.binOp BinOp.add 3 (Operand.const (Value.int IntKind.i64 10)) (Operand.tmp 46) 3, type := 3, pos := "law.go:241", after := #[{ on := 5, ground := Ground.data }], guard := none }) (v := .int .i64 c9) rfl (by kernel_rfl) (by kernel_rfl) (by kernel_rfl) (fun _ _ _ h => h) (Or.inl ⟨by rfl, fun w' hSw => by clear hSw; go_simp⟩) (by assumption) ?_
          simp only [Act.put, List.setIfInBounds_toArray, List.set_cons_zero, List.set_cons_succ]
          refine wpAnyH_take (i := 4) (oi := { dst := some 45, op := Op.load 23 (Operand.tmp 44), type := 23, pos := "law.go:241", after := #[{ on := 3, ground := Ground.data }], guard := none }) (v := .agg #[.string s.key, .int .i64 s.page, .int .i64 s.slot]) rfl (by kernel_rfl) (by kernel_rfl) (by kernel_rfl) (fun _ _ _ h => h) (yieldsIf_load_eb (by rfl) _ rfl rfl (fun W hW => HB.out.more hW)) (by assumption) ?_
          simp only [Act.put, List.setIfInBounds_toArray, List.set_cons_zero, List.set_cons_succ]
          refine wpAnyH_ready (rs := [7, 11]) (by kernel_rfl) (by simp) ?_
          refine AllReadyH.cons (o := { dst := some 48, op := Op.call { callee := Callee.value (Operand.func 30), args := #[Operand.tmp 41, Operand.tmp 45, Operand.tmp 47], argTypes := #[38, 23, 3] }, type := 42, pos := "law.go:241", after := #[{ on := 0, ground := Ground.data }, { on := 4, ground := Ground.data }, { on := 6, ground := Ground.data }], guard := none }) rfl (fun K hK => ?_) (AllReadyH.cons (o := { dst := some 10, op := Op.alloc 38, type := 0, pos := "law.go:241", after := #[], guard := none }) rfl (fun K hK => ?_) (AllReadyH.nil))
          · go_simp
            refine (HI.out _ _ _ _ _ _ _ _ (HV.out.ip.more hHeld) HV.out.fit).mono ?_
            rintro z x1 ⟨p, k, ⟨B5, ao5, cp5, rfl, hS5, hF5, ho5, hB5⟩, hpk⟩
            have HX1 := hide (o2 hHeld ho5)
            have HK := hide hpk
            have HS7 := hide (And.intro hS5 (And.intro hF5 hB5))
            clear hS5 hF5 ho5 hB5 hpk
            refine hK.out _ _ (HX1.out) (fun hHeld => ?_)
            clear hK K
            try simp only [Act.put, List.setIfInBounds_toArray, List.set_cons_zero, List.set_cons_succ]
            refine wpAnyH_take (i := 8) (oi := { dst := some 40, op := Op.move (Operand.tmp 48), type := 42, pos := "law.go:241", after := #[{ on := 7, ground := Ground.data }], guard := none }) (v := .tuple #[.agg #[.int .i64 p.lsn, .int .i64 p.kind, .int .i64 p.level, .int .i64 p.right, .string p.high, .slice ao5 p.items.length cp5], .int .i64 k]) rfl (by kernel_rfl) (by kernel_rfl) (by kernel_rfl) (fun _ _ _ h => h) (Or.inl ⟨by rfl, fun w' hSw => by clear hSw; go_simp⟩) (by assumption) ?_
            simp only [Act.put, List.setIfInBounds_toArray, List.set_cons_zero, List.set_cons_succ]
            refine wpAnyH_take (i := 9) (oi := { dst := some 49, op := Op.extract (Operand.tmp 40) 0, type := 38, pos := "law.go:241", after := #[{ on := 8, ground := Ground.data }], guard := none }) (v := .agg #[.int .i64 p.lsn, .int .i64 p.kind, .int .i64 p.level, .int .i64 p.right, .string p.high, .slice ao5 p.items.length cp5]) rfl (by kernel_rfl) (by kernel_rfl) (by kernel_rfl) (fun _ _ _ h => h) (Or.inl ⟨by rfl, fun w' hSw => by clear hSw; go_simp⟩) (by assumption) ?_
            simp only [Act.put, List.setIfInBounds_toArray, List.set_cons_zero, List.set_cons_succ]
            refine wpAnyH_take (i := 10) (oi := { dst := some 50, op := Op.extract (Operand.tmp 40) 1, type := 24, pos := "law.go:241", after := #[{ on := 8, ground := Ground.data }, { on := 12, ground := Ground.gcOnly Departure.lateStores }], guard := none }) (v := .int .i64 k) rfl (by kernel_rfl) (by kernel_rfl) (by kernel_rfl) (fun _ _ _ h => h) (Or.inl ⟨by rfl, fun w' hSw => by clear hSw; go_simp⟩) (by assumption) ?_
            simp only [Act.put, List.setIfInBounds_toArray, List.set_cons_zero, List.set_cons_succ]
            refine wpAnyH_ready (rs := [11]) (by kernel_rfl) (by simp) ?_
            refine AllReadyH.cons (o := { dst := some 10, op := Op.alloc 38, type := 0, pos := "law.go:241", after := #[], guard := none }) rfl (fun K hK => ?_) (AllReadyH.nil)
            go_simp
            refine hK.out _ _ (o2 HX1.out (onlyA _ _)) (fun hHeld => ?_)
            clear hK K
            try simp only [Act.put, List.setIfInBounds_toArray, List.set_cons_zero, List.set_cons_succ]
            refine wpAnyH_ready (rs := [12]) (by kernel_rfl) (by simp) ?_
            refine AllReadyH.cons (o := { dst := none, op := Op.store 38 (Operand.tmp 10) (Operand.tmp 49), type := 0, pos := "law.go:241", after := #[{ on := 11, ground := Ground.data }, { on := 9, ground := Ground.data }, { on := 7, ground := Ground.chain }, { on := 0, ground := Ground.phase }, { on := 1, ground := Ground.phase }, { on := 2, ground := Ground.phase }, { on := 3, ground := Ground.phase }, { on := 4, ground := Ground.phase }, { on := 5, ground := Ground.phase }, { on := 6, ground := Ground.phase }, { on := 7, ground := Ground.phase }, { on := 8, ground := Ground.phase }, { on := 9, ground := Ground.phase }, { on := 10, ground := Ground.textOnly Departure.lateStores }, { on := 11, ground := Ground.phase }], guard := none }) rfl (fun K hK => ?_) (AllReadyH.nil)
            go_simp
            have HNV := hide (nv_after HS7.out.1 HS7.out.2.1 HX1.out HS7.out.2.2)
            refine hK.out _ _ (HNV.out.only) (fun hHeld => ?_)
            clear hK K
            try simp only [Act.put, List.setIfInBounds_toArray, List.set_cons_zero, List.set_cons_succ]
            refine wpAnyH_take (i := 13) (oi := { dst := some 11, op := Op.assign (Operand.tmp 50), type := 24, pos := "law.go:241", after := #[{ on := 10, ground := Ground.data }, { on := 12, ground := Ground.chain }, { on := 0, ground := Ground.phase }, { on := 1, ground := Ground.phase }, { on := 2, ground := Ground.phase }, { on := 3, ground := Ground.phase }, { on := 4, ground := Ground.phase }, { on := 5, ground := Ground.phase }, { on := 6, ground := Ground.phase }, { on := 7, ground := Ground.phase }, { on := 8, ground := Ground.phase }, { on := 9, ground := Ground.phase }, { on := 10, ground := Ground.phase }, { on := 11, ground := Ground.phase }, { on := 12, ground := Ground.phase }], guard := none }) (v := .int .i64 k) rfl (by kernel_rfl) (by kernel_rfl) (by kernel_rfl) (fun _ _ _ h => h) (Or.inl ⟨by rfl, fun w' hSw => by clear hSw; go_simp⟩) (by assumption) ?_
            simp only [Act.put, List.setIfInBounds_toArray, List.set_cons_zero, List.set_cons_succ]
            refine wpAnyH_done (by kernel_rfl) ?_ _
            refine NoPanic.normal ?_
            go_wp2_with fail
            go_meet
            exact ⟨_, p, k, B5, ao5, cp5, rfl, rfl, HNV, HK⟩
          · go_simp
            have HZA : Hid (Pag ((wr.alloc (.cells #[.int .i64 0, .int .i64 0, .int .i64 0, .int .i64 0, .string ⟨#[]⟩, .slice none 0 0] 38)).drew) wr.heap.size (.int .i64 0) (.int .i64 0) (.int .i64 0) (.int .i64 0) (.string ⟨#[]⟩) (.slice none 0 0)) := (Pag.new wr _ _ _ _ _ _).more (Only.drew _ _)
            have HOA : Hid (Only (fun _ => False) wr ((wr.alloc (.cells #[.int .i64 0, .int .i64 0, .int .i64 0, .int .i64 0, .string ⟨#[]⟩, .slice none 0 0] 38)).drew)) := o2 (onlyA _ _) (Only.drew _ _)
            refine hK.out _ _ (HOA.out) (fun hHeld => ?_)
            clear hK K
            try simp only [Act.put, List.setIfInBounds_toArray, List.set_cons_zero, List.set_cons_succ]
            refine wpAnyH_ready (rs := [7]) (by kernel_rfl) (by simp) ?_
            refine AllReadyH.cons (o := { dst := some 48, op := Op.call { callee := Callee.value (Operand.func 30), args := #[Operand.tmp 41, Operand.tmp 45, Operand.tmp 47], argTypes := #[38, 23, 3] }, type := 42, pos := "law.go:241", after := #[{ on := 0, ground := Ground.data }, { on := 4, ground := Ground.data }, { on := 6, ground := Ground.data }], guard := none }) rfl (fun K hK => ?_) (AllReadyH.nil)
            go_simp
            refine (HI.out _ _ _ _ _ _ _ _ (HV.out.ip.more hHeld) HV.out.fit).mono ?_
            rintro z x1 ⟨p, k, ⟨B5, ao5, cp5, rfl, hS5, hF5, ho5, hB5⟩, hpk⟩
            have HX1 := hide (o2 hHeld ho5)
            have HK := hide hpk
            have HS7 := hide (And.intro hS5 (And.intro hF5 (And.intro ho5 hB5)))
            have HZ7 := hide (HZA.out.more ho5)
            obtain ⟨q0, q1, q2, q3, q4, q5, g0, g1, g2, g3, g4, g5, ql⟩ := HZ7.out
            clear hS5 hF5 ho5 hB5 hpk
            refine hK.out _ _ (HX1.out) (fun hHeld => ?_)
            clear hK K
            try simp only [Act.put, List.setIfInBounds_toArray, List.set_cons_zero, List.set_cons_succ]
            refine wpAnyH_take (i := 8) (oi := { dst := some 40, op := Op.move (Operand.tmp 48), type := 42, pos := "law.go:241", after := #[{ on := 7, ground := Ground.data }], guard := none }) (v := .tuple #[.agg #[.int .i64 p.lsn, .int .i64 p.kind, .int .i64 p.level, .int .i64 p.right, .string p.high, .slice ao5 p.items.length cp5], .int .i64 k]) rfl (by kernel_rfl) (by kernel_rfl) (by kernel_rfl) (fun _ _ _ h => h) (Or.inl ⟨by rfl, fun w' hSw => by clear hSw; go_simp⟩) (by assumption) ?_
            simp only [Act.put, List.setIfInBounds_toArray, List.set_cons_zero, List.set_cons_succ]
            refine wpAnyH_take (i := 9) (oi := { dst := some 49, op := Op.extract (Operand.tmp 40) 0, type := 38, pos := "law.go:241", after := #[{ on := 8, ground := Ground.data }], guard := none }) (v := .agg #[.int .i64 p.lsn, .int .i64 p.kind, .int .i64 p.level, .int .i64 p.right, .string p.high, .slice ao5 p.items.length cp5]) rfl (by kernel_rfl) (by kernel_rfl) (by kernel_rfl) (fun _ _ _ h => h) (Or.inl ⟨by rfl, fun w' hSw => by clear hSw; go_simp⟩) (by assumption) ?_
            simp only [Act.put, List.setIfInBounds_toArray, List.set_cons_zero, List.set_cons_succ]
            refine wpAnyH_take (i := 10) (oi := { dst := some 50, op := Op.extract (Operand.tmp 40) 1, type := 24, pos := "law.go:241", after := #[{ on := 8, ground := Ground.data }, { on := 12, ground := Ground.gcOnly Departure.lateStores }], guard := none }) (v := .int .i64 k) rfl (by kernel_rfl) (by kernel_rfl) (by kernel_rfl) (fun _ _ _ h => h) (Or.inl ⟨by rfl, fun w' hSw => by clear hSw; go_simp⟩) (by assumption) ?_
            simp only [Act.put, List.setIfInBounds_toArray, List.set_cons_zero, List.set_cons_succ]
            refine wpAnyH_ready (rs := [12]) (by kernel_rfl) (by simp) ?_
            refine AllReadyH.cons (o := { dst := none, op := Op.store 38 (Operand.tmp 10) (Operand.tmp 49), type := 0, pos := "law.go:241", after := #[{ on := 11, ground := Ground.data }, { on := 9, ground := Ground.data }, { on := 7, ground := Ground.chain }, { on := 0, ground := Ground.phase }, { on := 1, ground := Ground.phase }, { on := 2, ground := Ground.phase }, { on := 3, ground := Ground.phase }, { on := 4, ground := Ground.phase }, { on := 5, ground := Ground.phase }, { on := 6, ground := Ground.phase }, { on := 7, ground := Ground.phase }, { on := 8, ground := Ground.phase }, { on := 9, ground := Ground.phase }, { on := 10, ground := Ground.textOnly Departure.lateStores }, { on := 11, ground := Ground.phase }], guard := none }) rfl (fun K hK => ?_) (AllReadyH.nil)
            go_simp
            have HNV := hide (nv_before HZ7.out HS7.out.1 HS7.out.2.1 (Nat.le_refl _) HOA.out HS7.out.2.2.1 HZA.out.lt HS7.out.2.2.2)
            refine hK.out _ _ (HNV.out.only) (fun hHeld => ?_)
            clear hK K
            try simp only [Act.put, List.setIfInBounds_toArray, List.set_cons_zero, List.set_cons_succ]
            refine wpAnyH_take (i := 13) (oi := { dst := some 11, op := Op.assign (Operand.tmp 50), type := 24, pos := "law.go:241", after := #[{ on := 10, ground := Ground.data }, { on := 12, ground := Ground.chain }, { on := 0, ground := Ground.phase }, { on := 1, ground := Ground.phase }, { on := 2, ground := Ground.phase }, { on := 3, ground := Ground.phase }, { on := 4, ground := Ground.phase }, { on := 5, ground := Ground.phase }, { on := 6, ground := Ground.phase }, { on := 7, ground := Ground.phase }, { on := 8, ground := Ground.phase }, { on := 9, ground := Ground.phase }, { on := 10, ground := Ground.phase }, { on := 11, ground := Ground.phase }, { on := 12, ground := Ground.phase }], guard := none }) (v := .int .i64 k) rfl (by kernel_rfl) (by kernel_rfl) (by kernel_rfl) (fun _ _ _ h => h) (Or.inl ⟨by rfl, fun w' hSw => by clear hSw; go_simp⟩) (by assumption) ?_
            simp only [Act.put, List.setIfInBounds_toArray, List.set_cons_zero, List.set_cons_succ]
            refine wpAnyH_done (by kernel_rfl) ?_ _
            refine NoPanic.normal ?_
            go_wp2_with fail
            go_meet
            exact ⟨_, p, k, B5, ao5, cp5, rfl, rfl, HNV, HK⟩
          -- r9}
        case rest =>
          obtain ⟨c, p, k, B5, ao5, cp5, rfl, rfl, HNV, HK⟩ := hcut
          clear hc9 hwc
          have HVEk := hide (HVE.out.more HNV.out.only)
          have HVXk := hide (HVX.out.more HNV.out.only)
          have HOk := hide (o2 HOj.out HNV.out.only)
          rcases HK.out with ⟨rfl, rfl, h1, h2, h3, h4⟩ | ⟨hk, -⟩
          · have HLI := hide (HV.out.ip.inn.post h1 h2 h3)
            have HKI : Hid (∀ k ∈ posK ks s c9, k.2 ≠ 9999) := fun k hk => by
              rcases posK_mem hk with rfl | hk
              · exact HC9.out
              · exact HV.out.kids k hk
            have HLN := hide h4
            have HPV := hide (HV.out.pag.more HNV.out.only)
            have HZ5 : Hid (b7 < wr.heap.size) := HV.out.pag.lt
            clear h1 h2 h3 h4 HK HVE HVX HOj HV HC9
            obtain ⟨nl, hnl⟩ : ∃ nl, posI l ks s c9 = nl := ⟨_, rfl⟩
            rw [hnl] at HNV HLN HLI
            clear hnl
            obtain ⟨nk, hnk⟩ : ∃ nk, posK ks s c9 = nk := ⟨_, rfl⟩
            rw [hnk] at HLI HKI
            clear hnk
            obtain ⟨q0, q1, q2, q3, q4, q5, _⟩ := HNV.out.pag
            obtain ⟨p0, p1, p2, p3, p4, p5, f0, f1, f2, f3, f4, f5, _⟩ := HPV.out
            simp only [] at q0 q1 q2 q3 q4 q5
            go_wp2_with fail
            have h6 := Only.six wc b7 (.int .i64 0) (.int .i64 3) (.int .i64 1) (.int .i64 0) (.string ⟨#[]⟩) (.slice ao5 nl.length cp5)
            have HG6 : Hid (Iv ((((((wc.setCell ⟨b7, 0, none⟩ (.int .i64 0)).setCell ⟨b7, 1, none⟩ (.int .i64 3)).setCell ⟨b7, 2, none⟩ (.int .i64 1)).setCell ⟨b7, 3, none⟩ (.int .i64 0)).setCell ⟨b7, 4, none⟩ (.string ⟨#[]⟩)).setCell ⟨b7, 5, none⟩ (.slice ao5 nl.length cp5)) b7 B5 ao5 cp5 nl nk) :=
              ⟨HPV.out.six _ _ _ _ _ _, ⟨HNV.out.strs.kept h6 (fun h => by have := HNV.out.ne h; have := HZ5.out; omega), by decide, by decide, .inl ⟨rfl, rfl⟩, HLI.out, by have := HLN.out; omega⟩, HNV.out.fit, HLN.out, HKI.out⟩
            have HE6 := hide (HVEk.out.kept h6 (by have := HZ.out; omega))
            have HX6 := hide (HVXk.out.kept h6 (by have := HZ.out; omega))
            have HO6 : Hid (Only (fun _ => False) w _) := HOk.out.trans h6 (fun i hi e => by have := HZ.out; omega)
            clear h6 q0 q1 q2 q3 q4 q5 p0 p1 p2 p3 p4 p5 f0 f1 f2 f3 f4 f5 HPV HNV HLI HLN HVEk HVXk HOk HZ5
            go_roundw
            case rel => exact ⟨j + 1, B5, ao5, cp5, nl, nk, by omega, by go_num, HG6, HE6, HX6, HO6⟩
            case measure => simp [intOf]; omega
          · have hk' : (k == 0) = false := by simpa using hk
            have HV6 := hide (HV.out.more HNV.out.only)
            clear hk HK HVE HVX HOj HV HNV HC9
            go_wp2_with fail
            go_roundw
            case rel => exact ⟨j + 1, B, ao, cp, l, ks, by omega, by go_num, HV6, HVEk, HVXk, HOk⟩
            case measure => simp [intOf]; omega
      · have hlk : ¬ (j : Int) < (N : Int) := by omega
        clear HE HN
        obtain ⟨p0, p1, p2, p3, p4, p5, _⟩ := HV.out.pag
        obtain ⟨d0, d1, d2, _⟩ := HVE.out
        go_wp2_with fail
        refine (HI.out _ _ _ _ _ _ _ _ HV.out.ip HV.out.fit).mono ?_
        rintro z w4 ⟨p, k, ⟨B5, ao5, cp5, rfl, hS5, hF5, ho, hB5⟩, hpk⟩
        have HV4 := hide (HV.out.more ho)
        have HE4 := hide (HVE.out.more ho)
        have HX4 := hide (HVX.out.more ho)
        have HO4 := hide (o2 HOj.out ho)
        have HS4 := hide (And.intro hS5 hF5)
        have HK := hide hpk
        clear ho p0 p1 p2 p3 p4 p5 d0 d1 d2 hS5 hF5 hB5 hpk HV HVE HVX HOj HI hlk hlt hj
        rcases HK.out with ⟨rfl, rfl, k1, k2, k3, k4⟩ | ⟨hk, hp⟩
        · have HLI := hide (HV4.out.ip.inn.post k1 k2 k3)
          have HPC : Hid (x.ok = true → ((chE (posK ks e 9999) x = 9999) ↔ (e.lt x ∧ ∀ s ∈ insE (ks.map Prod.fst) e, ¬ (e.lt s ∧ s.lt x))) ∧ (¬ (e.lt x ∧ ∀ s ∈ insE (ks.map Prod.fst) e, ¬ (e.lt s ∧ s.lt x)) → chE ks x = chE (posK ks e 9999) x)) := fun hx => post_child HV4.out.ip.inn hx k3 HV4.out.kids
          have HFS : Hid ((posK ks e 9999).map Prod.fst = insE (ks.map Prod.fst) e) := posK_fst ks e 9999
          have HLN := hide k4
          clear k1 k2 k3 k4 HK HCB
          obtain ⟨nl, hnl⟩ : ∃ nl, posI l ks e 9999 = nl := ⟨_, rfl⟩
          rw [hnl] at HS4 HLN HLI ⊢
          clear hnl
          obtain ⟨nk, hnk⟩ : ∃ nk, posK ks e 9999 = nk := ⟨_, rfl⟩
          rw [hnk] at HLI HPC HFS
          clear hnk
          obtain ⟨fs, hfs⟩ : ∃ fs, insE (ks.map Prod.fst) e = fs := ⟨_, rfl⟩
          rw [hfs] at HPC HFS
          clear hfs
          simp only [] at HS4
          simp only []
          go_upto_region 13 with fail
          have HA := hide (onlyA w4 (.cells #[.int .i64 0, .int .i64 3, .int .i64 1, .int .i64 0, .string ⟨#[]⟩, .slice ao5 nl.length cp5] 38))
          have HQ5 := hide (Pag.new w4 (.int .i64 0) (.int .i64 3) (.int .i64 1) (.int .i64 0) (.string ⟨#[]⟩) (.slice ao5 nl.length cp5))
          obtain ⟨b8, hb8⟩ : ∃ b, w4.heap.size = b := ⟨_, rfl⟩
          rw [hb8] at HQ5 ⊢
          clear hb8
          obtain ⟨w5, hw5⟩ : ∃ y, w4.alloc (.cells #[.int .i64 0, .int .i64 3, .int .i64 1, .int .i64 0, .string ⟨#[]⟩, .slice ao5 nl.length cp5] 38) = y := ⟨_, rfl⟩
          rw [hw5] at HA HQ5 ⊢
          clear hw5
          have HIQ5 : Hid (Ip w5 1 0 ⟨#[]⟩ noE B5 ao5 nl nk) := ⟨HS4.out.1.more HA.out, by decide, by decide, .inl ⟨rfl, rfl⟩, HLI.out, by have := HLN.out; omega⟩
          have HNK : Hid (nk.length ≤ 255) := by have := HLI.out.len; have := HLN.out; unfold Hid; omega
          have HV5 := hide (HV4.out.more HA.out)
          have HE5 := hide (HE4.out.more HA.out)
          have HX5 := hide (HX4.out.more HA.out)
          have HO5 := hide (o2 HO4.out HA.out)
          clear HA HV4 HE4 HX4 HO4 HS4 HLI HLN
          obtain ⟨p0, p1, p2, p3, p4, p5, _⟩ := HV5.out.pag
          obtain ⟨d0, d1, d2, _⟩ := HX5.out
          go_wp2_with fail
          refine (HCH.out _ _ _ _ _ _ HV5.out.ip).mono ?_
          rintro z w6 ⟨rfl, ho⟩
          have HQ6 := hide (HQ5.out.more ho)
          have HIQ6 := hide (HIQ5.out.more ho)
          have HE6 := hide (HE5.out.more ho)
          have HX6 := hide (HX5.out.more ho)
          have HO6 := hide (o2 HO5.out ho)
          clear ho p0 p1 p2 p3 p4 p5 d0 d1 d2 HQ5 HIQ5 HV5 HE5 HX5 HO5
          cases hxo : x.ok with
          | false =>
            have hc1 := ch_no (ks := ks) hxo
            have hc2 := ch_no (ks := nk) hxo
            rw [hc1]
            clear hc1 hxo HPC
            obtain ⟨p0, p1, p2, p3, p4, p5, _⟩ := HQ6.out
            obtain ⟨d0, d1, d2, _⟩ := HX6.out
            have HC2 := hide hc2
            clear hc2
            go_wp2_with fail
            refine (HCH.out _ _ _ _ _ _ HIQ6.out).mono ?_
            rintro z w7 ⟨rfl, ho⟩
            have HO7 := hide (o2 HO6.out ho)
            rw [HC2.out]
            clear ho p0 p1 p2 p3 p4 p5 d0 d1 d2 HQ6 HIQ6 HE6 HX6 HO6 HC2
            go_wp2_with fail
            refine (HAW.out _).mono ?_
            rintro z w8 ⟨rfl, ho⟩
            have HO8 := hide (o2 HO7.out ho)
            clear ho
            go_wp2_with fail
            go_ret
            exact ⟨rfl, HO8.out⟩
          | true =>
            have hc1 := ch_yes (ks := ks) hxo
            have hc2 := ch_yes (ks := nk) hxo
            have HPD := hide (HPC.out hxo)
            clear hxo HPC
            obtain ⟨va, hva⟩ : ∃ v, chE ks x = v := ⟨_, rfl⟩
            obtain ⟨vb, hvb⟩ : ∃ v, chE nk x = v := ⟨_, rfl⟩
            rw [hva] at hc1 HPD
            rw [hvb] at hc2 HPD
            clear hva hvb
            rw [hc1]
            have HC2 := hide hc2
            clear hc1 hc2
            obtain ⟨p0, p1, p2, p3, p4, p5, _⟩ := HQ6.out
            obtain ⟨d0, d1, d2, _⟩ := HX6.out
            go_wp2_with fail
            refine (HCH.out _ _ _ _ _ _ HIQ6.out).mono ?_
            rintro z w7 ⟨rfl, ho⟩
            have HQ7 := hide (HQ6.out.more ho)
            have HIQ7 := hide (HIQ6.out.more ho)
            have HE7 := hide (HE6.out.more ho)
            have HX7 := hide (HX6.out.more ho)
            have HO7 := hide (o2 HO6.out ho)
            rw [HC2.out]
            clear ho p0 p1 p2 p3 p4 p5 d0 d1 d2 HQ6 HIQ6 HE6 HX6 HO6 HC2
            obtain ⟨p0, p1, p2, p3, p4, p5, _⟩ := HQ7.out
            go_wp2_with fail
            refine (HKD.out _ _ _ _ _ _ HIQ7.out).mono ?_
            rintro z w8 ⟨A, C, A2, C2, rfl, he, -, ho⟩
            rw [HFS.out] at he
            obtain ⟨Bf, hels, hlen⟩ := he.elsOf
            have HX8 := hide (HX7.out.more ho)
            have HE8 := hide (HE7.out.more ho)
            have HO8 := hide (o2 HO7.out ho)
            have HF8 := hide hels
            obtain ⟨m, hm⟩ : ∃ m, nk.length = m := ⟨_, rfl⟩
            rw [hm] at hlen HNK ⊢
            have HM := hide hlen
            clear he hels hlen hm ho p0 p1 p2 p3 p4 p5 HQ7 HIQ7 HE7 HX7 HO7 HFS
            obtain ⟨d0, d1, d2, _⟩ := HX8.out
            obtain ⟨e0, e1, e2, _⟩ := HE8.out
            go_wp2_with fail
            refine (HCM.out _ _ _).mono ?_
            rintro z w9 ⟨rfl, ho⟩
            have HX9 := hide (HX8.out.more ho)
            have HE9 := hide (HE8.out.more ho)
            have HO9 := hide (o2 HO8.out ho)
            have HF9 := hide (HF8.out.more ho)
            clear ho d0 d1 d2 e0 e1 e2 HX8 HE8 HO8 HF8
            obtain ⟨nr, hnr⟩ : ∃ b : Bool, decide (cmpE e x < 0) = b := ⟨_, rfl⟩
            have HNR : Hid (nr = true ↔ e.lt x) := by
              unfold Hid
              rw [← hnr, decide_eq_true_iff]
              exact cmpE_neg
            go_upto_region 21 with fail
            obtain ⟨zz, hzz⟩ : ∃ z, cmpE e x = z := ⟨_, rfl⟩
            rw [hzz] at hnr
            try rw [hzz]
            try rw [hnr]
            clear hzz hnr
            try clear zz
            go_wp2_with fail
            go_loopw [21, 22] (fun nb i wr2 => ∃ (q : Nat) (b : Bool), q ≤ m ∧ i = .int .i64 (q : Int) ∧ nb = .bool b ∧ Hid (b = true ↔ (e.lt x ∧ ∀ s ∈ fs.take q, ¬ (e.lt s ∧ s.lt x))) ∧ Hid (Only (fun _ => False) w9 wr2)) (fun _ i _ => m - (intOf i).toNat)
            case atStart => exact ⟨0, nr, Nat.zero_le _, rfl, rfl, hide (by rw [HNR.out]; simp), hide (Only.refl _ _)⟩
            case round =>
              obtain ⟨q, b, hq, rfl, rfl, HBQ, HW⟩ := hrel
              have hm256 : m ≤ 255 := by have := HNK.out; omega
              by_cases hlq : q < m
              · have hqk : (q : Int) < (m : Int) := by omega
                have hqk2 : ¬ (m : Int) ≤ (q : Int) := by omega
                have hqx : q < fs.length := by have := HM.out; omega
                have HTK : Hid (fs.take (q + 1) = fs.take q ++ [fs[q]]) := List.take_succ_eq_append_getElem hqx
                obtain ⟨of, rfl, hbx⟩ := (HF9.out.more HW.out).of q hqx
                have HBF := hide hbx
                obtain ⟨g, hg⟩ : ∃ g, fs[q] = g := ⟨_, rfl⟩
                rw [hg] at HBF HTK
                clear hbx hg hqx
                have HE10 := hide (HE9.out.more HW.out)
                have HX10 := hide (HX9.out.more HW.out)
                have HC1 := hide (HCM.out e g)
                have HC2 := hide (HCM.out g x)
                have HNQ : Hid (∀ b2 : Bool, (b2 = true ↔ (b = true ∧ ¬ (e.lt g ∧ g.lt x))) → (b2 = true ↔ (e.lt x ∧ ∀ s ∈ fs.take (q + 1), ¬ (e.lt s ∧ s.lt x)))) := fun b2 h2 => by
                  rw [h2, HBQ.out, HTK.out]
                  constructor
                  · rintro ⟨⟨h1, h3⟩, h4⟩
                    refine ⟨h1, fun s hs => ?_⟩
                    rcases List.mem_append.1 hs with hs | hs
                    · exact h3 s hs
                    · rw [List.mem_singleton.1 hs]
                      exact h4
                  · rintro ⟨h1, h3⟩
                    exact ⟨⟨h1, fun s hs => h3 s (List.mem_append.2 (.inl hs))⟩, h3 g (List.mem_append.2 (.inr (List.mem_singleton.2 rfl)))⟩
                clear HBQ HTK
                have hn1 := cmpE_neg (a := e) (b := g)
                have hn2 := cmpE_neg (a := g) (b := x)
                obtain ⟨z1, hz1⟩ : ∃ z, cmpE e g = z := ⟨_, rfl⟩
                obtain ⟨z2, hz2⟩ : ∃ z, cmpE g x = z := ⟨_, rfl⟩
                rw [hz1] at HC1 hn1
                rw [hz2] at HC2 hn2
                clear hz1 hz2
                by_cases h1 : z1 < 0
                · by_cases h2 : z2 < 0
                  · have HQ := hide (HNQ.out false (by simp; intro _; exact ⟨hn1.1 h1, hn2.1 h2⟩))
                    clear hn1 hn2 HNQ
                    go_upto_region 24 with fail
                    -- {r24a
                    refine wp_region_noPanic ?_
                    refine wp_region_held_drew (S := fun W => Only (fun _ => False) wr W) (by kernel_rfl) (Only.drew _ _) (fun hHeld => ?_)
                    refine wpAnyH_take (i := 0) (oi := { dst := some 103, op := Op.load 23 (Operand.tmp 4), type := 23, pos := "law.go:259", after := #[], guard := none }) (v := .agg #[.string e.key, .int .i64 e.page, .int .i64 e.slot]) rfl (by kernel_rfl) (by kernel_rfl) (by kernel_rfl) (fun _ _ _ h => h) (yieldsIf_load_ev (by rfl) _ rfl rfl (fun W hW => HE10.out.more hW)) (by assumption) ?_
                    simp only [Act.put, List.setIfInBounds_toArray, List.set_cons_zero, List.set_cons_succ]
                    refine wpAnyH_take (i := 1) (oi := { dst := some 104, op := Op.move (Operand.tmp 18), type := 35, pos := "law.go:259", after := #[], guard := none }) (v := .slice (some ⟨Bf, of, none⟩) m C) rfl (by kernel_rfl) (by kernel_rfl) (by kernel_rfl) (fun _ _ _ h => h) (Or.inl ⟨by rfl, fun w' hSw => by clear hSw; go_simp⟩) (by assumption) ?_
                    simp only [Act.put, List.setIfInBounds_toArray, List.set_cons_zero, List.set_cons_succ]
                    refine wpAnyH_take (i := 2) (oi := { dst := some 105, op := Op.move (Operand.tmp 22), type := 3, pos := "law.go:259", after := #[], guard := none }) (v := .int .i64 (q : Int)) rfl (by kernel_rfl) (by kernel_rfl) (by kernel_rfl) (fun _ _ _ h => h) (Or.inl ⟨by rfl, fun w' hSw => by clear hSw; go_simp⟩) (by assumption) ?_
                    simp only [Act.put, List.setIfInBounds_toArray, List.set_cons_zero, List.set_cons_succ]
                    refine wpAnyH_take (i := 3) (oi := { dst := some 106, op := Op.indexAddr 35 (Operand.tmp 104) (Operand.tmp 105), type := 0, pos := "law.go:259", after := #[{ on := 1, ground := Ground.data }, { on := 2, ground := Ground.data }], guard := none }) (v := .pointer (some ⟨Bf, of + q * 3, none⟩)) rfl (by kernel_rfl) (by kernel_rfl) (by kernel_rfl) (fun _ _ _ h => h) (Or.inl ⟨by rfl, fun w' hSw => by clear hSw; go_simp⟩) (by assumption) ?_
                    simp only [Act.put, List.setIfInBounds_toArray, List.set_cons_zero, List.set_cons_succ]
                    refine wpAnyH_take (i := 4) (oi := { dst := some 107, op := Op.load 23 (Operand.tmp 106), type := 23, pos := "law.go:259", after := #[{ on := 3, ground := Ground.data }], guard := none }) (v := .agg #[.string g.key, .int .i64 g.page, .int .i64 g.slot]) rfl (by kernel_rfl) (by kernel_rfl) (by kernel_rfl) (fun _ _ _ h => h) (yieldsIf_load_eb (by rfl) _ rfl rfl (fun W hW => HBF.out.more hW)) (by assumption) ?_
                    simp only [Act.put, List.setIfInBounds_toArray, List.set_cons_zero, List.set_cons_succ]
                    refine wpAnyH_ready (rs := [5]) (by kernel_rfl) (by simp) ?_
                    refine AllReadyH.cons (o := { dst := some 108, op := Op.call { callee := Callee.value (Operand.func 17), args := #[Operand.tmp 103, Operand.tmp 107], argTypes := #[23, 23] }, type := 3, pos := "law.go:259", after := #[{ on := 0, ground := Ground.data }, { on := 4, ground := Ground.data }], guard := none }) rfl (fun K hK => ?_) (AllReadyH.nil)
                    go_simp
                    refine (HC1.out _).mono ?_
                    rintro z x1 ⟨rfl, hx1⟩
                    have HX1 := hide (o2 hHeld hx1)
                    clear hx1
                    refine hK.out _ _ (HX1.out) (fun hHeld => ?_)
                    clear hK K
                    try simp only [Act.put, List.setIfInBounds_toArray, List.set_cons_zero, List.set_cons_succ]
                    refine wpAnyH_take (i := 6) (oi := { dst := some 109, op := Op.binOp BinOp.lss 3 (Operand.tmp 108) (Operand.const (Value.int IntKind.i64 0)) 3, type := 4, pos := "law.go:259", after := #[{ on := 5, ground := Ground.data }], guard := none }) (v := .bool true) rfl (by kernel_rfl) (by kernel_rfl) (by kernel_rfl) (fun _ _ _ h => h) (Or.inl ⟨by rfl, fun w' hSw => by clear hSw; go_simp⟩) (by assumption) ?_
                    simp only [Act.put, List.setIfInBounds_toArray, List.set_cons_zero, List.set_cons_succ]
                    refine wpAnyH_take (i := 7) (oi := { dst := some 110, op := Op.move (Operand.tmp 109), type := 4, pos := "law.go:259", after := #[{ on := 6, ground := Ground.data }, { on := 5, ground := Ground.chain }], guard := none }) (v := .bool true) rfl (by kernel_rfl) (by kernel_rfl) (by kernel_rfl) (fun _ _ _ h => h) (Or.inl ⟨by rfl, fun w' hSw => by clear hSw; go_simp⟩) (by assumption) ?_
                    simp only [Act.put, List.setIfInBounds_toArray, List.set_cons_zero, List.set_cons_succ]
                    refine wpAnyH_take (i := 8) (oi := { dst := some 111, op := Op.move (Operand.tmp 18), type := 35, pos := "law.go:259", after := #[{ on := 7, ground := Ground.guard }], guard := some (7, true) }) (v := .slice (some ⟨Bf, of, none⟩) m C) rfl (by kernel_rfl) (by kernel_rfl) (by kernel_rfl) (fun _ _ _ h => h) (Or.inl ⟨by rfl, fun w' hSw => by clear hSw; go_simp⟩) (by assumption) ?_
                    simp only [Act.put, List.setIfInBounds_toArray, List.set_cons_zero, List.set_cons_succ]
                    refine wpAnyH_take (i := 9) (oi := { dst := some 112, op := Op.move (Operand.tmp 22), type := 3, pos := "law.go:259", after := #[{ on := 7, ground := Ground.guard }], guard := some (7, true) }) (v := .int .i64 (q : Int)) rfl (by kernel_rfl) (by kernel_rfl) (by kernel_rfl) (fun _ _ _ h => h) (Or.inl ⟨by rfl, fun w' hSw => by clear hSw; go_simp⟩) (by assumption) ?_
                    simp only [Act.put, List.setIfInBounds_toArray, List.set_cons_zero, List.set_cons_succ]
                    refine wpAnyH_take (i := 12) (oi := { dst := some 115, op := Op.load 23 (Operand.tmp 5), type := 23, pos := "law.go:259", after := #[{ on := 7, ground := Ground.guard }], guard := some (7, true) }) (v := .agg #[.string x.key, .int .i64 x.page, .int .i64 x.slot]) rfl (by kernel_rfl) (by kernel_rfl) (by kernel_rfl) (fun _ _ _ h => h) (yieldsIf_load_ev (by rfl) _ rfl rfl (fun W hW => HX10.out.more hW)) (by assumption) ?_
                    simp only [Act.put, List.setIfInBounds_toArray, List.set_cons_zero, List.set_cons_succ]
                    refine wpAnyH_take (i := 10) (oi := { dst := some 113, op := Op.indexAddr 35 (Operand.tmp 111) (Operand.tmp 112), type := 0, pos := "law.go:259", after := #[{ on := 8, ground := Ground.data }, { on := 9, ground := Ground.data }, { on := 7, ground := Ground.guard }], guard := some (7, true) }) (v := .pointer (some ⟨Bf, of + q * 3, none⟩)) rfl (by kernel_rfl) (by kernel_rfl) (by kernel_rfl) (fun _ _ _ h => h) (Or.inl ⟨by rfl, fun w' hSw => by clear hSw; go_simp⟩) (by assumption) ?_
                    simp only [Act.put, List.setIfInBounds_toArray, List.set_cons_zero, List.set_cons_succ]
                    refine wpAnyH_take (i := 11) (oi := { dst := some 114, op := Op.load 23 (Operand.tmp 113), type := 23, pos := "law.go:259", after := #[{ on := 10, ground := Ground.data }, { on := 7, ground := Ground.guard }], guard := some (7, true) }) (v := .agg #[.string g.key, .int .i64 g.page, .int .i64 g.slot]) rfl (by kernel_rfl) (by kernel_rfl) (by kernel_rfl) (fun _ _ _ h => h) (yieldsIf_load_eb (by rfl) _ rfl rfl (fun W hW => HBF.out.more hW)) (by assumption) ?_
                    simp only [Act.put, List.setIfInBounds_toArray, List.set_cons_zero, List.set_cons_succ]
                    refine wpAnyH_ready (rs := [13]) (by kernel_rfl) (by simp) ?_
                    refine AllReadyH.cons (o := { dst := some 116, op := Op.call { callee := Callee.value (Operand.func 17), args := #[Operand.tmp 114, Operand.tmp 115], argTypes := #[23, 23] }, type := 3, pos := "law.go:259", after := #[{ on := 11, ground := Ground.data }, { on := 12, ground := Ground.data }, { on := 7, ground := Ground.chain }, { on := 7, ground := Ground.guard }], guard := some (7, true) }) rfl (fun K hK => ?_) (AllReadyH.nil)
                    go_simp
                    refine (HC2.out _).mono ?_
                    rintro z x2 ⟨rfl, hx2⟩
                    have HX2 := hide (o2 hHeld hx2)
                    clear hx2
                    refine hK.out _ _ (HX2.out) (fun hHeld => ?_)
                    clear hK K
                    try simp only [Act.put, List.setIfInBounds_toArray, List.set_cons_zero, List.set_cons_succ]
                    refine wpAnyH_take (i := 14) (oi := { dst := some 117, op := Op.binOp BinOp.lss 3 (Operand.tmp 116) (Operand.const (Value.int IntKind.i64 0)) 3, type := 4, pos := "law.go:259", after := #[{ on := 13, ground := Ground.data }, { on := 7, ground := Ground.guard }], guard := some (7, true) }) (v := .bool true) rfl (by kernel_rfl) (by kernel_rfl) (by kernel_rfl) (fun _ _ _ h => h) (Or.inl ⟨by rfl, fun w' hSw => by clear hSw; go_simp⟩) (by assumption) ?_
                    simp only [Act.put, List.setIfInBounds_toArray, List.set_cons_zero, List.set_cons_succ]
                    refine wpAnyH_take (i := 15) (oi := { dst := some 118, op := Op.pick (Operand.tmp 110) (Operand.tmp 117) (Operand.const (Value.bool false)), type := 4, pos := "law.go:259", after := #[{ on := 7, ground := Ground.data }, { on := 14, ground := Ground.data }], guard := none }) (v := .bool true) rfl (by kernel_rfl) (by kernel_rfl) (by kernel_rfl) (fun _ _ _ h => h) (Or.inl ⟨by rfl, fun w' hSw => by clear hSw; go_simp⟩) (by assumption) ?_
                    simp only [Act.put, List.setIfInBounds_toArray, List.set_cons_zero, List.set_cons_succ]
                    refine wpAnyH_done (by kernel_rfl) ?_ _
                    refine NoPanic.normal ?_
                    -- r24a}
                    go_wp2_with fail
                    go_roundw
                    case rel => exact ⟨q + 1, false, by omega, by go_num, rfl, HQ, hide (o2 HW.out HX2.out)⟩
                    case measure => simp [intOf]; omega
                  · have HQ := hide (HNQ.out b (by simp; intro _ _ h; exact h2 (hn2.2 h)))
                    clear hn1 hn2 HNQ
                    go_upto_region 24 with fail
                    -- {r24b
                    refine wp_region_noPanic ?_
                    refine wp_region_held_drew (S := fun W => Only (fun _ => False) wr W) (by kernel_rfl) (Only.drew _ _) (fun hHeld => ?_)
                    refine wpAnyH_take (i := 0) (oi := { dst := some 103, op := Op.load 23 (Operand.tmp 4), type := 23, pos := "law.go:259", after := #[], guard := none }) (v := .agg #[.string e.key, .int .i64 e.page, .int .i64 e.slot]) rfl (by kernel_rfl) (by kernel_rfl) (by kernel_rfl) (fun _ _ _ h => h) (yieldsIf_load_ev (by rfl) _ rfl rfl (fun W hW => HE10.out.more hW)) (by assumption) ?_
                    simp only [Act.put, List.setIfInBounds_toArray, List.set_cons_zero, List.set_cons_succ]
                    refine wpAnyH_take (i := 1) (oi := { dst := some 104, op := Op.move (Operand.tmp 18), type := 35, pos := "law.go:259", after := #[], guard := none }) (v := .slice (some ⟨Bf, of, none⟩) m C) rfl (by kernel_rfl) (by kernel_rfl) (by kernel_rfl) (fun _ _ _ h => h) (Or.inl ⟨by rfl, fun w' hSw => by clear hSw; go_simp⟩) (by assumption) ?_
                    simp only [Act.put, List.setIfInBounds_toArray, List.set_cons_zero, List.set_cons_succ]
                    refine wpAnyH_take (i := 2) (oi := { dst := some 105, op := Op.move (Operand.tmp 22), type := 3, pos := "law.go:259", after := #[], guard := none }) (v := .int .i64 (q : Int)) rfl (by kernel_rfl) (by kernel_rfl) (by kernel_rfl) (fun _ _ _ h => h) (Or.inl ⟨by rfl, fun w' hSw => by clear hSw; go_simp⟩) (by assumption) ?_
                    simp only [Act.put, List.setIfInBounds_toArray, List.set_cons_zero, List.set_cons_succ]
                    refine wpAnyH_take (i := 3) (oi := { dst := some 106, op := Op.indexAddr 35 (Operand.tmp 104) (Operand.tmp 105), type := 0, pos := "law.go:259", after := #[{ on := 1, ground := Ground.data }, { on := 2, ground := Ground.data }], guard := none }) (v := .pointer (some ⟨Bf, of + q * 3, none⟩)) rfl (by kernel_rfl) (by kernel_rfl) (by kernel_rfl) (fun _ _ _ h => h) (Or.inl ⟨by rfl, fun w' hSw => by clear hSw; go_simp⟩) (by assumption) ?_
                    simp only [Act.put, List.setIfInBounds_toArray, List.set_cons_zero, List.set_cons_succ]
                    refine wpAnyH_take (i := 4) (oi := { dst := some 107, op := Op.load 23 (Operand.tmp 106), type := 23, pos := "law.go:259", after := #[{ on := 3, ground := Ground.data }], guard := none }) (v := .agg #[.string g.key, .int .i64 g.page, .int .i64 g.slot]) rfl (by kernel_rfl) (by kernel_rfl) (by kernel_rfl) (fun _ _ _ h => h) (yieldsIf_load_eb (by rfl) _ rfl rfl (fun W hW => HBF.out.more hW)) (by assumption) ?_
                    simp only [Act.put, List.setIfInBounds_toArray, List.set_cons_zero, List.set_cons_succ]
                    refine wpAnyH_ready (rs := [5]) (by kernel_rfl) (by simp) ?_
                    refine AllReadyH.cons (o := { dst := some 108, op := Op.call { callee := Callee.value (Operand.func 17), args := #[Operand.tmp 103, Operand.tmp 107], argTypes := #[23, 23] }, type := 3, pos := "law.go:259", after := #[{ on := 0, ground := Ground.data }, { on := 4, ground := Ground.data }], guard := none }) rfl (fun K hK => ?_) (AllReadyH.nil)
                    go_simp
                    refine (HC1.out _).mono ?_
                    rintro z x1 ⟨rfl, hx1⟩
                    have HX1 := hide (o2 hHeld hx1)
                    clear hx1
                    refine hK.out _ _ (HX1.out) (fun hHeld => ?_)
                    clear hK K
                    try simp only [Act.put, List.setIfInBounds_toArray, List.set_cons_zero, List.set_cons_succ]
                    refine wpAnyH_take (i := 6) (oi := { dst := some 109, op := Op.binOp BinOp.lss 3 (Operand.tmp 108) (Operand.const (Value.int IntKind.i64 0)) 3, type := 4, pos := "law.go:259", after := #[{ on := 5, ground := Ground.data }], guard := none }) (v := .bool true) rfl (by kernel_rfl) (by kernel_rfl) (by kernel_rfl) (fun _ _ _ h => h) (Or.inl ⟨by rfl, fun w' hSw => by clear hSw; go_simp⟩) (by assumption) ?_
                    simp only [Act.put, List.setIfInBounds_toArray, List.set_cons_zero, List.set_cons_succ]
                    refine wpAnyH_take (i := 7) (oi := { dst := some 110, op := Op.move (Operand.tmp 109), type := 4, pos := "law.go:259", after := #[{ on := 6, ground := Ground.data }, { on := 5, ground := Ground.chain }], guard := none }) (v := .bool true) rfl (by kernel_rfl) (by kernel_rfl) (by kernel_rfl) (fun _ _ _ h => h) (Or.inl ⟨by rfl, fun w' hSw => by clear hSw; go_simp⟩) (by assumption) ?_
                    simp only [Act.put, List.setIfInBounds_toArray, List.set_cons_zero, List.set_cons_succ]
                    refine wpAnyH_take (i := 8) (oi := { dst := some 111, op := Op.move (Operand.tmp 18), type := 35, pos := "law.go:259", after := #[{ on := 7, ground := Ground.guard }], guard := some (7, true) }) (v := .slice (some ⟨Bf, of, none⟩) m C) rfl (by kernel_rfl) (by kernel_rfl) (by kernel_rfl) (fun _ _ _ h => h) (Or.inl ⟨by rfl, fun w' hSw => by clear hSw; go_simp⟩) (by assumption) ?_
                    simp only [Act.put, List.setIfInBounds_toArray, List.set_cons_zero, List.set_cons_succ]
                    refine wpAnyH_take (i := 9) (oi := { dst := some 112, op := Op.move (Operand.tmp 22), type := 3, pos := "law.go:259", after := #[{ on := 7, ground := Ground.guard }], guard := some (7, true) }) (v := .int .i64 (q : Int)) rfl (by kernel_rfl) (by kernel_rfl) (by kernel_rfl) (fun _ _ _ h => h) (Or.inl ⟨by rfl, fun w' hSw => by clear hSw; go_simp⟩) (by assumption) ?_
                    simp only [Act.put, List.setIfInBounds_toArray, List.set_cons_zero, List.set_cons_succ]
                    refine wpAnyH_take (i := 12) (oi := { dst := some 115, op := Op.load 23 (Operand.tmp 5), type := 23, pos := "law.go:259", after := #[{ on := 7, ground := Ground.guard }], guard := some (7, true) }) (v := .agg #[.string x.key, .int .i64 x.page, .int .i64 x.slot]) rfl (by kernel_rfl) (by kernel_rfl) (by kernel_rfl) (fun _ _ _ h => h) (yieldsIf_load_ev (by rfl) _ rfl rfl (fun W hW => HX10.out.more hW)) (by assumption) ?_
                    simp only [Act.put, List.setIfInBounds_toArray, List.set_cons_zero, List.set_cons_succ]
                    refine wpAnyH_take (i := 10) (oi := { dst := some 113, op := Op.indexAddr 35 (Operand.tmp 111) (Operand.tmp 112), type := 0, pos := "law.go:259", after := #[{ on := 8, ground := Ground.data }, { on := 9, ground := Ground.data }, { on := 7, ground := Ground.guard }], guard := some (7, true) }) (v := .pointer (some ⟨Bf, of + q * 3, none⟩)) rfl (by kernel_rfl) (by kernel_rfl) (by kernel_rfl) (fun _ _ _ h => h) (Or.inl ⟨by rfl, fun w' hSw => by clear hSw; go_simp⟩) (by assumption) ?_
                    simp only [Act.put, List.setIfInBounds_toArray, List.set_cons_zero, List.set_cons_succ]
                    refine wpAnyH_take (i := 11) (oi := { dst := some 114, op := Op.load 23 (Operand.tmp 113), type := 23, pos := "law.go:259", after := #[{ on := 10, ground := Ground.data }, { on := 7, ground := Ground.guard }], guard := some (7, true) }) (v := .agg #[.string g.key, .int .i64 g.page, .int .i64 g.slot]) rfl (by kernel_rfl) (by kernel_rfl) (by kernel_rfl) (fun _ _ _ h => h) (yieldsIf_load_eb (by rfl) _ rfl rfl (fun W hW => HBF.out.more hW)) (by assumption) ?_
                    simp only [Act.put, List.setIfInBounds_toArray, List.set_cons_zero, List.set_cons_succ]
                    refine wpAnyH_ready (rs := [13]) (by kernel_rfl) (by simp) ?_
                    refine AllReadyH.cons (o := { dst := some 116, op := Op.call { callee := Callee.value (Operand.func 17), args := #[Operand.tmp 114, Operand.tmp 115], argTypes := #[23, 23] }, type := 3, pos := "law.go:259", after := #[{ on := 11, ground := Ground.data }, { on := 12, ground := Ground.data }, { on := 7, ground := Ground.chain }, { on := 7, ground := Ground.guard }], guard := some (7, true) }) rfl (fun K hK => ?_) (AllReadyH.nil)
                    go_simp
                    refine (HC2.out _).mono ?_
                    rintro z x2 ⟨rfl, hx2⟩
                    have HX2 := hide (o2 hHeld hx2)
                    clear hx2
                    refine hK.out _ _ (HX2.out) (fun hHeld => ?_)
                    clear hK K
                    try simp only [Act.put, List.setIfInBounds_toArray, List.set_cons_zero, List.set_cons_succ]
                    refine wpAnyH_take (i := 14) (oi := { dst := some 117, op := Op.binOp BinOp.lss 3 (Operand.tmp 116) (Operand.const (Value.int IntKind.i64 0)) 3, type := 4, pos := "law.go:259", after := #[{ on := 13, ground := Ground.data }, { on := 7, ground := Ground.guard }], guard := some (7, true) }) (v := .bool false) rfl (by kernel_rfl) (by kernel_rfl) (by kernel_rfl) (fun _ _ _ h => h) (Or.inl ⟨by rfl, fun w' hSw => by clear hSw; go_simp⟩) (by assumption) ?_
                    simp only [Act.put, List.setIfInBounds_toArray, List.set_cons_zero, List.set_cons_succ]
                    refine wpAnyH_take (i := 15) (oi := { dst := some 118, op := Op.pick (Operand.tmp 110) (Operand.tmp 117) (Operand.const (Value.bool false)), type := 4, pos := "law.go:259", after := #[{ on := 7, ground := Ground.data }, { on := 14, ground := Ground.data }], guard := none }) (v := .bool false) rfl (by kernel_rfl) (by kernel_rfl) (by kernel_rfl) (fun _ _ _ h => h) (Or.inl ⟨by rfl, fun w' hSw => by clear hSw; go_simp⟩) (by assumption) ?_
                    simp only [Act.put, List.setIfInBounds_toArray, List.set_cons_zero, List.set_cons_succ]
                    refine wpAnyH_done (by kernel_rfl) ?_ _
                    refine NoPanic.normal ?_
                    -- r24b}
                    go_wp2_with fail
                    go_roundw
                    case rel => exact ⟨q + 1, b, by omega, by go_num, rfl, HQ, hide (o2 HW.out HX2.out)⟩
                    case measure => simp [intOf]; omega
                · have HQ := hide (HNQ.out b (by simp; intro _ h; exact absurd (hn1.2 h) h1))
                  clear hn1 hn2 HNQ
                  go_upto_region 24 with fail
                  -- {r24c
                  refine wp_region_noPanic ?_
                  refine wp_region_held_drew (S := fun W => Only (fun _ => False) wr W) (by kernel_rfl) (Only.drew _ _) (fun hHeld => ?_)
                  refine wpAnyH_take (i := 0) (oi := { dst := some 103, op := Op.load 23 (Operand.tmp 4), type := 23, pos := "law.go:259", after := #[], guard := none }) (v := .agg #[.string e.key, .int .i64 e.page, .int .i64 e.slot]) rfl (by kernel_rfl) (by kernel_rfl) (by kernel_rfl) (fun _ _ _ h => h) (yieldsIf_load_ev (by rfl) _ rfl rfl (fun W hW => HE10.out.more hW)) (by assumption) ?_
                  simp only [Act.put, List.setIfInBounds_toArray, List.set_cons_zero, List.set_cons_succ]
                  refine wpAnyH_take (i := 1) (oi := { dst := some 104, op := Op.move (Operand.tmp 18), type := 35, pos := "law.go:259", after := #[], guard := none }) (v := .slice (some ⟨Bf, of, none⟩) m C) rfl (by kernel_rfl) (by kernel_rfl) (by kernel_rfl) (fun _ _ _ h => h) (Or.inl ⟨by rfl, fun w' hSw => by clear hSw; go_simp⟩) (by assumption) ?_
                  simp only [Act.put, List.setIfInBounds_toArray, List.set_cons_zero, List.set_cons_succ]
                  refine wpAnyH_take (i := 2) (oi := { dst := some 105, op := Op.move (Operand.tmp 22), type := 3, pos := "law.go:259", after := #[], guard := none }) (v := .int .i64 (q : Int)) rfl (by kernel_rfl) (by kernel_rfl) (by kernel_rfl) (fun _ _ _ h => h) (Or.inl ⟨by rfl, fun w' hSw => by clear hSw; go_simp⟩) (by assumption) ?_
                  simp only [Act.put, List.setIfInBounds_toArray, List.set_cons_zero, List.set_cons_succ]
                  refine wpAnyH_take (i := 3) (oi := { dst := some 106, op := Op.indexAddr 35 (Operand.tmp 104) (Operand.tmp 105), type := 0, pos := "law.go:259", after := #[{ on := 1, ground := Ground.data }, { on := 2, ground := Ground.data }], guard := none }) (v := .pointer (some ⟨Bf, of + q * 3, none⟩)) rfl (by kernel_rfl) (by kernel_rfl) (by kernel_rfl) (fun _ _ _ h => h) (Or.inl ⟨by rfl, fun w' hSw => by clear hSw; go_simp⟩) (by assumption) ?_
                  simp only [Act.put, List.setIfInBounds_toArray, List.set_cons_zero, List.set_cons_succ]
                  refine wpAnyH_take (i := 4) (oi := { dst := some 107, op := Op.load 23 (Operand.tmp 106), type := 23, pos := "law.go:259", after := #[{ on := 3, ground := Ground.data }], guard := none }) (v := .agg #[.string g.key, .int .i64 g.page, .int .i64 g.slot]) rfl (by kernel_rfl) (by kernel_rfl) (by kernel_rfl) (fun _ _ _ h => h) (yieldsIf_load_eb (by rfl) _ rfl rfl (fun W hW => HBF.out.more hW)) (by assumption) ?_
                  simp only [Act.put, List.setIfInBounds_toArray, List.set_cons_zero, List.set_cons_succ]
                  refine wpAnyH_ready (rs := [5]) (by kernel_rfl) (by simp) ?_
                  refine AllReadyH.cons (o := { dst := some 108, op := Op.call { callee := Callee.value (Operand.func 17), args := #[Operand.tmp 103, Operand.tmp 107], argTypes := #[23, 23] }, type := 3, pos := "law.go:259", after := #[{ on := 0, ground := Ground.data }, { on := 4, ground := Ground.data }], guard := none }) rfl (fun K hK => ?_) (AllReadyH.nil)
                  go_simp
                  refine (HC1.out _).mono ?_
                  rintro z x1 ⟨rfl, hx1⟩
                  have HX1 := hide (o2 hHeld hx1)
                  clear hx1
                  refine hK.out _ _ (HX1.out) (fun hHeld => ?_)
                  clear hK K
                  try simp only [Act.put, List.setIfInBounds_toArray, List.set_cons_zero, List.set_cons_succ]
                  refine wpAnyH_take (i := 6) (oi := { dst := some 109, op := Op.binOp BinOp.lss 3 (Operand.tmp 108) (Operand.const (Value.int IntKind.i64 0)) 3, type := 4, pos := "law.go:259", after := #[{ on := 5, ground := Ground.data }], guard := none }) (v := .bool false) rfl (by kernel_rfl) (by kernel_rfl) (by kernel_rfl) (fun _ _ _ h => h) (Or.inl ⟨by rfl, fun w' hSw => by clear hSw; go_simp⟩) (by assumption) ?_
                  simp only [Act.put, List.setIfInBounds_toArray, List.set_cons_zero, List.set_cons_succ]
                  refine wpAnyH_take (i := 7) (oi := { dst := some 110, op := Op.move (Operand.tmp 109), type := 4, pos := "law.go:259", after := #[{ on := 6, ground := Ground.data }, { on := 5, ground := Ground.chain }], guard := none }) (v := .bool false) rfl (by kernel_rfl) (by kernel_rfl) (by kernel_rfl) (fun _ _ _ h => h) (Or.inl ⟨by rfl, fun w' hSw => by clear hSw; go_simp⟩) (by assumption) ?_
                  simp only [Act.put, List.setIfInBounds_toArray, List.set_cons_zero, List.set_cons_succ]
                  refine wpAnyH_take (i := 8) (oi := { dst := some 111, op := Op.move (Operand.tmp 18), type := 35, pos := "law.go:259", after := #[{ on := 7, ground := Ground.guard }], guard := some (7, true) }) (v := undef) rfl (by kernel_rfl) (by kernel_rfl) (by kernel_rfl) (fun _ _ _ h => h) (Or.inr ⟨by rfl, rfl⟩) (by assumption) ?_
                  simp only [Act.put, List.setIfInBounds_toArray, List.set_cons_zero, List.set_cons_succ]
                  refine wpAnyH_take (i := 9) (oi := { dst := some 112, op := Op.move (Operand.tmp 22), type := 3, pos := "law.go:259", after := #[{ on := 7, ground := Ground.guard }], guard := some (7, true) }) (v := undef) rfl (by kernel_rfl) (by kernel_rfl) (by kernel_rfl) (fun _ _ _ h => h) (Or.inr ⟨by rfl, rfl⟩) (by assumption) ?_
                  simp only [Act.put, List.setIfInBounds_toArray, List.set_cons_zero, List.set_cons_succ]
                  refine wpAnyH_take (i := 12) (oi := { dst := some 115, op := Op.load 23 (Operand.tmp 5), type := 23, pos := "law.go:259", after := #[{ on := 7, ground := Ground.guard }], guard := some (7, true) }) (v := undef) rfl (by kernel_rfl) (by kernel_rfl) (by kernel_rfl) (fun _ _ _ h => h) (Or.inr ⟨by rfl, rfl⟩) (by assumption) ?_
                  simp only [Act.put, List.setIfInBounds_toArray, List.set_cons_zero, List.set_cons_succ]
                  refine wpAnyH_take (i := 10) (oi := { dst := some 113, op := Op.indexAddr 35 (Operand.tmp 111) (Operand.tmp 112), type := 0, pos := "law.go:259", after := #[{ on := 8, ground := Ground.data }, { on := 9, ground := Ground.data }, { on := 7, ground := Ground.guard }], guard := some (7, true) }) (v := undef) rfl (by kernel_rfl) (by kernel_rfl) (by kernel_rfl) (fun _ _ _ h => h) (Or.inr ⟨by rfl, rfl⟩) (by assumption) ?_
                  simp only [Act.put, List.setIfInBounds_toArray, List.set_cons_zero, List.set_cons_succ]
                  refine wpAnyH_take (i := 11) (oi := { dst := some 114, op := Op.load 23 (Operand.tmp 113), type := 23, pos := "law.go:259", after := #[{ on := 10, ground := Ground.data }, { on := 7, ground := Ground.guard }], guard := some (7, true) }) (v := undef) rfl (by kernel_rfl) (by kernel_rfl) (by kernel_rfl) (fun _ _ _ h => h) (Or.inr ⟨by rfl, rfl⟩) (by assumption) ?_
                  simp only [Act.put, List.setIfInBounds_toArray, List.set_cons_zero, List.set_cons_succ]
                  refine wpAnyH_take (i := 13) (oi := { dst := some 116, op := Op.call { callee := Callee.value (Operand.func 17), args := #[Operand.tmp 114, Operand.tmp 115], argTypes := #[23, 23] }, type := 3, pos := "law.go:259", after := #[{ on := 11, ground := Ground.data }, { on := 12, ground := Ground.data }, { on := 7, ground := Ground.chain }, { on := 7, ground := Ground.guard }], guard := some (7, true) }) (v := undef) rfl (by kernel_rfl) (by kernel_rfl) (by kernel_rfl) (fun _ _ _ h => h) (Or.inr ⟨by rfl, rfl⟩) (by assumption) ?_
                  simp only [Act.put, List.setIfInBounds_toArray, List.set_cons_zero, List.set_cons_succ]
                  refine wpAnyH_take (i := 14) (oi := { dst := some 117, op := Op.binOp BinOp.lss 3 (Operand.tmp 116) (Operand.const (Value.int IntKind.i64 0)) 3, type := 4, pos := "law.go:259", after := #[{ on := 13, ground := Ground.data }, { on := 7, ground := Ground.guard }], guard := some (7, true) }) (v := undef) rfl (by kernel_rfl) (by kernel_rfl) (by kernel_rfl) (fun _ _ _ h => h) (Or.inr ⟨by rfl, rfl⟩) (by assumption) ?_
                  simp only [Act.put, List.setIfInBounds_toArray, List.set_cons_zero, List.set_cons_succ]
                  refine wpAnyH_take (i := 15) (oi := { dst := some 118, op := Op.pick (Operand.tmp 110) (Operand.tmp 117) (Operand.const (Value.bool false)), type := 4, pos := "law.go:259", after := #[{ on := 7, ground := Ground.data }, { on := 14, ground := Ground.data }], guard := none }) (v := .bool false) rfl (by kernel_rfl) (by kernel_rfl) (by kernel_rfl) (fun _ _ _ h => h) (Or.inl ⟨by rfl, fun w' hSw => by clear hSw; go_simp⟩) (by assumption) ?_
                  simp only [Act.put, List.setIfInBounds_toArray, List.set_cons_zero, List.set_cons_succ]
                  refine wpAnyH_done (by kernel_rfl) ?_ _
                  refine NoPanic.normal ?_
                  -- r24c}
                  go_wp2_with fail
                  go_roundw
                  case rel => exact ⟨q + 1, b, by omega, by go_num, rfl, HQ, hide (o2 HW.out HX1.out)⟩
                  case measure => simp [intOf]; omega
              · have hqk : ¬ (q : Int) < (m : Int) := by omega
                have hqm : fs.take q = fs := List.take_of_length_le (by have := HM.out; omega)
                have hbq := HBQ.out
                rw [hqm, ← HPD.out.1] at hbq
                have hpd := HPD.out.2
                rw [← HPD.out.1] at hpd
                have HO10 := hide (o2 HO9.out HW.out)
                clear hqm HBQ HPD
                cases b with
                | true =>
                  obtain rfl : vb = 9999 := hbq.1 rfl
                  clear hbq hpd
                  go_wp2_with fail
                  refine (HAW.out _).mono ?_
                  rintro z w11 ⟨rfl, ho⟩
                  have HO11 := hide (o2 HO10.out ho)
                  clear ho
                  go_wp2_with fail
                  go_ret
                  exact ⟨rfl, HO11.out⟩
                | false =>
                  have hv9 : ¬ vb = 9999 := fun h => absurd (hbq.2 h) (by decide)
                  obtain rfl : va = vb := hpd hv9
                  have hv9' : (va == 9999) = false := by simpa using hv9
                  clear hbq hpd
                  go_wp2_with fail
                  refine (HAW.out _).mono ?_
                  rintro z w11 ⟨rfl, ho⟩
                  have HO11 := hide (o2 HO10.out ho)
                  clear ho
                  go_wp2_with fail
                  go_ret
                  exact ⟨rfl, HO11.out⟩
        · subst hp
          have hk' : (k == 0) = false := by simpa using hk
          clear HK
          unfold Pg.none
          simp only [List.length_nil]
          go_upto_region 13 with fail
          have HA := hide (onlyA w4 (.cells #[.int .i64 0, .int .i64 0, .int .i64 0, .int .i64 0, .string ⟨#[]⟩, .slice ao5 0 cp5] 38))
          have HQ5 := hide (Pag.new w4 (.int .i64 0) (.int .i64 0) (.int .i64 0) (.int .i64 0) (.string ⟨#[]⟩) (.slice ao5 0 cp5))
          obtain ⟨b8, hb8⟩ : ∃ b, w4.heap.size = b := ⟨_, rfl⟩
          rw [hb8] at HQ5 ⊢
          clear hb8
          obtain ⟨w5, hw5⟩ : ∃ y, w4.alloc (.cells #[.int .i64 0, .int .i64 0, .int .i64 0, .int .i64 0, .string ⟨#[]⟩, .slice ao5 0 cp5] 38) = y := ⟨_, rfl⟩
          rw [hw5] at HA HQ5 ⊢
          clear hw5
          have HV5 := hide (HV4.out.more HA.out)
          have HX5 := hide (HX4.out.more HA.out)
          have HO5 := hide (o2 HO4.out HA.out)
          clear HA HV4 HE4 HX4 HO4 HS4
          obtain ⟨p0, p1, p2, p3, p4, p5, _⟩ := HV5.out.pag
          obtain ⟨d0, d1, d2, _⟩ := HX5.out
          go_wp2_with fail
          refine (HCH.out _ _ _ _ _ _ HV5.out.ip).mono ?_
          rintro z w6 ⟨rfl, ho⟩
          have HQ6 := hide (HQ5.out.more ho)
          have HX6 := hide (HX5.out.more ho)
          have HO6 := hide (o2 HO5.out ho)
          clear ho p0 p1 p2 p3 p4 p5 d0 d1 d2 HQ5 HV5 HX5 HO5
          obtain ⟨ya, yb, hy⟩ : ∃ ya yb : Int, chV ks noE x = .tuple #[.int .i64 ya, .int .i64 yb] := by
            cases hxo : x.ok with
            | false => exact ⟨_, _, ch_no hxo⟩
            | true => exact ⟨_, _, ch_yes hxo⟩
          rw [hy]
          clear hy
          obtain ⟨p0, p1, p2, p3, p4, p5, _⟩ := HQ6.out
          obtain ⟨d0, d1, d2, _⟩ := HX6.out
          go_wp2_with fail
          refine (HCB.out _ _ _ _).mono ?_
          rintro z w7 ⟨rfl, ho⟩
          have HO7 := hide (o2 HO6.out ho)
          clear ho p0 p1 p2 p3 p4 p5 d0 d1 d2 HQ6 HX6 HO6
          go_wp2_with fail
          refine (HAW.out _).mono ?_
          rintro z w8 ⟨rfl, ho⟩
          have HO8 := hide (o2 HO7.out ho)
          clear ho
          go_wp2_with fail
          go_ret
          exact ⟨rfl, HO8.out⟩
end Go.Proofs.Ythhlmhghiknnkaa
