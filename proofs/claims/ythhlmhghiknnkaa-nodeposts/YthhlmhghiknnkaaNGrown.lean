/- The law's grown: a leaf into which entries were inserted, as far as they go in. -/
import Derived.Test.YthhlmhghiknnkaaNAwake
namespace Go.Proofs.Ythhlmhghiknnkaa
open Go.RowKit

theorem InsQ.any {w w' : World} {x : Ending} {a r : Int} {h : ByteArray} {hi e : En} {l : List ByteArray} {es : List En} (q : InsQ w w' x a r h hi e l es) : ∃ p k, Res w w' x p k ∧ ((k = 0 ∧ p = ⟨a, 3, 0, r, h, insI l es e⟩ ∧ e.ok = true ∧ byd hi e = false ∧ e ∉ es ∧ (insI l es e).length ≤ 255) ∨ (¬ k = 0 ∧ p = .none ∧ (e ∈ es → k = 140))) := by
  by_cases hb : e.ok = false ∨ byd hi e = true ∨ e ∈ es
  · exact ⟨_, _, q.bad hb, .inr ⟨by decide, rfl, fun _ => rfl⟩⟩
  · have h1 : e.ok = true := by
      cases hc : e.ok
      · exact absurd (.inl hc) hb
      · rfl
    have h2 : byd hi e = false := by
      cases hc : byd hi e
      · rfl
      · exact absurd (.inr (.inl hc)) hb
    have h3 : e ∉ es := fun hm => hb (.inr (.inr hm))
    obtain ⟨p, k, hr, hc⟩ := (q.good h1 h2 h3).any
    rcases hc with ⟨_, rfl, rfl⟩ | ⟨hc, rfl, rfl⟩
    · exact ⟨_, _, hr, .inr ⟨by decide, rfl, fun hm => absurd hm h3⟩⟩
    · exact ⟨_, _, hr, .inl ⟨rfl, rfl, h1, h2, h3, by omega⟩⟩
/-- A page of a call in a new variable c, made since wr. -/
structure Nv (wr W : World) (c : Nat) (p : Pg) (B : Nat) (ao : Option Addr) (cp : Nat) : Prop where
  pag : Pag W c (.int .i64 p.lsn) (.int .i64 p.kind) (.int .i64 p.level) (.int .i64 p.right) (.string p.high) (.slice ao p.items.length cp)
  strs : Strs W B ao p.items
  fit : Fit ao p.items.length cp
  new : wr.heap.size ≤ c
  ne : 0 < p.items.length → wr.heap.size ≤ B ∧ B ≠ c
  only : Only (fun _ => False) wr W
theorem nv_after {wr x1 : World} {p : Pg} {B : Nat} {ao : Option Addr} {cp : Nat} (hS : Strs x1 B ao p.items) (hF : Fit ao p.items.length cp) (ho : Only (fun _ => False) wr x1) (hB : 0 < p.items.length → wr.heap.size ≤ B) :
    Nv wr (x1.alloc (.cells #[.int .i64 p.lsn, .int .i64 p.kind, .int .i64 p.level, .int .i64 p.right, .string p.high, .slice ao p.items.length cp] 38)) x1.heap.size p B ao cp :=
  ⟨Pag.new x1 _ _ _ _ _ _, hS.more (onlyA _ _), hF, ho.size, fun h => ⟨hB h, by have := hS.lt h; omega⟩, o2 ho (onlyA _ _)⟩
theorem nv_before {wr W1 x1 : World} {b : Nat} {p : Pg} {B : Nat} {ao : Option Addr} {cp : Nat} {v0 v1 v2 v3 v4 v5 : Value} (hP : Pag x1 b v0 v1 v2 v3 v4 v5) (hS : Strs x1 B ao p.items) (hF : Fit ao p.items.length cp) (hb : wr.heap.size ≤ b) (ho : Only (fun _ => False) wr W1) (ho1 : Only (fun _ => False) W1 x1) (hlt : b < W1.heap.size) (hB : 0 < p.items.length → W1.heap.size ≤ B) :
    Nv wr ((((((x1.setCell ⟨b, 0, none⟩ (.int .i64 p.lsn)).setCell ⟨b, 1, none⟩ (.int .i64 p.kind)).setCell ⟨b, 2, none⟩ (.int .i64 p.level)).setCell ⟨b, 3, none⟩ (.int .i64 p.right)).setCell ⟨b, 4, none⟩ (.string p.high)).setCell ⟨b, 5, none⟩ (.slice ao p.items.length cp)) b p B ao cp := by
  have h6 := Only.six x1 b (.int .i64 p.lsn) (.int .i64 p.kind) (.int .i64 p.level) (.int .i64 p.right) (.string p.high) (.slice ao p.items.length cp)
  exact ⟨hP.six _ _ _ _ _ _, hS.kept h6 (fun h => by have := hB h; omega), hF, hb, fun h => ⟨by have := hB h; omega, by have := hB h; omega⟩, (o2 ho ho1).trans h6 (fun i hi e => by omega)⟩
/-- A leaf without a High that a variable holds. -/
structure Gv (w W : World) (b : Nat) (B : Nat) (ao : Option Addr) (cp : Nat) (l : List ByteArray) (es : List En) : Prop where
  pag : Pag W b (.int .i64 0) (.int .i64 3) (.int .i64 0) (.int .i64 0) (.string ⟨#[]⟩) (.slice ao l.length cp)
  lp : Lp W 0 ⟨#[]⟩ noE B ao l es
  fit : Fit ao l.length cp
  few : l.length ≤ 255
  ne : 0 < l.length → b < B
theorem Gv.more {w W W' : World} {b : Nat} {B : Nat} {ao : Option Addr} {cp : Nat} {l : List ByteArray} {es : List En} (x : Gv w W b B ao cp l es) (ho : Only (fun _ => False) W W') : Gv w W' b B ao cp l es := ⟨x.pag.more ho, x.lp.more ho, x.fit, x.few, x.ne⟩
/-- What grown answers. -/
def GrR (w w' : World) (x : Ending) : Prop := ∃ l es B ao cp, x = .returned (.agg #[.int .i64 0, .int .i64 3, .int .i64 0, .int .i64 0, .string ⟨#[]⟩, .slice ao l.length cp]) ∧ Lp w' 0 ⟨#[]⟩ noE B ao l es ∧ Fit ao l.length cp ∧ l.length ≤ 255 ∧ Only (fun _ => False) w w' ∧ (0 < l.length → w.heap.size ≤ B)
set_option maxRecDepth 100000 in
set_option maxHeartbeats 6400000 in
theorem grown_any (w : World) (BL : Nat) (aL : Option Addr) (cL : Nat) (L : List En) (hL : Els w BL aL L) (hn : L.length ≤ maxLen) : Calls Try.prog 20 #[.slice aL L.length cL] w fun x w' => GrR w w' x := by
  have HE := hide hL
  have HI : Hid (∀ (W : World) (B : Nat) (ao : Option Addr) (cp : Nat) (l : List ByteArray) (es : List En) (e : En), Lp W 0 ⟨#[]⟩ noE B ao l es → Fit ao l.length cp → Calls Try.prog 22 #[.agg #[.int .i64 0, .int .i64 3, .int .i64 0, .int .i64 0, .string ⟨#[]⟩, .slice ao l.length cp], .agg #[.string e.key, .int .i64 e.page, .int .i64 e.slot]] W fun x w' => ∃ p k, Res W w' x p k ∧ ((k = 0 ∧ p = ⟨0, 3, 0, 0, ⟨#[]⟩, insI l es e⟩ ∧ e.ok = true ∧ byd noE e = false ∧ e ∉ es ∧ (insI l es e).length ≤ 255) ∨ (¬ k = 0 ∧ p = .none ∧ (e ∈ es → k = 140)))) := fun W B ao cp l es e hP hF => (insert_ok W 0 0 ⟨#[]⟩ noE e B cp ao l es hP hF).mono (fun x w' q => q.any)
  have hnn : L.length ≤ 9223372036854775807 := by unfold maxLen at hn; omega
  clear hL hn
  have HR0 := hide (Pag.new w (.int .i64 0) (.int .i64 0) (.int .i64 0) (.int .i64 0) (.string ⟨#[]⟩) (.slice none 0 0))
  have HO0 := hide (onlyA w (.cells #[.int .i64 0, .int .i64 0, .int .i64 0, .int .i64 0, .string ⟨#[]⟩, .slice none 0 0] 38))
  go_enter Try.func20, Try.ntmps20
  go_upto_region 1 with fail
  obtain ⟨W0, hW0⟩ : ∃ x, w.alloc (.cells #[.int .i64 0, .int .i64 0, .int .i64 0, .int .i64 0, .string ⟨#[]⟩, .slice none 0 0] 38) = x := ⟨_, rfl⟩
  rw [hW0] at HR0 HO0 ⊢
  clear hW0
  go_wp2_with fail
  refine (leaf_any W0).mono ?_
  rintro x w1 ⟨rfl, ho⟩
  have HR1 := hide (HR0.out.more ho)
  have HO1 := hide (o2 HO0.out ho)
  clear ho HR0 HO0
  go_upto_region 2 with fail
  have HG := hide (Pag.new w1 (.int .i64 0) (.int .i64 3) (.int .i64 0) (.int .i64 0) (.string ⟨#[]⟩) (.slice none 0 0))
  have HA := hide (onlyA w1 (.cells #[.int .i64 0, .int .i64 3, .int .i64 0, .int .i64 0, .string ⟨#[]⟩, .slice none 0 0] 38))
  have HZ : Hid (w.heap.size < w1.heap.size) := HR1.out.lt
  obtain ⟨b3, hb3⟩ : ∃ b, w1.heap.size = b := ⟨_, rfl⟩
  rw [hb3] at HG HZ ⊢
  clear hb3
  obtain ⟨w2, hw2⟩ : ∃ x, w1.alloc (.cells #[.int .i64 0, .int .i64 3, .int .i64 0, .int .i64 0, .string ⟨#[]⟩, .slice none 0 0] 38) = x := ⟨_, rfl⟩
  rw [hw2] at HG HA ⊢
  clear hw2
  have HR2 := hide (HR1.out.more HA.out)
  have HO2 := hide (o2 HO1.out HA.out)
  clear HR1 HO1 HA
  go_wp2_with fail
  go_loopw [4] (fun i wr => ∃ (j : Nat) (B : Nat) (ao : Option Addr) (cp : Nat) (l : List ByteArray) (es : List En), j ≤ L.length ∧ i = .int .i64 (j : Int) ∧ Hid (Gv w wr b3 B ao cp l es) ∧ Hid (Pag wr w.heap.size (.int .i64 0) (.int .i64 0) (.int .i64 0) (.int .i64 0) (.string ⟨#[]⟩) (.slice none 0 0)) ∧ Hid (Only (fun _ => False) w wr)) (fun i _ => L.length - (intOf i).toNat)
  case atStart => exact ⟨0, 0, none, 0, [], [], Nat.zero_le _, rfl, hide ⟨HG.out, lp_none _, ⟨fun _ => rfl, by simp, by simp⟩, by simp, by simp⟩, HR2, HO2⟩
  case round =>
    clear HG HR2 HO2
    obtain ⟨j, B, ao, cp, l, es, hj, rfl, HV, HRj, HOj⟩ := hrel
    by_cases hlt : j < L.length
    · have hlk : (j : Int) < (L.length : Int) := by omega
      have hlk2 : ¬ (L.length : Int) ≤ (j : Int) := by omega
      obtain ⟨o, rfl, hb⟩ := (HE.out.more HOj.out).of j hlt
      obtain ⟨e, he⟩ : ∃ e, L[j] = e := ⟨_, rfl⟩
      rw [he] at hb
      have HB := hide hb
      clear hb he
      go_upto_region 5 with fail
      go_cut [5, 6] (fun y z wx => ∃ c p k B5 ao5 cp5, y = .pointer (some ⟨c, 0, none⟩) ∧ z = .int .i64 k ∧ Hid (Nv wr wx c p B5 ao5 cp5) ∧ Hid ((k = 0 ∧ p = ⟨0, 3, 0, 0, ⟨#[]⟩, insI l es e⟩ ∧ e.ok = true ∧ byd noE e = false ∧ e ∉ es ∧ (insI l es e).length ≤ 255) ∨ (¬ k = 0 ∧ p = .none ∧ (e ∈ es → k = 140))))
      case first =>
        -- {r5
        refine wp_region_noPanic ?_
        refine wp_region_held_drew (S := fun W => Only (fun _ => False) wr W) (by kernel_rfl) (Only.drew _ _) (fun hHeld => ?_)
        refine wpAnyH_take (i := 0) (oi := { dst := some 15, op := Op.load 38 (Operand.tmp 3), type := 38, pos := "law.go:104", after := #[], guard := none }) (v := .agg #[.int .i64 0, .int .i64 3, .int .i64 0, .int .i64 0, .string ⟨#[]⟩, .slice ao l.length cp]) rfl (by kernel_rfl) (by kernel_rfl) (by kernel_rfl) (fun _ _ _ h => h) (yieldsIf_load_page (by rfl) _ rfl _ rfl (fun W hW => HV.out.pag.more hW)) (by assumption) ?_
        simp only [Act.put, List.setIfInBounds_toArray, List.set_cons_zero, List.set_cons_succ]
        refine wpAnyH_take (i := 1) (oi := { dst := some 16, op := Op.move (Operand.tmp 0), type := 35, pos := "law.go:104", after := #[], guard := none }) (v := .slice (some ⟨BL, o, none⟩) L.length cL) rfl (by kernel_rfl) (by kernel_rfl) (by kernel_rfl) (fun _ _ _ h => h) (Or.inl ⟨by rfl, fun w' hSw => by clear hSw; go_simp⟩) (by assumption) ?_
        simp only [Act.put, List.setIfInBounds_toArray, List.set_cons_zero, List.set_cons_succ]
        refine wpAnyH_take (i := 2) (oi := { dst := some 17, op := Op.move (Operand.tmp 4), type := 3, pos := "law.go:104", after := #[], guard := none }) (v := .int .i64 (j : Int)) rfl (by kernel_rfl) (by kernel_rfl) (by kernel_rfl) (fun _ _ _ h => h) (Or.inl ⟨by rfl, fun w' hSw => by clear hSw; go_simp⟩) (by assumption) ?_
        simp only [Act.put, List.setIfInBounds_toArray, List.set_cons_zero, List.set_cons_succ]
        refine wpAnyH_take (i := 3) (oi := { dst := some 18, op := Op.indexAddr 35 (Operand.tmp 16) (Operand.tmp 17), type := 0, pos := "law.go:104", after := #[{ on := 1, ground := Ground.data }, { on := 2, ground := Ground.data }], guard := none }) (v := .pointer (some ⟨BL, o + j * 3, none⟩)) rfl (by kernel_rfl) (by kernel_rfl) (by kernel_rfl) (fun _ _ _ h => h) (Or.inl ⟨by rfl, fun w' hSw => by clear hSw; go_simp⟩) (by assumption) ?_
        simp only [Act.put, List.setIfInBounds_toArray, List.set_cons_zero, List.set_cons_succ]
        refine wpAnyH_take (i := 4) (oi := { dst := some 19, op := Op.load 23 (Operand.tmp 18), type := 23, pos := "law.go:104", after := #[{ on := 3, ground := Ground.data }], guard := none }) (v := .agg #[.string e.key, .int .i64 e.page, .int .i64 e.slot]) rfl (by kernel_rfl) (by kernel_rfl) (by kernel_rfl) (fun _ _ _ h => h) (yieldsIf_load_eb (by rfl) _ rfl rfl (fun W hW => HB.out.more hW)) (by assumption) ?_
        simp only [Act.put, List.setIfInBounds_toArray, List.set_cons_zero, List.set_cons_succ]
        refine wpAnyH_ready (rs := [5, 9]) (by kernel_rfl) (by simp) ?_
        refine AllReadyH.cons (o := { dst := some 20, op := Op.call { callee := Callee.value (Operand.func 22), args := #[Operand.tmp 15, Operand.tmp 19], argTypes := #[38, 23] }, type := 42, pos := "law.go:104", after := #[{ on := 0, ground := Ground.data }, { on := 4, ground := Ground.data }], guard := none }) rfl (fun K hK => ?_) (AllReadyH.cons (o := { dst := some 5, op := Op.alloc 38, type := 0, pos := "law.go:104", after := #[], guard := none }) rfl (fun K hK => ?_) (AllReadyH.nil))
        · go_simp
          refine (HI.out _ _ _ _ _ _ _ (HV.out.lp.more hHeld) HV.out.fit).mono ?_
          rintro x x1 ⟨p, k, ⟨B5, ao5, cp5, rfl, hS5, hF5, ho5, hB5⟩, hpk⟩
          have HX1 := hide (o2 hHeld ho5)
          have HK := hide hpk
          have HS7 := hide (And.intro hS5 (And.intro hF5 hB5))
          clear hS5 hF5 ho5 hB5 hpk
          refine hK.out _ _ (HX1.out) (fun hHeld => ?_)
          clear hK K
          try simp only [Act.put, List.setIfInBounds_toArray, List.set_cons_zero, List.set_cons_succ]
          refine wpAnyH_take (i := 6) (oi := { dst := some 14, op := Op.move (Operand.tmp 20), type := 42, pos := "law.go:104", after := #[{ on := 5, ground := Ground.data }], guard := none }) (v := .tuple #[.agg #[.int .i64 p.lsn, .int .i64 p.kind, .int .i64 p.level, .int .i64 p.right, .string p.high, .slice ao5 p.items.length cp5], .int .i64 k]) rfl (by kernel_rfl) (by kernel_rfl) (by kernel_rfl) (fun _ _ _ h => h) (Or.inl ⟨by rfl, fun w' hSw => by clear hSw; go_simp⟩) (by assumption) ?_
          simp only [Act.put, List.setIfInBounds_toArray, List.set_cons_zero, List.set_cons_succ]
          refine wpAnyH_take (i := 7) (oi := { dst := some 21, op := Op.extract (Operand.tmp 14) 0, type := 38, pos := "law.go:104", after := #[{ on := 6, ground := Ground.data }], guard := none }) (v := .agg #[.int .i64 p.lsn, .int .i64 p.kind, .int .i64 p.level, .int .i64 p.right, .string p.high, .slice ao5 p.items.length cp5]) rfl (by kernel_rfl) (by kernel_rfl) (by kernel_rfl) (fun _ _ _ h => h) (Or.inl ⟨by rfl, fun w' hSw => by clear hSw; go_simp⟩) (by assumption) ?_
          simp only [Act.put, List.setIfInBounds_toArray, List.set_cons_zero, List.set_cons_succ]
          refine wpAnyH_take (i := 8) (oi := { dst := some 22, op := Op.extract (Operand.tmp 14) 1, type := 24, pos := "law.go:104", after := #[{ on := 6, ground := Ground.data }, { on := 10, ground := Ground.gcOnly Departure.lateStores }], guard := none }) (v := .int .i64 k) rfl (by kernel_rfl) (by kernel_rfl) (by kernel_rfl) (fun _ _ _ h => h) (Or.inl ⟨by rfl, fun w' hSw => by clear hSw; go_simp⟩) (by assumption) ?_
          simp only [Act.put, List.setIfInBounds_toArray, List.set_cons_zero, List.set_cons_succ]
          refine wpAnyH_ready (rs := [9]) (by kernel_rfl) (by simp) ?_
          refine AllReadyH.cons (o := { dst := some 5, op := Op.alloc 38, type := 0, pos := "law.go:104", after := #[], guard := none }) rfl (fun K hK => ?_) (AllReadyH.nil)
          go_simp
          refine hK.out _ _ (o2 HX1.out (onlyA _ _)) (fun hHeld => ?_)
          clear hK K
          try simp only [Act.put, List.setIfInBounds_toArray, List.set_cons_zero, List.set_cons_succ]
          refine wpAnyH_ready (rs := [10]) (by kernel_rfl) (by simp) ?_
          refine AllReadyH.cons (o := { dst := none, op := Op.store 38 (Operand.tmp 5) (Operand.tmp 21), type := 0, pos := "law.go:104", after := #[{ on := 9, ground := Ground.data }, { on := 7, ground := Ground.data }, { on := 5, ground := Ground.chain }, { on := 0, ground := Ground.phase }, { on := 1, ground := Ground.phase }, { on := 2, ground := Ground.phase }, { on := 3, ground := Ground.phase }, { on := 4, ground := Ground.phase }, { on := 5, ground := Ground.phase }, { on := 6, ground := Ground.phase }, { on := 7, ground := Ground.phase }, { on := 8, ground := Ground.textOnly Departure.lateStores }, { on := 9, ground := Ground.phase }], guard := none }) rfl (fun K hK => ?_) (AllReadyH.nil)
          go_simp
          have HNV := hide (nv_after HS7.out.1 HS7.out.2.1 HX1.out HS7.out.2.2)
          refine hK.out _ _ (HNV.out.only) (fun hHeld => ?_)
          clear hK K
          try simp only [Act.put, List.setIfInBounds_toArray, List.set_cons_zero, List.set_cons_succ]
          refine wpAnyH_take (i := 11) (oi := { dst := some 6, op := Op.assign (Operand.tmp 22), type := 24, pos := "law.go:104", after := #[{ on := 8, ground := Ground.data }, { on := 10, ground := Ground.chain }, { on := 0, ground := Ground.phase }, { on := 1, ground := Ground.phase }, { on := 2, ground := Ground.phase }, { on := 3, ground := Ground.phase }, { on := 4, ground := Ground.phase }, { on := 5, ground := Ground.phase }, { on := 6, ground := Ground.phase }, { on := 7, ground := Ground.phase }, { on := 8, ground := Ground.phase }, { on := 9, ground := Ground.phase }, { on := 10, ground := Ground.phase }], guard := none }) (v := .int .i64 k) rfl (by kernel_rfl) (by kernel_rfl) (by kernel_rfl) (fun _ _ _ h => h) (Or.inl ⟨by rfl, fun w' hSw => by clear hSw; go_simp⟩) (by assumption) ?_
          simp only [Act.put, List.setIfInBounds_toArray, List.set_cons_zero, List.set_cons_succ]
          refine wpAnyH_done (by kernel_rfl) ?_ _
          refine NoPanic.normal ?_
          go_wp2_with fail
          go_meet
          exact ⟨_, p, k, B5, ao5, cp5, rfl, rfl, HNV, HK⟩
        · go_simp
          have HZA : Hid (Pag ((wr.alloc (.cells #[.int .i64 0, .int .i64 0, .int .i64 0, .int .i64 0, .string ⟨#[]⟩, .slice none 0 0] 38)).drew) wr.heap.size (.int .i64 0) (.int .i64 0) (.int .i64 0) (.int .i64 0) (.string ⟨#[]⟩) (.slice none 0 0)) := (Pag.new wr _ _ _ _ _ _).more (Only.drew _ _)
          have HOA : Hid (Only (fun _ => False) wr ((wr.alloc (.cells #[.int .i64 0, .int .i64 0, .int .i64 0, .int .i64 0, .string ⟨#[]⟩, .slice none 0 0] 38)).drew)) := o2 (onlyA _ _) (Only.drew _ _)
          refine hK.out _ _ (HOA.out) (fun hHeld => ?_)
          clear hK K
          try simp only [Act.put, List.setIfInBounds_toArray, List.set_cons_zero, List.set_cons_succ]
          refine wpAnyH_ready (rs := [5]) (by kernel_rfl) (by simp) ?_
          refine AllReadyH.cons (o := { dst := some 20, op := Op.call { callee := Callee.value (Operand.func 22), args := #[Operand.tmp 15, Operand.tmp 19], argTypes := #[38, 23] }, type := 42, pos := "law.go:104", after := #[{ on := 0, ground := Ground.data }, { on := 4, ground := Ground.data }], guard := none }) rfl (fun K hK => ?_) (AllReadyH.nil)
          go_simp
          refine (HI.out _ _ _ _ _ _ _ (HV.out.lp.more hHeld) HV.out.fit).mono ?_
          rintro x x1 ⟨p, k, ⟨B5, ao5, cp5, rfl, hS5, hF5, ho5, hB5⟩, hpk⟩
          have HX1 := hide (o2 hHeld ho5)
          have HK := hide hpk
          have HS7 := hide (And.intro hS5 (And.intro hF5 (And.intro ho5 hB5)))
          have HZ7 := hide (HZA.out.more ho5)
          obtain ⟨q0, q1, q2, q3, q4, q5, g0, g1, g2, g3, g4, g5, ql⟩ := HZ7.out
          clear hS5 hF5 ho5 hB5 hpk
          refine hK.out _ _ (HX1.out) (fun hHeld => ?_)
          clear hK K
          try simp only [Act.put, List.setIfInBounds_toArray, List.set_cons_zero, List.set_cons_succ]
          refine wpAnyH_take (i := 6) (oi := { dst := some 14, op := Op.move (Operand.tmp 20), type := 42, pos := "law.go:104", after := #[{ on := 5, ground := Ground.data }], guard := none }) (v := .tuple #[.agg #[.int .i64 p.lsn, .int .i64 p.kind, .int .i64 p.level, .int .i64 p.right, .string p.high, .slice ao5 p.items.length cp5], .int .i64 k]) rfl (by kernel_rfl) (by kernel_rfl) (by kernel_rfl) (fun _ _ _ h => h) (Or.inl ⟨by rfl, fun w' hSw => by clear hSw; go_simp⟩) (by assumption) ?_
          simp only [Act.put, List.setIfInBounds_toArray, List.set_cons_zero, List.set_cons_succ]
          refine wpAnyH_take (i := 7) (oi := { dst := some 21, op := Op.extract (Operand.tmp 14) 0, type := 38, pos := "law.go:104", after := #[{ on := 6, ground := Ground.data }], guard := none }) (v := .agg #[.int .i64 p.lsn, .int .i64 p.kind, .int .i64 p.level, .int .i64 p.right, .string p.high, .slice ao5 p.items.length cp5]) rfl (by kernel_rfl) (by kernel_rfl) (by kernel_rfl) (fun _ _ _ h => h) (Or.inl ⟨by rfl, fun w' hSw => by clear hSw; go_simp⟩) (by assumption) ?_
          simp only [Act.put, List.setIfInBounds_toArray, List.set_cons_zero, List.set_cons_succ]
          refine wpAnyH_take (i := 8) (oi := { dst := some 22, op := Op.extract (Operand.tmp 14) 1, type := 24, pos := "law.go:104", after := #[{ on := 6, ground := Ground.data }, { on := 10, ground := Ground.gcOnly Departure.lateStores }], guard := none }) (v := .int .i64 k) rfl (by kernel_rfl) (by kernel_rfl) (by kernel_rfl) (fun _ _ _ h => h) (Or.inl ⟨by rfl, fun w' hSw => by clear hSw; go_simp⟩) (by assumption) ?_
          simp only [Act.put, List.setIfInBounds_toArray, List.set_cons_zero, List.set_cons_succ]
          refine wpAnyH_ready (rs := [10]) (by kernel_rfl) (by simp) ?_
          refine AllReadyH.cons (o := { dst := none, op := Op.store 38 (Operand.tmp 5) (Operand.tmp 21), type := 0, pos := "law.go:104", after := #[{ on := 9, ground := Ground.data }, { on := 7, ground := Ground.data }, { on := 5, ground := Ground.chain }, { on := 0, ground := Ground.phase }, { on := 1, ground := Ground.phase }, { on := 2, ground := Ground.phase }, { on := 3, ground := Ground.phase }, { on := 4, ground := Ground.phase }, { on := 5, ground := Ground.phase }, { on := 6, ground := Ground.phase }, { on := 7, ground := Ground.phase }, { on := 8, ground := Ground.textOnly Departure.lateStores }, { on := 9, ground := Ground.phase }], guard := none }) rfl (fun K hK => ?_) (AllReadyH.nil)
          go_simp
          have HNV := hide (nv_before HZ7.out HS7.out.1 HS7.out.2.1 (Nat.le_refl _) HOA.out HS7.out.2.2.1 HZA.out.lt HS7.out.2.2.2)
          refine hK.out _ _ (HNV.out.only) (fun hHeld => ?_)
          clear hK K
          try simp only [Act.put, List.setIfInBounds_toArray, List.set_cons_zero, List.set_cons_succ]
          refine wpAnyH_take (i := 11) (oi := { dst := some 6, op := Op.assign (Operand.tmp 22), type := 24, pos := "law.go:104", after := #[{ on := 8, ground := Ground.data }, { on := 10, ground := Ground.chain }, { on := 0, ground := Ground.phase }, { on := 1, ground := Ground.phase }, { on := 2, ground := Ground.phase }, { on := 3, ground := Ground.phase }, { on := 4, ground := Ground.phase }, { on := 5, ground := Ground.phase }, { on := 6, ground := Ground.phase }, { on := 7, ground := Ground.phase }, { on := 8, ground := Ground.phase }, { on := 9, ground := Ground.phase }, { on := 10, ground := Ground.phase }], guard := none }) (v := .int .i64 k) rfl (by kernel_rfl) (by kernel_rfl) (by kernel_rfl) (fun _ _ _ h => h) (Or.inl ⟨by rfl, fun w' hSw => by clear hSw; go_simp⟩) (by assumption) ?_
          simp only [Act.put, List.setIfInBounds_toArray, List.set_cons_zero, List.set_cons_succ]
          refine wpAnyH_done (by kernel_rfl) ?_ _
          refine NoPanic.normal ?_
          go_wp2_with fail
          go_meet
          exact ⟨_, p, k, B5, ao5, cp5, rfl, rfl, HNV, HK⟩
        -- r5}
      case rest =>
        obtain ⟨c, p, k, B5, ao5, cp5, rfl, rfl, HN, HK⟩ := hcut
        have HRk := hide (HRj.out.more HN.out.only)
        have HOk := hide (o2 HOj.out HN.out.only)
        rcases HK.out with ⟨rfl, rfl, h1, h2, h3, h4⟩ | ⟨hk, _, _⟩
        · have HLI := hide (HV.out.lp.lf.ins h1 h2 h3)
          have HLN := hide h4
          have HPV := hide (HV.out.pag.more HN.out.only)
          have HZ5 : Hid (b3 < wr.heap.size) := HV.out.pag.lt
          clear h1 h2 h3 h4 HK HRj HOj HV
          obtain ⟨nl, hnl⟩ : ∃ nl, insI l es e = nl := ⟨_, rfl⟩
          unfold insI at hnl
          rw [hnl] at HLI
          have hnl2 : insI l es e = nl := by unfold insI; exact hnl
          rw [hnl2] at HN HLN
          clear hnl hnl2
          obtain ⟨q0, q1, q2, q3, q4, q5, _⟩ := HN.out.pag
          obtain ⟨p0, p1, p2, p3, p4, p5, f0, f1, f2, f3, f4, f5, _⟩ := HPV.out
          simp only [] at q0 q1 q2 q3 q4 q5
          go_wp2_with fail
          have h6 := Only.six wc b3 (.int .i64 0) (.int .i64 3) (.int .i64 0) (.int .i64 0) (.string ⟨#[]⟩) (.slice ao5 nl.length cp5)
          have HG6 : Hid (Gv w ((((((wc.setCell ⟨b3, 0, none⟩ (.int .i64 0)).setCell ⟨b3, 1, none⟩ (.int .i64 3)).setCell ⟨b3, 2, none⟩ (.int .i64 0)).setCell ⟨b3, 3, none⟩ (.int .i64 0)).setCell ⟨b3, 4, none⟩ (.string ⟨#[]⟩)).setCell ⟨b3, 5, none⟩ (.slice ao5 nl.length cp5)) b3 B5 ao5 cp5 nl (insE es e)) :=
            ⟨HPV.out.six _ _ _ _ _ _, ⟨HN.out.strs.kept h6 (fun h => by have := HN.out.ne h; have := HZ5.out; omega), by decide, .inl ⟨rfl, rfl⟩, HLI.out, by have := HLN.out; omega⟩, HN.out.fit, HLN.out, fun h => by have := HN.out.ne h; have := HZ5.out; omega⟩
          have HR6 := hide (HRk.out.kept h6 (by have := HZ.out; omega))
          have HO6 : Hid (Only (fun _ => False) w _) := HOk.out.trans h6 (fun i hi e => by have := HZ.out; omega)
          clear h6 q0 q1 q2 q3 q4 q5 p0 p1 p2 p3 p4 p5 f0 f1 f2 f3 f4 f5 HPV HN HLI HLN HRk HOk HZ5
          go_roundw
          case rel => exact ⟨j + 1, B5, ao5, cp5, nl, insE es e, by omega, by go_num, HG6, HR6, HO6⟩
          case measure => simp [intOf]; omega
        · have hk' : (k == 0) = false := by simpa using hk
          have HV6 := hide (HV.out.more HN.out.only)
          clear hk HK HRj HOj HV HN
          go_wp2_with fail
          go_roundw
          case rel => exact ⟨j + 1, B, ao, cp, l, es, by omega, by go_num, HV6, HRk, HOk⟩
          case measure => simp [intOf]; omega
    · have hlk : ¬ (j : Int) < (L.length : Int) := by omega
      obtain ⟨q0, q1, q2, q3, q4, q5, _⟩ := HV.out.pag
      obtain ⟨p0, p1, p2, p3, p4, p5, f0, f1, f2, f3, f4, f5, _⟩ := HRj.out
      go_wp2_with fail
      refine bodyPost_ret (results_page1 rfl rfl (HRj.out.six _ _ _ _ _ _)) rfl ?_
      have h6 := Only.six wr w.heap.size (.int .i64 0) (.int .i64 3) (.int .i64 0) (.int .i64 0) (.string ⟨#[]⟩) (.slice ao l.length cp)
      have hne := HV.out.ne
      have hz := HZ.out
      exact ⟨l, es, B, ao, cp, rfl, ⟨HV.out.lp.strs.kept h6 (fun h => by have := hne h; omega), HV.out.lp.right, HV.out.lp.high, HV.out.lp.lf, HV.out.lp.few⟩, HV.out.fit, HV.out.few, HOj.out.trans h6 (fun i hi e => by omega), fun h => by have := hne h; omega⟩
end Go.Proofs.Ythhlmhghiknnkaa
