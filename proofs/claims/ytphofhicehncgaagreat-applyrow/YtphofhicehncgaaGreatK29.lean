/- What Out does. -/
import Derived.Test.YtphofhicehncgaaGreatK28
import Derived.Test.YtphofhicehncgaaGreatK24
import Derived.Test.YtphofhicehncgaaGreatK09
namespace Go.Proofs.YtphofhicehncgaaGreat
open Go.RowKit

/-- Where an entry stands, or -1. -/
def idxE (es : List En) (e : En) : Int := if e ∈ es then (plE es e : Int) else -1
theorem plE_at {es : List En} (hr : Rise es) (i : Nat) (h : i < es.length) : plE es es[i] = i := by
  refine plE_of (Nat.le_of_lt h) ?_ (drop_nlt hr i h (En.lt_irrefl _))
  intro z hz
  obtain ⟨k, hk, rfl⟩ := List.mem_iff_getElem.1 hz
  rw [List.length_take] at hk
  rw [List.getElem_take]
  exact List.pairwise_iff_getElem.1 hr k i (by omega) h (by omega)
set_option maxHeartbeats 1600000 in
theorem indexE_any (w : World) (B n C : Nat) (A : Option Addr) (es : List En) (e : En) (hE : Els w B A es) (hn : es.length = n) (hl : n ≤ 8796093021952) (hr : Rise es) :
    Calls Tryz.prog 85 #[.slice A n C, e.agg] w fun x w' => x = .returned (.int .i64 (idxE es e)) ∧ Only (fun _ => False) w w' := by
  have HE := hide hE
  have HN := hide hn
  have HR := hide hr
  have HV := hide (Ev.new w e)
  have HO := hide (onlyA w (.cells #[.string e.key, .int .i64 e.page, .int .i64 e.slot] 83))
  clear hE hn hr
  unfold En.agg
  go_enter Tryz.func85, Tryz.ntmps85
  go_upto_region 2 with fail
  obtain ⟨W0, hW0⟩ : ∃ x, w.alloc (.cells #[.string e.key, .int .i64 e.page, .int .i64 e.slot] 83) = x := ⟨_, rfl⟩
  rw [hW0] at HV HO ⊢
  clear hW0
  go_loopw [8] (fun x wr => ∃ (j : Nat), x = .int .i64 (j : Int) ∧ j ≤ n ∧ Hid (∀ z ∈ es.take j, z ≠ e) ∧ Hid (Only (fun _ => False) W0 wr)) (fun x _ => n - (intOf x).toNat)
  case atStart => exact ⟨0, rfl, Nat.zero_le _, hide (fun z hz => by simp at hz), hide (Only.refl _ _)⟩
  case round =>
    obtain ⟨j, rfl, hjn, HI, HW⟩ := hrel
    by_cases hlt : j < n
    · have hk : (j : Int) < (n : Int) := by omega
      have hk2 : ¬ (n : Int) ≤ (j : Int) := by omega
      have hje : j < es.length := by have := HN.out; omega
      obtain ⟨o, rfl, hb⟩ := (HE.out.more (o2 HO.out HW.out)).of j hje
      have HB := hide hb
      have HV1 := hide (HV.out.more HW.out)
      have hq := eqE_run e es[j]
      by_cases hc : e = es[j]
      · have HX : Hid (idxE es e = (j : Int)) := by
          unfold Hid idxE
          rw [hc, if_pos (List.getElem_mem _), plE_at HR.out j hje]
        have hd : decide (e = es[j]) = true := decide_eq_true hc
        rw [hd] at hq
        obtain ⟨f, hf⟩ : ∃ f, es[j] = f := ⟨_, rfl⟩
        rw [hf] at HB hq
        clear hf hb hc hd
        go_upto_region 4 with fail
        -- {r4a
        refine wp_region_noPanic ?_
        refine wp_region_held_drew (S := fun W => Only (fun _ => False) wr W) (by kernel_rfl) (Only.drew _ _) (fun hHeld => ?_)
        refine wpAnyH_take (i := 0) (oi := { dst := some 11, op := Op.load 83 (Operand.tmp 3), type := 83, pos := "slices.go:98", after := #[], guard := none }) (v := .agg #[.string e.key, .int .i64 e.page, .int .i64 e.slot]) rfl (by kernel_rfl) (by kernel_rfl) (by kernel_rfl) (fun _ _ _ h => h) (yieldsIf_load_ev (by rfl) _ rfl rfl (fun W hW => HV1.out.more hW)) (by assumption) ?_
        simp only [Act.put, List.setIfInBounds_toArray, List.set_cons_zero, List.set_cons_succ]
        refine wpAnyH_take (i := 1) (oi := { dst := some 12, op := Op.move (Operand.tmp 0), type := 116, pos := "slices.go:98", after := #[], guard := none }) (v := .slice (some ⟨B, o, none⟩) n C) rfl (by kernel_rfl) (by kernel_rfl) (by kernel_rfl) (fun _ _ _ h => h) (Or.inl ⟨by rfl, fun w' hSw => by clear hSw; go_simp⟩) (by assumption) ?_
        simp only [Act.put, List.setIfInBounds_toArray, List.set_cons_zero, List.set_cons_succ]
        refine wpAnyH_take (i := 2) (oi := { dst := some 13, op := Op.move (Operand.tmp 5), type := 3, pos := "slices.go:98", after := #[], guard := none }) (v := .int .i64 (j : Int)) rfl (by kernel_rfl) (by kernel_rfl) (by kernel_rfl) (fun _ _ _ h => h) (Or.inl ⟨by rfl, fun w' hSw => by clear hSw; go_simp⟩) (by assumption) ?_
        simp only [Act.put, List.setIfInBounds_toArray, List.set_cons_zero, List.set_cons_succ]
        refine wpAnyH_take (i := 3) (oi := { dst := some 14, op := Op.indexAddr 116 (Operand.tmp 12) (Operand.tmp 13), type := 0, pos := "slices.go:98", after := #[{ on := 1, ground := Ground.data }, { on := 2, ground := Ground.data }], guard := none }) (v := .pointer (some ⟨B, o + j * 3, none⟩)) rfl (by kernel_rfl) (by kernel_rfl) (by kernel_rfl) (fun _ _ _ h => h) (Or.inl ⟨by rfl, fun w' hSw => by clear hSw; go_simp⟩) (by assumption) ?_
        simp only [Act.put, List.setIfInBounds_toArray, List.set_cons_zero, List.set_cons_succ]
        refine wpAnyH_take (i := 4) (oi := { dst := some 15, op := Op.load 83 (Operand.tmp 14), type := 83, pos := "slices.go:98", after := #[{ on := 3, ground := Ground.data }], guard := none }) (v := .agg #[.string f.key, .int .i64 f.page, .int .i64 f.slot]) rfl (by kernel_rfl) (by kernel_rfl) (by kernel_rfl) (fun _ _ _ h => h) (yieldsIf_load_eb (by rfl) _ rfl rfl (fun W hW => HB.out.more hW)) (by assumption) ?_
        simp only [Act.put, List.setIfInBounds_toArray, List.set_cons_zero, List.set_cons_succ]
        refine wpAnyH_take (i := 5) (oi := { dst := some 16, op := Op.binOp BinOp.eql 83 (Operand.tmp 11) (Operand.tmp 15) 83, type := 4, pos := "slices.go:98", after := #[{ on := 0, ground := Ground.data }, { on := 4, ground := Ground.data }], guard := none }) (v := .bool true) rfl (by kernel_rfl) (by kernel_rfl) (by kernel_rfl) (fun _ _ _ h => h) (Or.inl ⟨by rfl, fun w' hSw => by clear hSw; go_simp⟩) (by assumption) ?_
        simp only [Act.put, List.setIfInBounds_toArray, List.set_cons_zero, List.set_cons_succ]
        refine wpAnyH_done (by kernel_rfl) ?_ _
        refine NoPanic.normal ?_
        -- r4a}
        go_wp2_with fail
        go_ret
        exact ⟨by rw [HX.out]; rfl, o2 HO.out (o2 HW.out (Only.drew _ _))⟩
      · have HI2 : Hid (∀ z ∈ es.take (j + 1), z ≠ e) := by
          intro z hz
          rw [List.take_succ_eq_append_getElem hje] at hz
          rcases List.mem_append.1 hz with hz | hz
          · exact HI.out z hz
          · have : z = es[j] := by simpa using hz
            rw [this]
            exact fun x => hc x.symm
        have hd : decide (e = es[j]) = false := decide_eq_false hc
        rw [hd] at hq
        obtain ⟨f, hf⟩ : ∃ f, es[j] = f := ⟨_, rfl⟩
        rw [hf] at HB hq
        clear hf hb hc hd
        go_upto_region 4 with fail
        -- {r4b
        refine wp_region_noPanic ?_
        refine wp_region_held_drew (S := fun W => Only (fun _ => False) wr W) (by kernel_rfl) (Only.drew _ _) (fun hHeld => ?_)
        refine wpAnyH_take (i := 0) (oi := { dst := some 11, op := Op.load 83 (Operand.tmp 3), type := 83, pos := "slices.go:98", after := #[], guard := none }) (v := .agg #[.string e.key, .int .i64 e.page, .int .i64 e.slot]) rfl (by kernel_rfl) (by kernel_rfl) (by kernel_rfl) (fun _ _ _ h => h) (yieldsIf_load_ev (by rfl) _ rfl rfl (fun W hW => HV1.out.more hW)) (by assumption) ?_
        simp only [Act.put, List.setIfInBounds_toArray, List.set_cons_zero, List.set_cons_succ]
        refine wpAnyH_take (i := 1) (oi := { dst := some 12, op := Op.move (Operand.tmp 0), type := 116, pos := "slices.go:98", after := #[], guard := none }) (v := .slice (some ⟨B, o, none⟩) n C) rfl (by kernel_rfl) (by kernel_rfl) (by kernel_rfl) (fun _ _ _ h => h) (Or.inl ⟨by rfl, fun w' hSw => by clear hSw; go_simp⟩) (by assumption) ?_
        simp only [Act.put, List.setIfInBounds_toArray, List.set_cons_zero, List.set_cons_succ]
        refine wpAnyH_take (i := 2) (oi := { dst := some 13, op := Op.move (Operand.tmp 5), type := 3, pos := "slices.go:98", after := #[], guard := none }) (v := .int .i64 (j : Int)) rfl (by kernel_rfl) (by kernel_rfl) (by kernel_rfl) (fun _ _ _ h => h) (Or.inl ⟨by rfl, fun w' hSw => by clear hSw; go_simp⟩) (by assumption) ?_
        simp only [Act.put, List.setIfInBounds_toArray, List.set_cons_zero, List.set_cons_succ]
        refine wpAnyH_take (i := 3) (oi := { dst := some 14, op := Op.indexAddr 116 (Operand.tmp 12) (Operand.tmp 13), type := 0, pos := "slices.go:98", after := #[{ on := 1, ground := Ground.data }, { on := 2, ground := Ground.data }], guard := none }) (v := .pointer (some ⟨B, o + j * 3, none⟩)) rfl (by kernel_rfl) (by kernel_rfl) (by kernel_rfl) (fun _ _ _ h => h) (Or.inl ⟨by rfl, fun w' hSw => by clear hSw; go_simp⟩) (by assumption) ?_
        simp only [Act.put, List.setIfInBounds_toArray, List.set_cons_zero, List.set_cons_succ]
        refine wpAnyH_take (i := 4) (oi := { dst := some 15, op := Op.load 83 (Operand.tmp 14), type := 83, pos := "slices.go:98", after := #[{ on := 3, ground := Ground.data }], guard := none }) (v := .agg #[.string f.key, .int .i64 f.page, .int .i64 f.slot]) rfl (by kernel_rfl) (by kernel_rfl) (by kernel_rfl) (fun _ _ _ h => h) (yieldsIf_load_eb (by rfl) _ rfl rfl (fun W hW => HB.out.more hW)) (by assumption) ?_
        simp only [Act.put, List.setIfInBounds_toArray, List.set_cons_zero, List.set_cons_succ]
        refine wpAnyH_take (i := 5) (oi := { dst := some 16, op := Op.binOp BinOp.eql 83 (Operand.tmp 11) (Operand.tmp 15) 83, type := 4, pos := "slices.go:98", after := #[{ on := 0, ground := Ground.data }, { on := 4, ground := Ground.data }], guard := none }) (v := .bool false) rfl (by kernel_rfl) (by kernel_rfl) (by kernel_rfl) (fun _ _ _ h => h) (Or.inl ⟨by rfl, fun w' hSw => by clear hSw; go_simp⟩) (by assumption) ?_
        simp only [Act.put, List.setIfInBounds_toArray, List.set_cons_zero, List.set_cons_succ]
        refine wpAnyH_done (by kernel_rfl) ?_ _
        refine NoPanic.normal ?_
        -- r4b}
        go_wp2_with fail
        go_roundw
        case rel => exact ⟨j + 1, by go_num, by omega, HI2, hide (o2 HW.out (Only.drew _ _))⟩
        case measure => simp [intOf]; omega
    · have hk : ¬ (j : Int) < (n : Int) := by omega
      have HX : Hid (idxE es e = -1) := by
        unfold Hid idxE
        rw [if_neg]
        intro hm
        have := HN.out
        exact HI.out e (by rw [List.take_of_length_le (by omega)]; exact hm) rfl
      go_wp2_with fail
      go_ret
      exact ⟨by rw [HX.out]; rfl, o2 HO.out HW.out⟩
end Go.Proofs.YtphofhicehncgaaGreat

namespace Go.Proofs.YtphofhicehncgaaGreat
open Go.RowKit

/-- A leaf in memory. -/
structure Lp (w : World) (r : Int) (h : ByteArray) (hi : En) (B : Nat) (ao : Option Addr) (l : List ByteArray) (es : List En) : Prop where
  strs : Strs w B ao l
  right : 0 ≤ r ∧ r ≤ 65535
  high : HiIs h hi
  lf : LfIs hi l es
  few : l.length ≤ 1048576
theorem Lp.more {w w' : World} {r : Int} {h : ByteArray} {hi : En} {B : Nat} {ao : Option Addr} {l : List ByteArray} {es : List En} (x : Lp w r h hi B ao l es) (ho : Only (fun _ => False) w w') : Lp w' r h hi B ao l es := ⟨x.strs.more ho, x.right, x.high, x.lf, x.few⟩
theorem Lp.read {w : World} {r : Int} {h : ByteArray} {hi : En} {B : Nat} {ao : Option Addr} {l : List ByteArray} {es : List En} (x : Lp w r h hi B ao l es) (a : Int) (cp : Nat) : Calls Tryz.prog 76 #[.agg #[.int .i64 a, .int .i64 3, .int .i64 0, .int .i64 r, .string h, .slice ao l.length cp]] w fun e w' => LfR w w' e hi es := readLeaf_ok w a r h hi B cp ao l es x.strs x.right x.high x.few x.lf
theorem Lp.len {w : World} {r : Int} {h : ByteArray} {hi : En} {B : Nat} {ao : Option Addr} {l : List ByteArray} {es : List En} (x : Lp w r h hi B ao l es) : es.length ≤ 1048576 := by
  have := x.lf.len
  have := x.few
  omega
/-- An inner node in memory. -/
structure Ip (w : World) (v r : Int) (h : ByteArray) (hi : En) (B : Nat) (ao : Option Addr) (l : List ByteArray) (ks : List (En × Int)) : Prop where
  strs : Strs w B ao l
  level : 1 ≤ v ∧ v ≤ 255
  right : 0 ≤ r ∧ r ≤ 65535
  high : HiIs h hi
  inn : InIs hi l ks
  few : l.length ≤ 1048576
theorem Ip.more {w w' : World} {v r : Int} {h : ByteArray} {hi : En} {B : Nat} {ao : Option Addr} {l : List ByteArray} {ks : List (En × Int)} (x : Ip w v r h hi B ao l ks) (ho : Only (fun _ => False) w w') : Ip w' v r h hi B ao l ks := ⟨x.strs.more ho, x.level, x.right, x.high, x.inn, x.few⟩
theorem Ip.read {w : World} {v r : Int} {h : ByteArray} {hi : En} {B : Nat} {ao : Option Addr} {l : List ByteArray} {ks : List (En × Int)} (x : Ip w v r h hi B ao l ks) (a : Int) (cp : Nat) : Calls Tryz.prog 83 #[.agg #[.int .i64 a, .int .i64 3, .int .i64 v, .int .i64 r, .string h, .slice ao l.length cp]] w fun e w' => InR w w' e hi ks := readInner_ok w a v r h hi B cp ao l ks x.strs x.level x.right x.high x.few x.inn
theorem Ip.len {w : World} {v r : Int} {h : ByteArray} {hi : En} {B : Nat} {ao : Option Addr} {l : List ByteArray} {ks : List (En × Int)} (x : Ip w v r h hi B ao l ks) : ks.length ≤ 1048576 := by
  have := x.inn.len
  have := x.few
  omega
theorem Ets.base {w : World} {b c : Nat} {v : Value} {es : List En} (h : Ets w b v es) (hc : c ≤ b) : Ets w c v es := by
  obtain ⟨h3, h4⟩ := h
  refine ⟨h3, ?_⟩
  rcases h4 with h4 | ⟨g, cap, cur, hv, hg, hh⟩
  · exact .inl h4
  · exact .inr ⟨g, cap, cur, hv, Nat.le_trans hc hg, hh⟩
theorem Kts.base {w : World} {b c : Nat} {v : Value} {es : List Int} (h : Kts w b v es) (hc : c ≤ b) : Kts w c v es := by
  obtain ⟨h3, h4⟩ := h
  refine ⟨h3, ?_⟩
  rcases h4 with h4 | ⟨g, cap, cur, hv, hg, hh⟩
  · exact .inl h4
  · exact .inr ⟨g, cap, cur, hv, Nat.le_trans hc hg, hh⟩
/-- What Entries answers of a leaf. -/
def EnR (w w' : World) (x : Ending) (es : List En) : Prop := ∃ A C, x = .returned (.tuple #[.slice A es.length C, .int .i64 0]) ∧ Ets w' w.heap.size (.slice A es.length C) es ∧ Only (fun _ => False) w w'
/-- What Kids answers of an inner node. -/
def KdR (w w' : World) (x : Ending) (ks : List (En × Int)) : Prop := ∃ A C A2 C2, x = .returned (.tuple #[.slice A ks.length C, .slice A2 ks.length C2, .int .i64 0]) ∧ Ets w' w.heap.size (.slice A ks.length C) (ks.map Prod.fst) ∧ Kts w' w.heap.size (.slice A2 ks.length C2) (ks.map Prod.snd) ∧ Only (fun _ => False) w w'
/-- What Beyond answers. -/
def byV (hi e : En) : Value := if e.ok = true then .tuple #[.bool (byd hi e), .int .i64 0] else .tuple #[.bool false, .int .i64 140]
theorem pe_new (w : World) (v0 v1 v2 v3 v4 v5 : Value) (e : En) : Pag ((w.alloc (.cells #[v0, v1, v2, v3, v4, v5] 25)).alloc (.cells #[.string e.key, .int .i64 e.page, .int .i64 e.slot] 83)) w.heap.size v0 v1 v2 v3 v4 v5 ∧ Ev ((w.alloc (.cells #[v0, v1, v2, v3, v4, v5] 25)).alloc (.cells #[.string e.key, .int .i64 e.page, .int .i64 e.slot] 83)) (w.heap.size + 1) e ∧ Only (fun _ => False) w ((w.alloc (.cells #[v0, v1, v2, v3, v4, v5] 25)).alloc (.cells #[.string e.key, .int .i64 e.page, .int .i64 e.slot] 83)) := by
  refine ⟨(Pag.new w v0 v1 v2 v3 v4 v5).more (onlyA _ _), ?_, o2 (onlyA _ _) (onlyA _ _)⟩
  have e1 := Ev.new (w.alloc (.cells #[v0, v1, v2, v3, v4, v5] 25)) e
  rw [World.size_alloc] at e1
  exact e1
/-- The child that leads to an entry. -/
def chE (ks : List (En × Int)) (e : En) : Int := (ks.getD (plE (ks.map Prod.fst) e - 1) (noE, 0)).2
/-- What Child answers. -/
def chV (ks : List (En × Int)) (hi e : En) : Value := if e.ok = true ∧ byd hi e = false then .tuple #[.int .i64 (chE ks e), .int .i64 0] else .tuple #[.int .i64 0, .int .i64 140]
theorem pl_pos {hi : En} {l : List ByteArray} {ks : List (En × Int)} (h : InIs hi l ks) {e : En} (he : e.ok = true) : ∃ P, plE (ks.map Prod.fst) e = P + 1 ∧ P < ks.length := by
  obtain ⟨c, r, rfl⟩ := h.first
  have h1 : 0 < plE (((noE, c) :: r).map Prod.fst) e := by
    unfold plE
    rw [List.map_cons, List.countP_cons_of_pos (by simpa using noE_lt he)]
    omega
  have h2 := plE_le (((noE, c) :: r).map Prod.fst) e
  rw [List.length_map] at h2
  exact ⟨plE (((noE, c) :: r).map Prod.fst) e - 1, by omega, by omega⟩
theorem Ets.elsOf {w : World} {base : Nat} {A : Option Addr} {n C : Nat} {es : List En} (h : Ets w base (.slice A n C) es) : ∃ B, Els w B A es ∧ es.length = n := by
  obtain ⟨B, ao, cp, hv, he, _⟩ := h.els
  injection hv with h1 h2 h3
  subst h1
  exact ⟨B, he, h2.symm⟩
end Go.Proofs.YtphofhicehncgaaGreat

namespace Go.Proofs.YtphofhicehncgaaGreat
open Go.RowKit

set_option maxRecDepth 100000 in
set_option maxHeartbeats 1600000 in
theorem put_some (w : World) (a k v r : Int) (h : ByteArray) (B b o cp : Nat) (l : List ByteArray) (i : Nat) (it : ByteArray) (hS : Strs w B (some ⟨b, o, none⟩) l) (hF : Fit (some ⟨b, o, none⟩) l.length cp) (hh : h.size ≤ 140737488355328) (hit : it.size ≤ 140737488355328) (hi : i ≤ l.length) (hlm : l.length ≤ 8796093021952) :
    Calls Tryz.prog 37 #[.agg #[.int .i64 a, .int .i64 k, .int .i64 v, .int .i64 r, .string h, .slice (some ⟨b, o, none⟩) l.length cp], .int .i64 (i : Int), .string it] w fun e w' =>
      Or3 w w' e (255 < (l.take i ++ it :: l.drop i).length ∨ 512 < 20 + h.size + isz (l.take i ++ it :: l.drop i)) ⟨a, k, v, r, h, l.take i ++ it :: l.drop i⟩ := by
  have hcp := hF.le
  have hbig := hF.big
  unfold maxLen at hbig
  obtain ⟨A2, hA2⟩ : ∃ A2, (if cp = i then some (⟨b, o, none⟩ : Addr) else some ⟨b, o + i, none⟩) = A2 := ⟨_, rfl⟩
  have HCAT := hide (put_cat w a k v r h B b o cp l i it hS hF hit hi hlm A2 (fun hk => by rw [← hA2, if_neg (by omega)]) (by rw [← hA2]; split <;> simp))
  clear hS hF
  obtain ⟨nl, hnl⟩ : ∃ nl, l.take i ++ it :: l.drop i = nl := ⟨_, rfl⟩
  rw [hnl] at HCAT ⊢
  clear hnl
  have hi0 : (0 : Int) ≤ (i : Int) := by omega
  have hi1 : ¬ ((l.length : Int) < (i : Int)) := by omega
  go_enter Tryz.func37, Tryz.ntmps37
  go_upto_region 3 with fail
  go_cut [29] (fun t wc => ∃ B5 ao5 cp5, t = .slice ao5 nl.length cp5 ∧ Hid (Aft w wc a k v r h (.slice ao5 nl.length cp5) B5 ao5 cp5 nl))
  case first =>
    go_region_with (
      go_at_call 71
      refine (HCAT.out _ (Only.drew _ _)).mono ?_
      rintro e w5 ⟨B5, ao5, cp5, rfl, p5, g5, HA⟩)
    all_goals (go_wp2_with fail; go_meet; exact ⟨B5, ao5, cp5, rfl, hide (HA.out.store _)⟩)
  case rest =>
    obtain ⟨B5, ao5, cp5, rfl, HA⟩ := hcut
    obtain ⟨p0, p1, p2, p3, p4, p5, g0, g1, g2, g3, g4, g5, gl⟩ := HA.out.one
    go_wp2_with fail
    refine (fitting_any _ a k v r h B5 cp5 ao5 nl HA.out.strs hh).mono ?_
    rintro e w6 ⟨rfl, ho6⟩
    have HA6 := hide (HA.out.more ho6)
    obtain ⟨q0, q1, q2, q3, q4, q5, t0, t1, t2, t3, t4, t5, tl⟩ := HA6.out.two
    have HQ6 := hide HA6.out.two
    clear ho6 p0 p1 p2 p3 p4 p5 g0 g1 g2 g3 g4 g5 gl
    by_cases hc : 255 < nl.length ∨ 512 < 20 + h.size + isz nl
    · rw [if_pos hc]
      have HC := hide hc
      clear hc
      go_wp2_with fail
      refine bodyPost_ret (results_page rfl rfl (Pag.six HQ6.out _ _ _ _ _ _)) rfl ?_
      exact Or3.yes HC.out (Res.none 3 (HA6.out.res _ _ _ _ _ _ 0 _ rfl).2)
    · rw [if_neg hc]
      have HC := hide hc
      clear hc
      go_wp2_with fail
      refine bodyPost_ret (results_page rfl rfl (Pag.six HQ6.out _ _ _ _ _ _)) rfl ?_
      exact Or3.no HC.out (HA6.out.res _ _ _ _ _ _ 0 _ rfl).1
end Go.Proofs.YtphofhicehncgaaGreat

namespace Go.Proofs.YtphofhicehncgaaGreat
open Go.RowKit

theorem put_cat0 (w : World) (a k v r : Int) (h : ByteArray) (it : ByteArray) (hit : it.size ≤ 140737488355328) (W : World)
    (hW : Only (fun _ => False) (((boxes w a k v r h (.slice none 0 0)).alloc (.cells #[.string it] 9)).alloc (.cells #[.slice none 0 0, .slice (some ⟨w.heap.size + 1 + 1, 0, none⟩) 1 1, .slice none 0 0] 23)) W) :
    Calls Tryz.prog 71 #[.slice (some ⟨w.heap.size + 1 + 1 + 1, 0, none⟩) 3 3] W fun e w' => ∃ B5 ao5 cp5, e = .returned (.slice ao5 [it].length cp5) ∧ w'.cell? ⟨w.heap.size, 5, none⟩ = some (.slice none 0 0) ∧ w'.frozen? ⟨w.heap.size, 5, none⟩ = false ∧ Hid (Aft w w' a k v r h (.slice none 0 0) B5 ao5 cp5 [it]) := by
  have hB1 := boxes_one w a k v r h (.slice none 0 0)
  have hB2 := boxes_two w a k v r h (.slice none 0 0)
  obtain ⟨W0, hW0⟩ : ∃ W0, boxes w a k v r h (.slice none 0 0) = W0 := ⟨_, rfl⟩
  have hz := boxes_size w a k v r h (.slice none 0 0)
  have ho0 := boxes_only w a k v r h (.slice none 0 0)
  rw [hW0] at hW hz ho0 hB1 hB2
  have hS1 := Strs.one W0 it hit
  rw [hz] at hS1
  have hS3 := (hS1.more (onlyA _ _)).more hW
  have hlt : w.heap.size + 1 + 1 + 1 < ((W0.alloc (.cells #[.string it] 9)).alloc (.cells #[.slice none 0 0, .slice (some ⟨w.heap.size + 1 + 1, 0, none⟩) 1 1, .slice none 0 0] 23)).heap.size := by simp; omega
  have hz1 : (W0.alloc (.cells #[.string it] 9)).heap.size = w.heap.size + 1 + 1 + 1 := by simp; omega
  have hc : ∀ j (x : Value), #[Value.slice none 0 0, .slice (some ⟨w.heap.size + 1 + 1, 0, none⟩) 1 1, .slice none 0 0][j]? = some x → W.cell? ⟨w.heap.size + 1 + 1 + 1, j, none⟩ = some x := by
    intro j x hx
    rw [hW.cell (p := ⟨w.heap.size + 1 + 1 + 1, j, none⟩) hlt (fun h => h), ← hz1]
    simpa using hx
  have f0 : Fit none 0 0 := ⟨fun _ => rfl, Nat.le_refl _, (by unfold maxLen; omega)⟩
  have key := cat3 W (w.heap.size + 1 + 1 + 1) none (some ⟨w.heap.size + 1 + 1, 0, none⟩) none 0 1 0 0 (w.heap.size + 1 + 1) 0 0 1 0 [] [it] []
    rfl rfl rfl (hc 0 _ rfl) (hc 1 _ rfl) (hc 2 _ rfl) (Strs.nil _ _ _) hS3 (Strs.nil _ _ _) f0 ⟨(fun h => by cases h), by omega, (by unfold maxLen; omega)⟩ f0 (Nat.lt_of_lt_of_le hlt hW.size) (by omega)
  refine Calls.mono key ?_
  rintro e w5 ⟨v5, rfl, hl5, ho5⟩
  have e3 : ([] : List ByteArray) ++ [it] ++ [] = [it] := rfl
  rw [e3] at hl5
  obtain ⟨B5, ao5, cp5, rfl, hS5, hF5, hB5, _⟩ := hl5.strs (by simp) (fun s hs => by simp at hs; rw [hs]; exact hit)
  have hoo := o2 (o2 (onlyA W0 (.cells #[.string it] 9)) (onlyA _ _)) (o2 hW ho5)
  have hP := hB1.more hoo
  have hWs := hW.size
  exact ⟨B5, ao5, cp5, rfl, hP.c5, hP.f5, ⟨hP, hB2.more hoo, hS5, hF5, o2 ho0 hoo, fun h => by have := hB5 h; omega⟩⟩

set_option maxRecDepth 100000 in
set_option maxHeartbeats 1600000 in
theorem put_none (w : World) (a k v r : Int) (h : ByteArray) (it : ByteArray) (hh : h.size ≤ 140737488355328) (hit : it.size ≤ 140737488355328) :
    Calls Tryz.prog 37 #[.agg #[.int .i64 a, .int .i64 k, .int .i64 v, .int .i64 r, .string h, .slice none 0 0], .int .i64 0, .string it] w fun e w' =>
      Or3 w w' e (255 < [it].length ∨ 512 < 20 + h.size + isz [it]) ⟨a, k, v, r, h, [it]⟩ := by
  have HCAT := hide (put_cat0 w a k v r h it hit)
  obtain ⟨nl, hnl⟩ : ∃ nl, [it] = nl := ⟨_, rfl⟩
  rw [hnl] at HCAT ⊢
  clear hnl
  go_enter Tryz.func37, Tryz.ntmps37
  go_upto_region 3 with fail
  go_cut [29] (fun t wc => ∃ B5 ao5 cp5, t = .slice ao5 nl.length cp5 ∧ Hid (Aft w wc a k v r h (.slice ao5 nl.length cp5) B5 ao5 cp5 nl))
  case first =>
    go_region_with (
      go_at_call 71
      refine (HCAT.out _ (Only.drew _ _)).mono ?_
      rintro e w5 ⟨B5, ao5, cp5, rfl, p5, g5, HA⟩)
    all_goals (go_wp2_with fail; go_meet; exact ⟨B5, ao5, cp5, rfl, hide (HA.out.store _)⟩)
  case rest =>
    obtain ⟨B5, ao5, cp5, rfl, HA⟩ := hcut
    obtain ⟨p0, p1, p2, p3, p4, p5, g0, g1, g2, g3, g4, g5, gl⟩ := HA.out.one
    go_wp2_with fail
    refine (fitting_any _ a k v r h B5 cp5 ao5 nl HA.out.strs hh).mono ?_
    rintro e w6 ⟨rfl, ho6⟩
    have HA6 := hide (HA.out.more ho6)
    obtain ⟨q0, q1, q2, q3, q4, q5, t0, t1, t2, t3, t4, t5, tl⟩ := HA6.out.two
    have HQ6 := hide HA6.out.two
    clear ho6 p0 p1 p2 p3 p4 p5 g0 g1 g2 g3 g4 g5 gl
    by_cases hc : 255 < nl.length ∨ 512 < 20 + h.size + isz nl
    · rw [if_pos hc]
      have HC := hide hc
      clear hc
      go_wp2_with fail
      refine bodyPost_ret (results_page rfl rfl (Pag.six HQ6.out _ _ _ _ _ _)) rfl ?_
      exact Or3.yes HC.out (Res.none 3 (HA6.out.res _ _ _ _ _ _ 0 _ rfl).2)
    · rw [if_neg hc]
      have HC := hide hc
      clear hc
      go_wp2_with fail
      refine bodyPost_ret (results_page rfl rfl (Pag.six HQ6.out _ _ _ _ _ _)) rfl ?_
      exact Or3.no HC.out (HA6.out.res _ _ _ _ _ _ 0 _ rfl).1
end Go.Proofs.YtphofhicehncgaaGreat

namespace Go.Proofs.YtphofhicehncgaaGreat
open Go.RowKit

theorem put_cat1 (w : World) (a k v r : Int) (h : ByteArray) (A : Addr) (cp : Nat) (hbig : cp ≤ maxLen) (it : ByteArray) (hit : it.size ≤ 140737488355328) (W : World)
    (hW : Only (fun _ => False) (((boxes w a k v r h (.slice (some A) 0 cp)).alloc (.cells #[.string it] 9)).alloc (.cells #[.slice (some A) 0 cp, .slice (some ⟨w.heap.size + 1 + 1, 0, none⟩) 1 1, .slice (some A) 0 cp] 23)) W) :
    Calls Tryz.prog 71 #[.slice (some ⟨w.heap.size + 1 + 1 + 1, 0, none⟩) 3 3] W fun e w' => ∃ B5 ao5 cp5, e = .returned (.slice ao5 [it].length cp5) ∧ w'.cell? ⟨w.heap.size, 5, none⟩ = some (.slice (some A) 0 cp) ∧ w'.frozen? ⟨w.heap.size, 5, none⟩ = false ∧ Hid (Aft w w' a k v r h (.slice (some A) 0 cp) B5 ao5 cp5 [it]) := by
  have hB1 := boxes_one w a k v r h (.slice (some A) 0 cp)
  have hB2 := boxes_two w a k v r h (.slice (some A) 0 cp)
  obtain ⟨W0, hW0⟩ : ∃ W0, boxes w a k v r h (.slice (some A) 0 cp) = W0 := ⟨_, rfl⟩
  have hz := boxes_size w a k v r h (.slice (some A) 0 cp)
  have ho0 := boxes_only w a k v r h (.slice (some A) 0 cp)
  rw [hW0] at hW hz ho0 hB1 hB2
  have hS1 := Strs.one W0 it hit
  rw [hz] at hS1
  have hS3 := (hS1.more (onlyA _ _)).more hW
  have hlt : w.heap.size + 1 + 1 + 1 < ((W0.alloc (.cells #[.string it] 9)).alloc (.cells #[.slice (some A) 0 cp, .slice (some ⟨w.heap.size + 1 + 1, 0, none⟩) 1 1, .slice (some A) 0 cp] 23)).heap.size := by simp; omega
  have hz1 : (W0.alloc (.cells #[.string it] 9)).heap.size = w.heap.size + 1 + 1 + 1 := by simp; omega
  have hc : ∀ j (x : Value), #[Value.slice (some A) 0 cp, .slice (some ⟨w.heap.size + 1 + 1, 0, none⟩) 1 1, .slice (some A) 0 cp][j]? = some x → W.cell? ⟨w.heap.size + 1 + 1 + 1, j, none⟩ = some x := by
    intro j x hx
    rw [hW.cell (p := ⟨w.heap.size + 1 + 1 + 1, j, none⟩) hlt (fun h => h), ← hz1]
    simpa using hx
  have f0 : Fit (some A) 0 cp := ⟨(fun h => by cases h), Nat.zero_le _, hbig⟩
  have key := cat3 W (w.heap.size + 1 + 1 + 1) (some A) (some ⟨w.heap.size + 1 + 1, 0, none⟩) (some A) cp 1 cp 0 (w.heap.size + 1 + 1) 0 0 1 0 [] [it] []
    rfl rfl rfl (hc 0 _ rfl) (hc 1 _ rfl) (hc 2 _ rfl) (Strs.nil _ _ _) hS3 (Strs.nil _ _ _) f0 ⟨(fun h => by cases h), by omega, (by unfold maxLen; omega)⟩ f0 (Nat.lt_of_lt_of_le hlt hW.size) (by omega)
  refine Calls.mono key ?_
  rintro e w5 ⟨v5, rfl, hl5, ho5⟩
  have e3 : ([] : List ByteArray) ++ [it] ++ [] = [it] := rfl
  rw [e3] at hl5
  obtain ⟨B5, ao5, cp5, rfl, hS5, hF5, hB5, _⟩ := hl5.strs (by simp) (fun s hs => by simp at hs; rw [hs]; exact hit)
  have hoo := o2 (o2 (onlyA W0 (.cells #[.string it] 9)) (onlyA _ _)) (o2 hW ho5)
  have hP := hB1.more hoo
  have hWs := hW.size
  exact ⟨B5, ao5, cp5, rfl, hP.c5, hP.f5, ⟨hP, hB2.more hoo, hS5, hF5, o2 ho0 hoo, fun h => by have := hB5 h; omega⟩⟩

set_option maxRecDepth 100000 in
set_option maxHeartbeats 1600000 in
theorem put_emp (w : World) (a k v r : Int) (h : ByteArray) (A : Addr) (cp : Nat) (hbig : cp ≤ maxLen) (it : ByteArray) (hh : h.size ≤ 140737488355328) (hit : it.size ≤ 140737488355328) :
    Calls Tryz.prog 37 #[.agg #[.int .i64 a, .int .i64 k, .int .i64 v, .int .i64 r, .string h, .slice (some A) 0 cp], .int .i64 0, .string it] w fun e w' =>
      Or3 w w' e (255 < [it].length ∨ 512 < 20 + h.size + isz [it]) ⟨a, k, v, r, h, [it]⟩ := by
  have HCAT := hide (put_cat1 w a k v r h A cp hbig it hit)
  obtain ⟨nl, hnl⟩ : ∃ nl, [it] = nl := ⟨_, rfl⟩
  rw [hnl] at HCAT ⊢
  clear hnl
  have hadd : A.add 0 = A := by unfold Addr.add; simp
  have hcp0 : (0 : Int) ≤ (cp : Int) := by omega
  unfold maxLen at hbig
  go_enter Tryz.func37, Tryz.ntmps37
  go_upto_region 3 with fail
  go_cut [29] (fun t wc => ∃ B5 ao5 cp5, t = .slice ao5 nl.length cp5 ∧ Hid (Aft w wc a k v r h (.slice ao5 nl.length cp5) B5 ao5 cp5 nl))
  case first =>
    go_region_with (
      go_at_call 71
      refine (HCAT.out _ (Only.drew _ _)).mono ?_
      rintro e w5 ⟨B5, ao5, cp5, rfl, p5, g5, HA⟩)
    all_goals (go_wp2_with fail; go_meet; exact ⟨B5, ao5, cp5, rfl, hide (HA.out.store _)⟩)
  case rest =>
    obtain ⟨B5, ao5, cp5, rfl, HA⟩ := hcut
    obtain ⟨p0, p1, p2, p3, p4, p5, g0, g1, g2, g3, g4, g5, gl⟩ := HA.out.one
    go_wp2_with fail
    refine (fitting_any _ a k v r h B5 cp5 ao5 nl HA.out.strs hh).mono ?_
    rintro e w6 ⟨rfl, ho6⟩
    have HA6 := hide (HA.out.more ho6)
    obtain ⟨q0, q1, q2, q3, q4, q5, t0, t1, t2, t3, t4, t5, tl⟩ := HA6.out.two
    have HQ6 := hide HA6.out.two
    clear ho6 p0 p1 p2 p3 p4 p5 g0 g1 g2 g3 g4 g5 gl
    by_cases hc : 255 < nl.length ∨ 512 < 20 + h.size + isz nl
    · rw [if_pos hc]
      have HC := hide hc
      clear hc
      go_wp2_with fail
      refine bodyPost_ret (results_page rfl rfl (Pag.six HQ6.out _ _ _ _ _ _)) rfl ?_
      exact Or3.yes HC.out (Res.none 3 (HA6.out.res _ _ _ _ _ _ 0 _ rfl).2)
    · rw [if_neg hc]
      have HC := hide hc
      clear hc
      go_wp2_with fail
      refine bodyPost_ret (results_page rfl rfl (Pag.six HQ6.out _ _ _ _ _ _)) rfl ?_
      exact Or3.no HC.out (HA6.out.res _ _ _ _ _ _ 0 _ rfl).1
theorem put_any (w : World) (a k v r : Int) (h : ByteArray) (B cp : Nat) (ao : Option Addr) (l : List ByteArray) (i : Nat) (it : ByteArray) (hS : Strs w B ao l) (hF : Fit ao l.length cp) (hh : h.size ≤ 140737488355328) (hit : it.size ≤ 140737488355328) (hi : i ≤ l.length) (hlm : l.length ≤ 8796093021952) :
    Calls Tryz.prog 37 #[.agg #[.int .i64 a, .int .i64 k, .int .i64 v, .int .i64 r, .string h, .slice ao l.length cp], .int .i64 (i : Int), .string it] w fun e w' =>
      Or3 w w' e (255 < (l.take i ++ it :: l.drop i).length ∨ 512 < 20 + h.size + isz (l.take i ++ it :: l.drop i)) ⟨a, k, v, r, h, l.take i ++ it :: l.drop i⟩ := by
  by_cases h0 : l.length = 0
  · have e : l = [] := List.eq_nil_of_length_eq_zero h0
    subst e
    have e2 : i = 0 := by simpa using hi
    subst e2
    cases ao with
    | none =>
      have e3 := hF.nil rfl
      subst e3
      exact put_none w a k v r h it hh hit
    | some A => exact put_emp w a k v r h A cp hF.big it hh hit
  · obtain ⟨o, e, _⟩ := hS.at_ (by omega)
    subst e
    exact put_some w a k v r h B B o cp l i it hS hF hh hit hi hlm
end Go.Proofs.YtphofhicehncgaaGreat

namespace Go.Proofs.YtphofhicehncgaaGreat
open Go.RowKit

theorem out_cat (w : World) (a k v r : Int) (h : ByteArray) (B b o cp : Nat) (l : List ByteArray) (i : Nat) (hS : Strs w B (some ⟨b, o, none⟩) l) (hF : Fit (some ⟨b, o, none⟩) l.length cp) (hi : i < l.length) (A2 : Option Addr) (hA : i + 1 < l.length → A2 = some ⟨b, o + (i + 1), none⟩) (hA0 : A2 ≠ none) (W1 : World) (h1 : Only (fun _ => False) (boxes w a k v r h (.slice (some ⟨b, o, none⟩) l.length cp)) W1) (W : World)
    (hW : Only (fun _ => False) (W1.alloc (.cells #[.slice (some ⟨b, o, none⟩) i cp, .slice A2 (l.length - (i + 1)) (cp - (i + 1))] 23)) W) :
    Calls Tryz.prog 71 #[.slice (some ⟨W1.heap.size, 0, none⟩) 2 2] W fun e w' => ∃ B5 ao5 cp5, e = .returned (.slice ao5 (l.take i ++ l.drop (i + 1)).length cp5) ∧ w'.cell? ⟨w.heap.size, 5, none⟩ = some (.slice (some ⟨b, o, none⟩) l.length cp) ∧ w'.frozen? ⟨w.heap.size, 5, none⟩ = false ∧ Hid (Aft w w' a k v r h (.slice (some ⟨b, o, none⟩) l.length cp) B5 ao5 cp5 (l.take i ++ l.drop (i + 1))) := by
  have hlen := hS.len
  have hB1 := (boxes_one w a k v r h (.slice (some ⟨b, o, none⟩) l.length cp)).more h1
  have hB2 := (boxes_two w a k v r h (.slice (some ⟨b, o, none⟩) l.length cp)).more h1
  have hcp := hF.le
  have hbig := hF.big
  have hz := boxes_size w a k v r h (.slice (some ⟨b, o, none⟩) l.length cp)
  have hz1 := h1.size
  have ho1 := o2 (boxes_only w a k v r h (.slice (some ⟨b, o, none⟩) l.length cp)) h1
  have hA1 := onlyA W1 (.cells #[.slice (some ⟨b, o, none⟩) i cp, .slice A2 (l.length - (i + 1)) (cp - (i + 1))] 23)
  have hS2 := ((hS.more ho1).more hA1).more hW
  have hlt : W1.heap.size < (W1.alloc (.cells #[.slice (some ⟨b, o, none⟩) i cp, .slice A2 (l.length - (i + 1)) (cp - (i + 1))] 23)).heap.size := by simp
  have hc : ∀ j (x : Value), #[Value.slice (some ⟨b, o, none⟩) i cp, .slice A2 (l.length - (i + 1)) (cp - (i + 1))][j]? = some x → W.cell? ⟨W1.heap.size, j, none⟩ = some x := by
    intro j x hx
    rw [hW.cell (p := ⟨W1.heap.size, j, none⟩) hlt (fun h => h)]
    simpa using hx
  have key := cat2 W W1.heap.size (some ⟨b, o, none⟩) A2 cp (cp - (i + 1)) B B i (l.length - (i + 1)) (l.take i) (l.drop (i + 1))
    (by simp; omega) (by simp) (hc 0 _ rfl) (hc 1 _ rfl) (hS2.take i) (hS2.drop (i + 1) _ hA)
    ⟨(fun h => by cases h), by omega, hbig⟩ ⟨(fun h => absurd h hA0), by omega, by omega⟩ (Nat.lt_of_lt_of_le hlt hW.size) (by omega)
  have hsz : ∀ s ∈ l.take i ++ l.drop (i + 1), s.size ≤ 140737488355328 := by
    intro s hs
    rcases List.mem_append.1 hs with hs | hs
    · exact hS.size s (List.mem_of_mem_take hs)
    · exact hS.size s (List.mem_of_mem_drop hs)
  have hln : (l.take i ++ l.drop (i + 1)).length ≤ l.length := by simp; omega
  refine Calls.mono key ?_
  rintro e w5 ⟨v5, rfl, hl5, ho5⟩
  obtain ⟨B5, ao5, cp5, rfl, hS5, hF5, hB5, _⟩ := hl5.strs (by omega) hsz
  have hoo := o2 hA1 (o2 hW ho5)
  have hP := hB1.more hoo
  have hWs := hW.size
  exact ⟨B5, ao5, cp5, rfl, hP.c5, hP.f5, ⟨hP, hB2.more hoo, hS5, hF5, o2 ho1 hoo, fun h => by have := hB5 h; omega⟩⟩

set_option maxRecDepth 100000 in
set_option maxHeartbeats 1600000 in
theorem out_some (w : World) (a k v r : Int) (h : ByteArray) (B b o cp : Nat) (l : List ByteArray) (i : Nat) (hS : Strs w B (some ⟨b, o, none⟩) l) (hF : Fit (some ⟨b, o, none⟩) l.length cp) (hi : i < l.length) :
    Calls Tryz.prog 86 #[.agg #[.int .i64 a, .int .i64 k, .int .i64 v, .int .i64 r, .string h, .slice (some ⟨b, o, none⟩) l.length cp], .int .i64 (i : Int)] w fun e w' =>
      Res w w' e ⟨a, k, v, r, h, l.take i ++ l.drop (i + 1)⟩ 0 := by
  have hcp := hF.le
  have hbig := hF.big
  have hlen := hS.len
  unfold maxLen at hbig
  obtain ⟨m, hm⟩ : ∃ m, i + 1 = m := ⟨_, rfl⟩
  obtain ⟨A2, hA2⟩ : ∃ A2, (if cp = m then some (⟨b, o, none⟩ : Addr) else some ⟨b, o + m, none⟩) = A2 := ⟨_, rfl⟩
  have HCAT := hide (out_cat w a k v r h B b o cp l i hS hF hi A2 (fun hk => by rw [← hA2, hm, if_neg (by omega)]) (by rw [← hA2]; split <;> simp))
  have HB0 := hide (boxes_one w a k v r h (.slice (some ⟨b, o, none⟩) l.length cp))
  clear hS hF
  obtain ⟨nl, hnl⟩ : ∃ nl, l.take i ++ l.drop (i + 1) = nl := ⟨_, rfl⟩
  rw [hnl] at HCAT ⊢
  rw [hm] at HCAT
  clear hnl
  have hi0 : (0 : Int) ≤ (i : Int) := by omega
  have hi1 : (i : Int) < (l.length : Int) := by omega
  have hi2 : (0 : Int) ≤ (m : Int) := by omega
  have hi3 : (m : Int) ≤ (l.length : Int) := by omega
  have hi4 : (m : Int) ≤ (cp : Int) := by omega
  have hi5 : (i : Int) + 1 = (m : Int) := by omega
  have hi8 : IntKind.i64.wrap (m : Int) = (m : Int) := wraps_i64 _ (by omega) (by omega)
  have hi6 : (i : Int) ≤ (cp : Int) := by omega
  have hi7 : (l.length : Int) ≤ (cp : Int) := by omega
  clear hm
  go_enter Tryz.func86, Tryz.ntmps86
  go_wp2_with fail
  refine (hasItem_any (boxes w a k v r h (.slice (some ⟨b, o, none⟩) l.length cp)) a k v r (i : Int) h cp l.length (some ⟨b, o, none⟩)).mono ?_
  rw [show decide ((0 : Int) ≤ (i : Int) ∧ (i : Int) < (l.length : Int)) = true from by simp; omega]
  rintro e w1 ⟨rfl, ho1⟩
  have HCAT1 := hide (HCAT.out w1 ho1)
  obtain ⟨p0, p1, p2, p3, p4, p5, g0, g1, g2, g3, g4, g5, gl⟩ := HB0.out.more ho1
  have HO1 := hide ho1
  clear ho1 p0 p1 p2 p3 p4 g0 g1 g2 g3 g4
  go_upto_region 3 with fail
  go_cut [21] (fun t wc => ∃ B5 ao5 cp5, t = .slice ao5 nl.length cp5 ∧ Hid (Aft w wc a k v r h (.slice ao5 nl.length cp5) B5 ao5 cp5 nl))
  case first =>
    go_region_with (
      go_at_call 71
      refine (HCAT1.out _ (Only.drew _ _)).mono ?_
      rintro e w5 ⟨B5, ao5, cp5, rfl, p5, g5, HA⟩)
    all_goals (go_wp2_with fail; go_meet; exact ⟨B5, ao5, cp5, rfl, hide (HA.out.store _)⟩)
  case rest =>
    obtain ⟨B5, ao5, cp5, rfl, HA⟩ := hcut
    obtain ⟨p0, p1, p2, p3, p4, p5, g0, g1, g2, g3, g4, g5, gl⟩ := HA.out.one
    obtain ⟨q0, q1, q2, q3, q4, q5, t0, t1, t2, t3, t4, t5, tl⟩ := HA.out.two
    have HQ6 := hide HA.out.two
    go_wp2_with fail
    refine bodyPost_ret (results_page rfl rfl (Pag.six HQ6.out _ _ _ _ _ _)) rfl ?_
    exact (HA.out.res _ _ _ _ _ _ 0 _ rfl).1
end Go.Proofs.YtphofhicehncgaaGreat
