/- Parts. -/
import Derived.Test.YtajjakljheafjaaGreatK23
import Derived.Test.YtajjakljheafjaaGreatK22
set_option maxRecDepth 100000
namespace Go.Proofs.YtajjakljheafjaaGreat
open Go.RowKit
/-- The live version in a slot. -/
def verL (k : Int) (l : List ByteArray) (i : Int) : Option Tu := if k = 2 ∧ 0 ≤ i ∧ i < l.length then decT (bl (l.getD i.toNat ⟨#[]⟩)) else none
theorem verL_kind {k : Int} {l : List ByteArray} {i : Int} (h : ¬ k = 2) : verL k l i = none := by unfold verL; rw [if_neg (fun c => h c.1)]
theorem verL_low {k : Int} {l : List ByteArray} {i : Int} (h : i < 0) : verL k l i = none := by unfold verL; rw [if_neg (fun c => by omega)]
theorem verL_high {k : Int} {l : List ByteArray} {i : Int} (h : ¬ i < l.length) : verL k l i = none := by unfold verL; rw [if_neg (fun c => h c.2.2)]
theorem verL_at {l : List ByteArray} {j : Nat} (h : j < l.length) : verL 2 l (j : Int) = decT (bl l[j]) := by
  unfold verL
  rw [if_pos ⟨rfl, by omega, by omega⟩, Int.toNat_natCast]
  simp [List.getD, h]
def outV (o : Option Tu) : Value := .tuple #[(o.getD noT).agg, .int .i64 (if o.isSome then 0 else 120)]
/-- The variables of version and Look: the page, and what is answered. -/
structure Vst (w W : World) (a k v r : Int) (h : ByteArray) (ao : Option Addr) (n cp : Nat) : Prop where
  pg : Pag W w.heap.size (.int .i64 a) (.int .i64 k) (.int .i64 v) (.int .i64 r) (.string h) (.slice ao n cp)
  res : Tb W (w.heap.size + 1) noT
  only : Only (fun _ => False) w W
theorem Vst.new (w : World) (a k v r : Int) (h : ByteArray) (ao : Option Addr) (n cp : Nat) : Vst w ((w.alloc (.cells #[.int .i64 a, .int .i64 k, .int .i64 v, .int .i64 r, .string h, .slice ao n cp] 37)).alloc (.cells #[.int .i64 0, .int .i64 0, .bool false, .string ⟨#[]⟩, .string ⟨#[]⟩] 78)) a k v r h ao n cp := by
  refine ⟨(Pag.new w _ _ _ _ _ _).more (onlyA _ _), ?_, o2 (onlyA _ _) (onlyA _ _)⟩
  have := Tb.new (w.alloc (.cells #[.int .i64 a, .int .i64 k, .int .i64 v, .int .i64 r, .string h, .slice ao n cp] 37)) noT
  rw [World.size_alloc] at this
  exact this
theorem Vst.more {w W W' : World} {a k v r : Int} {h : ByteArray} {ao : Option Addr} {n cp : Nat} (H : Vst w W a k v r h ao n cp) (ho : Only (fun _ => False) W W') : Vst w W' a k v r h ao n cp := ⟨H.pg.more ho, H.res.more ho, o2 H.only ho⟩
theorem Vst.stored {w W : World} {a k v r : Int} {h : ByteArray} {ao : Option Addr} {n cp : Nat} (H : Vst w W a k v r h ao n cp) (v0 v1 v2 v3 v4 : Value) : Only (fun _ => False) w (((((W.setCell ⟨w.heap.size + 1, 0, none⟩ v0).setCell ⟨w.heap.size + 1, 1, none⟩ v1).setCell ⟨w.heap.size + 1, 2, none⟩ v2).setCell ⟨w.heap.size + 1, 3, none⟩ v3).setCell ⟨w.heap.size + 1, 4, none⟩ v4) :=
  H.only.trans (Only.fiveU W (w.heap.size + 1) v0 v1 v2 v3 v4) (fun j hj e => by omega)
set_option maxRecDepth 100000 in
set_option maxHeartbeats 1600000 in
theorem version_any (w : World) (a k v r : Int) (h : ByteArray) (B cp : Nat) (ao : Option Addr) (l : List ByteArray) (i : Int) (hS : Strs w B ao l) :
    Calls Tryz.prog 179 #[pv a k v r h ao l.length cp, .int .i64 i] w fun e w' => e = .returned (outV (verL k l i)) ∧ Only (fun _ => False) w w' := by
  have hlen := hS.len
  have HS := hide hS
  have HV0 := hide (Vst.new w a k v r h ao l.length cp)
  clear hS
  go_enter Tryz.func179, Tryz.ntmps179
  go_wp2_with fail
  refine (isHeap_any _ a k v r h ao l.length cp).mono ?_
  rintro e w1 ⟨rfl, ho1⟩
  have HV := hide (HV0.out.more ho1)
  clear ho1 HV0
  obtain ⟨p0, p1, p2, p3, p4, p5, _⟩ := HV.out.pg
  obtain ⟨t0, t1, t2, t3, t4, g0, g1, g2, g3, g4, _⟩ := HV.out.res
  by_cases hk : k = 2
  · subst hk
    rw [show ((2 : Int) == 2) = true from rfl]
    by_cases h0 : i < 0
    · have HE := hide (verL_low (k := 2) (l := l) h0)
      go_wp2_with fail
      refine bodyPost_ret (results_tub rfl rfl (HV.out.res.all noT)) rfl ?_
      rw [HE.out]
      exact ⟨rfl, HV.out.stored _ _ _ _ _⟩
    · by_cases h1 : i < (l.length : Int)
      · obtain ⟨j, rfl⟩ : ∃ j : Nat, i = (j : Int) := ⟨i.toNat, by omega⟩
        have hj : j < l.length := by omega
        have HE := hide (verL_at hj)
        obtain ⟨o, rfl, hc⟩ := (HS.out.more HV.out.only).at_ (by omega)
        have ck := hc j hj
        have HD : Hid (∀ W, Calls Tryz.prog 189 #[.string l[j]] W fun e w' => e = .returned (outT (decT (bl l[j]))) ∧ Only (fun _ => False) W w') := fun W => udecode_any _ W
        obtain ⟨x, hx⟩ : ∃ x, l[j] = x := ⟨_, rfl⟩
        rw [hx] at ck HE HD
        have h2 : ¬ (l.length : Int) ≤ (j : Int) := by omega
        clear hc hx hj
        cases hd : decT (bl x) with
        | none =>
          rw [hd] at HE HD
          unfold outT noT Tu.agg at HD
          simp only [Option.getD_none, Option.isSome_none] at HD
          clear hd
          go_wp2_with fail
          refine (HD.out _).mono ?_
          rintro e w2 ⟨rfl, ho2⟩
          have HV2 := hide (HV.out.more ho2)
          have HV3 := hide (HV2.out.more (onlyA w2 (.cells #[.int .i64 0, .int .i64 0, .bool false, .string ⟨#[]⟩, .string ⟨#[]⟩] 78)))
          clear ho2 p0 p1 p2 p3 p4 p5 t0 t1 t2 t3 t4 g0 g1 g2 g3 g4
          go_upto_region 4 with fail
          obtain ⟨w3, hw3⟩ : ∃ x, w2.alloc (.cells #[.int .i64 0, .int .i64 0, .bool false, .string ⟨#[]⟩, .string ⟨#[]⟩] 78) = x := ⟨_, rfl⟩
          rw [hw3] at HV3 ⊢
          clear hw3
          obtain ⟨t0, t1, t2, t3, t4, g0, g1, g2, g3, g4, _⟩ := HV3.out.res
          go_wp2_with fail
          refine bodyPost_ret (results_tub rfl rfl (HV3.out.res.all noT)) rfl ?_
          rw [HE.out]
          exact ⟨rfl, HV3.out.stored _ _ _ _ _⟩
        | some t =>
          rw [hd] at HE HD
          unfold outT Tu.agg at HD
          simp only [Option.getD_some, Option.isSome_some] at HD
          clear hd
          go_wp2_with fail
          refine (HD.out _).mono ?_
          rintro e w2 ⟨rfl, ho2⟩
          have HV2 := hide (HV.out.more ho2)
          have HV3 := hide (HV2.out.more (onlyA w2 (.cells #[.int .i64 t.xmin, .int .i64 t.xmax, .bool t.frozen, .string t.key, .string t.value] 78)))
          have HT3 := hide (Tb.new w2 t)
          clear ho2 p0 p1 p2 p3 p4 p5 t0 t1 t2 t3 t4 g0 g1 g2 g3 g4
          go_upto_region 4 with fail
          obtain ⟨w3, hw3⟩ : ∃ x, w2.alloc (.cells #[.int .i64 t.xmin, .int .i64 t.xmax, .bool t.frozen, .string t.key, .string t.value] 78) = x := ⟨_, rfl⟩
          rw [hw3] at HV3 HT3 ⊢
          clear hw3
          obtain ⟨t0, t1, t2, t3, t4, g0, g1, g2, g3, g4, _⟩ := HV3.out.res
          obtain ⟨u0, u1, u2, u3, u4, _⟩ := HT3.out
          go_wp2_with fail
          refine bodyPost_ret (results_tub rfl rfl (HV3.out.res.all t)) rfl ?_
          rw [HE.out]
          exact ⟨rfl, HV3.out.stored _ _ _ _ _⟩
      · have HE := hide (verL_high (k := 2) h1)
        go_wp2_with fail
        refine bodyPost_ret (results_tub rfl rfl (HV.out.res.all noT)) rfl ?_
        rw [HE.out]
        exact ⟨rfl, HV.out.stored _ _ _ _ _⟩
  · have HE := hide (verL_kind (l := l) (i := i) hk)
    rw [show (k == 2) = false from by simpa using hk]
    clear hk
    go_wp2_with fail
    refine bodyPost_ret (results_tub rfl rfl (HV.out.res.all noT)) rfl ?_
    rw [HE.out]
    exact ⟨rfl, HV.out.stored _ _ _ _ _⟩
/-- The version of a key in a slot. -/
def lookL (k : Int) (l : List ByteArray) (i : Int) (key : ByteArray) : Option Tu := match verL k l i with | some t => if t.key = key then some t else none | none => none
def outL (o : Option Tu) : Value := .tuple #[(o.getD noT).agg, .bool o.isSome]
set_option maxRecDepth 100000 in
set_option maxHeartbeats 1600000 in
theorem look_any (w : World) (a k v r : Int) (h : ByteArray) (B cp : Nat) (ao : Option Addr) (l : List ByteArray) (i : Int) (key : ByteArray) (hS : Strs w B ao l) :
    Calls Tryz.prog 162 #[pv a k v r h ao l.length cp, .int .i64 i, .string key] w fun e w' => e = .returned (outL (lookL k l i key)) ∧ Only (fun _ => False) w w' := by
  have HV := hide (Vst.new w a k v r h ao l.length cp)
  have HC := hide (version_any _ a k v r h B cp ao l i (hS.more HV.out.only))
  unfold lookL
  clear hS
  cases hd : verL k l i with
  | none =>
    rw [hd] at HC
    unfold outV noT Tu.agg at HC
    simp only [Option.getD_none, Option.isSome_none] at HC ⊢
    clear hd
    go_enter Tryz.func162, Tryz.ntmps162
    go_wp2_with fail
    refine HC.out.mono ?_
    rintro e w2 ⟨rfl, ho2⟩
    have HV2 := hide (HV.out.more ho2)
    have HV3 := hide (HV2.out.more (onlyA w2 (.cells #[.int .i64 0, .int .i64 0, .bool false, .string ⟨#[]⟩, .string ⟨#[]⟩] 78)))
    clear ho2
    go_upto_region 2 with fail
    obtain ⟨w3, hw3⟩ : ∃ x, w2.alloc (.cells #[.int .i64 0, .int .i64 0, .bool false, .string ⟨#[]⟩, .string ⟨#[]⟩] 78) = x := ⟨_, rfl⟩
    rw [hw3] at HV3 ⊢
    clear hw3
    obtain ⟨t0, t1, t2, t3, t4, g0, g1, g2, g3, g4, _⟩ := HV3.out.res
    go_wp2_with fail
    refine bodyPost_ret (results_tub rfl rfl (HV3.out.res.all noT)) rfl ?_
    exact ⟨rfl, HV3.out.stored _ _ _ _ _⟩
  | some t =>
    rw [hd] at HC
    unfold outV Tu.agg at HC
    simp only [Option.getD_some, Option.isSome_some] at HC ⊢
    clear hd
    obtain ⟨Y, hY⟩ : ∃ Y, (if t.key = key then some t else none) = Y := ⟨_, rfl⟩
    rw [hY]
    have HY := hide hY
    clear hY
    go_enter Tryz.func162, Tryz.ntmps162
    go_wp2_with fail
    refine HC.out.mono ?_
    rintro e w2 ⟨rfl, ho2⟩
    have HV2 := hide (HV.out.more ho2)
    have HV3 := hide (HV2.out.more (onlyA w2 (.cells #[.int .i64 t.xmin, .int .i64 t.xmax, .bool t.frozen, .string t.key, .string t.value] 78)))
    have HT3 := hide (Tb.new w2 t)
    clear ho2
    go_upto_region 2 with fail
    obtain ⟨w3, hw3⟩ : ∃ x, w2.alloc (.cells #[.int .i64 t.xmin, .int .i64 t.xmax, .bool t.frozen, .string t.key, .string t.value] 78) = x := ⟨_, rfl⟩
    rw [hw3] at HV3 HT3 ⊢
    clear hw3
    obtain ⟨t0, t1, t2, t3, t4, g0, g1, g2, g3, g4, _⟩ := HV3.out.res
    obtain ⟨u0, u1, u2, u3, u4, _⟩ := HT3.out
    by_cases hk : t.key = key
    · have HK := hide hk
      have hkb : (!t.key.toList == key.toList) = false := by simp only [ba_eqU hk, Bool.not_true]
      clear hk
      go_wp2_with fail
      refine bodyPost_ret (results_tub rfl rfl (HV3.out.res.all t)) rfl ?_
      rw [← HY.out, if_pos HK.out]
      exact ⟨rfl, HV3.out.stored _ _ _ _ _⟩
    · have HK := hide hk
      have hkb : (!t.key.toList == key.toList) = true := by simp only [ba_neU hk, Bool.not_false]
      clear hk
      go_wp2_with fail
      refine bodyPost_ret (results_tub rfl rfl (HV3.out.res.all noT)) rfl ?_
      rw [← HY.out, if_neg HK.out]
      exact ⟨rfl, HV3.out.stored _ _ _ _ _⟩
theorem ended_ok (w : World) (t : Tu) (own : Int) (h1 : ¬ own < 1) (h2 : ¬ own = t.xmax) (hb0 : -9223372036854775808 ≤ t.xmin ∧ t.xmin < 9223372036854775808) (hb1 : -9223372036854775808 ≤ own ∧ own < 9223372036854775808) :
    Calls Tryz.prog 194 #[t.agg, .int .i64 own] w fun e w' => e = .returned (.tuple #[.string (str (Tu.out ⟨t.xmin, own, t.frozen, t.key, t.value⟩)), .bool (Tu.err ⟨t.xmin, own, t.frozen, t.key, t.value⟩ == 0)]) ∧ Only (fun _ => False) w w' := by
  have HC : Hid (∀ W, Calls Tryz.prog 45 #[.agg #[.int .i64 t.xmin, .int .i64 own, .bool t.frozen, .string t.key, .string t.value]] W fun e w' => e = .returned (.tuple #[.string (str (Tu.out ⟨t.xmin, own, t.frozen, t.key, t.value⟩)), .int .i64 (Tu.err ⟨t.xmin, own, t.frozen, t.key, t.value⟩)]) ∧ Only (fun _ => False) W w') := fun W => uencode_any ⟨t.xmin, own, t.frozen, t.key, t.value⟩ W hb0 hb1
  have h2' : (own == t.xmax) = false := by simpa using h2
  obtain ⟨S, hS⟩ : ∃ S, str (Tu.out ⟨t.xmin, own, t.frozen, t.key, t.value⟩) = S := ⟨_, rfl⟩
  obtain ⟨E, hE⟩ : ∃ E, Tu.err ⟨t.xmin, own, t.frozen, t.key, t.value⟩ = E := ⟨_, rfl⟩
  rw [hS, hE] at HC ⊢
  unfold Tu.agg
  have HO := hide (onlyA w (.cells #[.int .i64 t.xmin, .int .i64 t.xmax, .bool t.frozen, .string t.key, .string t.value] 78))
  have HT := hide ((Tb.new w t).s1 own)
  clear hS hE h2
  go_enter Tryz.func194, Tryz.ntmps194
  go_wp2_with fail
  refine (HC.out _).mono ?_
  rintro e w2 ⟨rfl, ho2⟩
  have HO2 : Hid (Only (fun _ => False) w w2) := o2 (onlyA w _) ho2
  clear ho2
  go_wp2_with fail
  go_ret2
  exact ⟨rfl, HO2.out⟩
end Go.Proofs.YtajjakljheafjaaGreat
