/- Parts. -/
import Derived.Test.YtpnbhddmdfcjdaaGreatK17
import Derived.Test.YtpnbhddmdfcjdaaGreatK24
import Derived.Test.YtpnbhddmdfcjdaaGreatK23
set_option maxRecDepth 100000
namespace Go.Proofs.YtpnbhddmdfcjdaaGreat
open Go.RowKit
set_option maxRecDepth 100000 in
set_option maxHeartbeats 1600000 in
theorem version_of (s : ByteArray) (w : World) (t : Tu) (k : Int) (b : Bool) (hb : (k == 0) = b) (hD : ∀ W, Calls Tryz.prog 53 #[.string s] W fun e w' => e = .returned (.tuple #[t.agg, .int .i64 k]) ∧ Only (fun _ => False) W w') :
    Calls Tryz.prog 22 #[.string s] w fun e w' => e = .returned (.tuple #[t.agg, .bool b]) ∧ Only (fun _ => False) w w' := by
  have HD := hide hD
  have HT0 : Hid (Tb (w.alloc (.cells #[.int .i64 0, .int .i64 0, .bool false, .string ⟨#[]⟩, .string ⟨#[]⟩] 62)) w.heap.size noT) := Tb.new w noT
  have HO0 := hide (onlyA w (.cells #[.int .i64 0, .int .i64 0, .bool false, .string ⟨#[]⟩, .string ⟨#[]⟩] 62))
  have HAG : Hid (t.agg = .agg #[.int .i64 t.xmin, .int .i64 t.xmax, .bool t.frozen, .string t.key, .string t.value]) := rfl
  rw [HAG.out] at HD ⊢
  clear hD
  go_enter Tryz.func22, Tryz.ntmps22
  go_upto_region 1 with fail
  obtain ⟨W0, hW0⟩ : ∃ x, w.alloc (.cells #[.int .i64 0, .int .i64 0, .bool false, .string ⟨#[]⟩, .string ⟨#[]⟩] 62) = x := ⟨_, rfl⟩
  rw [hW0] at HT0 HO0 ⊢
  clear hW0
  go_wp2_with fail
  refine (HD.out _).mono ?_
  rintro e w1 ⟨rfl, ho1⟩
  have HT1 := hide (Tb.new w1 t)
  have HO1 := hide (o2 ho1 (onlyA w1 (.cells #[.int .i64 t.xmin, .int .i64 t.xmax, .bool t.frozen, .string t.key, .string t.value] 62)))
  have HTA := hide (HT0.out.more HO1.out)
  clear ho1
  go_upto_region 2 with fail
  obtain ⟨W1, hW1⟩ : ∃ x, w1.alloc (.cells #[.int .i64 t.xmin, .int .i64 t.xmax, .bool t.frozen, .string t.key, .string t.value] 62) = x := ⟨_, rfl⟩
  rw [hW1] at HT1 HO1 HTA ⊢
  clear hW1
  obtain ⟨c0, c1, c2, c3, c4, f0, f1, f2, f3, f4, fl⟩ := HT1.out
  obtain ⟨d0, d1, d2, d3, d4, g0, g1, g2, g3, g4, gl⟩ := HTA.out
  go_wp2_with fail
  refine bodyPost_ret (results_tub rfl rfl (HTA.out.all t)) rfl ?_
  exact ⟨rfl, (o2 HO0.out HO1.out).trans (Only.fiveU _ _ _ _ _ _ _) (fun i hi e => by omega)⟩
theorem version_any (s : ByteArray) (w : World) : Calls Tryz.prog 22 #[.string s] w fun e w' => e = .returned (.tuple #[((decT (bl s)).getD noT).agg, .bool (decT (bl s)).isSome]) ∧ Only (fun _ => False) w w' := by
  cases hd : decT (bl s) with
  | none =>
    refine version_of s w noT 110 false rfl (fun W => ?_)
    have h := udecode_any s W
    rw [hd] at h
    exact h
  | some t =>
    refine version_of s w t 0 true rfl (fun W => ?_)
    have h := udecode_any s W
    rw [hd] at h
    exact h
set_option maxRecDepth 100000 in
theorem isDead_any (s : ByteArray) (w : World) : Calls Tryz.prog 23 #[.string s] w fun e w' => e = .returned (.bool (stT (bl s) == 2)) ∧ Only (fun _ => False) w w' := by
  have HS := hide (ustate_any s w)
  obtain ⟨z, hz⟩ : ∃ z, stT (bl s) = z := ⟨_, rfl⟩
  rw [hz] at HS ⊢
  clear hz
  go_enter Tryz.func23, Tryz.ntmps23
  go_wp2_with fail
  refine HS.out.mono ?_
  rintro e w1 ⟨rfl, ho1⟩
  go_wp2_with fail
  go_ret
  exact ⟨rfl, ho1⟩
theorem results_cellI {fn : Func} {p : Tmp} {ty : TypeId} (h : fn.results = #[.cell p ty]) {tmps : Array Value} {w : World} {b : Nat} {v : Value} (hp : tmps.getD p undef = .pointer (some ⟨b, 0, none⟩)) (hP : (loadVar ty ⟨b, 0, none⟩).run Tryz.prog w = .ok v w) :
    (results fn tmps).run Tryz.prog w = .ok v w := by
  have e : (asAddr (.pointer (some ⟨b, 0, none⟩))).run Tryz.prog w = .ok ⟨b, 0, none⟩ w := rfl
  have hp' : tmps[p]?.getD undef = .pointer (some ⟨b, 0, none⟩) := by simpa using hp
  simp only [results, h]
  simp [Sem.run_bind, Result.andThen, hp', e, hP]
theorem load_ent3 {w : World} {b : Nat} {k : ByteArray} {p1 s1 : Value} (h0 : w.cell? ⟨b, 0, none⟩ = some (.string k)) (h1 : w.cell? ⟨b, 1, none⟩ = some p1) (h2 : w.cell? ⟨b, 2, none⟩ = some s1) : (loadVar 74 ⟨b, 0, none⟩).run Tryz.prog w = .ok (.agg #[.string k, p1, s1]) w := by simp [loadVar, go_sem, h0, h1, h2]
set_option maxRecDepth 100000 in
set_option maxHeartbeats 1600000 in
theorem entry_any (s : ByteArray) (pg sl : Int) (w : World) : Calls Tryz.prog 25 #[.string s, .int .i64 pg, .int .i64 sl] w fun e w' => e = .returned (.agg #[.string (keyB s), .int .i64 pg, .int .i64 sl]) ∧ Only (fun _ => False) w w' := by
  have HK : Hid (∀ W, ∃ b, Calls Tryz.prog 58 #[.string s] W fun e w' => e = .returned (.tuple #[.string (keyB s), .bool b]) ∧ Only (fun _ => False) W w') := fun W => by
    have h := ukey_any s W
    unfold keyB
    cases hk : keyT (bl s) with
    | none => rw [hk] at h; exact ⟨false, h⟩
    | some k => rw [hk] at h; exact ⟨true, h⟩
  have HO0 := hide (onlyA w (.cells #[.string ⟨#[]⟩, .int .i64 0, .int .i64 0] 74))
  obtain ⟨k, hk⟩ : ∃ k, keyB s = k := ⟨_, rfl⟩
  rw [hk] at HK ⊢
  clear hk
  go_enter Tryz.func25, Tryz.ntmps25
  go_upto_region 1 with fail
  have c0 : (w.alloc (.cells #[.string ⟨#[]⟩, .int .i64 0, .int .i64 0] 74)).cell? ⟨w.heap.size, 0, none⟩ = some (.string ⟨#[]⟩) := by simp
  have c1 : (w.alloc (.cells #[.string ⟨#[]⟩, .int .i64 0, .int .i64 0] 74)).cell? ⟨w.heap.size, 1, none⟩ = some (.int .i64 0) := by simp
  have c2 : (w.alloc (.cells #[.string ⟨#[]⟩, .int .i64 0, .int .i64 0] 74)).cell? ⟨w.heap.size, 2, none⟩ = some (.int .i64 0) := by simp
  have f0 : (w.alloc (.cells #[.string ⟨#[]⟩, .int .i64 0, .int .i64 0] 74)).frozen? ⟨w.heap.size, 0, none⟩ = false := by simp
  have f1 : (w.alloc (.cells #[.string ⟨#[]⟩, .int .i64 0, .int .i64 0] 74)).frozen? ⟨w.heap.size, 1, none⟩ = false := by simp
  have f2 : (w.alloc (.cells #[.string ⟨#[]⟩, .int .i64 0, .int .i64 0] 74)).frozen? ⟨w.heap.size, 2, none⟩ = false := by simp
  have fl : w.heap.size < (w.alloc (.cells #[.string ⟨#[]⟩, .int .i64 0, .int .i64 0] 74)).heap.size := by simp
  obtain ⟨W0, hW0⟩ : ∃ x, w.alloc (.cells #[.string ⟨#[]⟩, .int .i64 0, .int .i64 0] 74) = x := ⟨_, rfl⟩
  rw [hW0] at HO0 c0 c1 c2 f0 f1 f2 fl ⊢
  clear hW0
  obtain ⟨bk, HKC⟩ := HK.out W0
  have HKH := hide HKC
  clear HKC HK
  have HC : Hid ((W0.cell? ⟨w.heap.size, 0, none⟩ = some (.string ⟨#[]⟩) ∧ W0.cell? ⟨w.heap.size, 1, none⟩ = some (.int .i64 0) ∧ W0.cell? ⟨w.heap.size, 2, none⟩ = some (.int .i64 0)) ∧ (W0.frozen? ⟨w.heap.size, 0, none⟩ = false ∧ W0.frozen? ⟨w.heap.size, 1, none⟩ = false ∧ W0.frozen? ⟨w.heap.size, 2, none⟩ = false) ∧ w.heap.size < W0.heap.size) := ⟨⟨c0, c1, c2⟩, ⟨f0, f1, f2⟩, fl⟩
  clear c0 c1 c2 f0 f1 f2 fl
  obtain ⟨b, hb⟩ : ∃ b, w.heap.size = b := ⟨_, rfl⟩
  have HBW : Hid (w.heap.size = b) := hb
  rw [hb] at HC ⊢
  clear hb
  go_wp2_with fail
  refine HKH.out.mono ?_
  rintro e w1 ⟨rfl, ho1⟩
  have fl := HC.out.2.2
  have c0 := (ho1.cell (p := ⟨b, 0, none⟩) fl id).trans HC.out.1.1
  have c1 := (ho1.cell (p := ⟨b, 1, none⟩) fl id).trans HC.out.1.2.1
  have c2 := (ho1.cell (p := ⟨b, 2, none⟩) fl id).trans HC.out.1.2.2
  have f0 := (ho1.frozen (p := ⟨b, 0, none⟩) fl id).trans HC.out.2.1.1
  have f1 := (ho1.frozen (p := ⟨b, 1, none⟩) fl id).trans HC.out.2.1.2.1
  have f2 := (ho1.frozen (p := ⟨b, 2, none⟩) fl id).trans HC.out.2.1.2.2
  have HO1 := hide (o2 HO0.out ho1)
  clear ho1
  go_wp2_with fail
  refine bodyPost_ret (results_cellI rfl rfl (load_ent3 (k := k) (p1 := .int .i64 pg) (s1 := .int .i64 sl) ?_ ?_ ?_)) rfl ?_
  · exact othU _ _ _ _ _ _ (by omega) (othU _ _ _ _ _ _ (by omega) (World.cell?_setCell_same _ _ _ c0))
  · exact othU _ _ _ _ _ _ (by omega) (World.cell?_setCell_same _ _ _ (othU _ _ _ _ _ _ (by omega) c1))
  · exact World.cell?_setCell_same _ _ _ (othU _ _ _ _ _ _ (by omega) (othU _ _ _ _ _ _ (by omega) c2))
  · have hbw := HBW.out
    have st : ∀ (W : World) (i : Nat) (v : Value), Only (fun k => k = b) W (W.setCell ⟨b, i, none⟩ v) := fun W i v => Only.setCell W ⟨b, i, none⟩ v rfl
    exact ⟨rfl, HO1.out.trans (((st _ 0 _).trans (st _ 1 _) (fun _ _ h => h)).trans (st _ 2 _) (fun _ _ h => h)) (fun i hi e => by omega)⟩
set_option maxRecDepth 100000 in
set_option maxHeartbeats 1600000 in
theorem with_any (w : World) (base : Nat) (ao : Option Addr) (cp : Nat) (L : List Int) (i : Int) (b : Bool) (h : IRw w base (.slice ao L.length cp) L) (hn : L.length + 1 ≤ 4398046511104) (hb : base ≤ w.heap.size) :
    Calls Tryz.prog 26 #[.slice ao L.length cp, .int .i64 i, .bool b] w fun e w' => ∃ v', e = .returned v' ∧ IRw w' base v' (if b = true then L ++ [i] else L) ∧ Only (fun k => some k = (Value.slice ao L.length cp).ownBlock) w w' ∧ (v'.ownBlock = (Value.slice ao L.length cp).ownBlock ∨ ∃ k, v'.ownBlock = some k ∧ w.heap.size ≤ k) := by
  have HR := hide h
  obtain ⟨n, hnn⟩ : ∃ n, L.length = n := ⟨_, rfl⟩
  cases b with
  | false =>
    rw [hnn] at HR ⊢
    clear h hnn
    go_enter Tryz.func26, Tryz.ntmps26
    go_wp2_with fail
    go_ret
    exact ⟨_, rfl, HR.out, Only.refl _ _, .inl rfl⟩
  | true =>
    obtain ⟨v', w', hr, hg, ho, hob⟩ := irw_one h i hn hb 25 1
    have HRA := hide hr
    have HG := hide hg
    have HO := hide ho
    have HOB := hide hob
    rw [hnn] at HR HRA HO HOB ⊢
    clear h hnn hr hg ho hob
    go_enter Tryz.func26, Tryz.ntmps26
    go_upto_region 3 with fail
    go_wp2_with (at_builtin; go_must (refine Lib.wpList_append_run _ rfl _ _ _ _ rfl _ _ rfl rfl _ _ HRA.out ?_))
    go_ret
    exact ⟨_, rfl, HG.out, HO.out, HOB.out⟩
end Go.Proofs.YtpnbhddmdfcjdaaGreat
