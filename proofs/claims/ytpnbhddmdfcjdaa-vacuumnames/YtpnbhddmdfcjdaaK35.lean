/- Parts. -/
import Derived.Test.YtpnbhddmdfcjdaaK26
import Derived.Test.YtpnbhddmdfcjdaaK32
import Derived.Test.YtpnbhddmdfcjdaaK33
import Derived.Test.YtpnbhddmdfcjdaaK34
import Derived.Deep.RegionHeld3
import Derived.Deep.Draws
set_option maxRecDepth 100000
namespace Go.Proofs.Ytpnbhddmdfcjdaa
open Go.RowKit
/-- A version as a view takes it. -/
def Tu.tp (t : Tu) : Tp := ⟨t.xmin, t.xmax, t.frozen, t.key, t.value⟩
/-- An item's key, if it has one. -/
def keyB (s : ByteArray) : ByteArray := (keyT (bl s)).getD ⟨#[]⟩
/-- Is it gone? -/
noncomputable def gnS (V : Vw) (h : Int) (s : ByteArray) : Bool := stT (bl s) == 2 || (match decT (bl s) with | some t => vgone V t.tp h | none => false)
/-- Is it frozen? (Of what is not gone.) -/
noncomputable def fzS (V : Vw) (h : Int) (s : ByteArray) : Bool := match decT (bl s) with | some t => vold V t.tp h | none => false
/-- Is its end taken off? -/
noncomputable def ofS (V : Vw) (s : ByteArray) : Bool := match decT (bl s) with | some t => voff V t.tp | none => false
structure Wk where
  fr : List Int
  of : List Int
  gn : List En
noncomputable def Wk.step (V : Vw) (h pg : Int) (K : Wk) (i : Nat) (s : ByteArray) : Wk :=
  if gnS V h s = true then ⟨K.fr, K.of, K.gn ++ [⟨keyB s, pg, i⟩]⟩
  else ⟨if fzS V h s = true then K.fr ++ [(i : Int)] else K.fr, if ofS V s = true then K.of ++ [(i : Int)] else K.of, K.gn⟩
/-- Of the first so many items. -/
noncomputable def wkN (V : Vw) (h pg : Int) (l : List ByteArray) : Nat → Wk
  | 0 => ⟨[], [], []⟩
  | k + 1 => if hk : k < l.length then (wkN V h pg l k).step V h pg k l[k] else wkN V h pg l k
theorem wkN_step {V : Vw} {h pg : Int} {l : List ByteArray} {k : Nat} (hk : k < l.length) : wkN V h pg l (k + 1) = (wkN V h pg l k).step V h pg k l[k] := by
  rw [wkN, dif_pos hk]
theorem wkN_len (V : Vw) (h pg : Int) (l : List ByteArray) (k : Nat) : (wkN V h pg l k).fr.length ≤ k ∧ (wkN V h pg l k).of.length ≤ k ∧ (wkN V h pg l k).gn.length ≤ k := by
  induction k with
  | zero => exact ⟨Nat.le_refl _, Nat.le_refl _, Nat.le_refl _⟩
  | succ k ih =>
    by_cases hk : k < l.length
    · rw [wkN_step hk]
      unfold Wk.step
      obtain ⟨h1, h2, h3⟩ := ih
      by_cases hg : gnS V h l[k] = true
      · rw [if_pos hg]
        refine ⟨Nat.le_succ_of_le h1, Nat.le_succ_of_le h2, ?_⟩
        rw [List.length_append]; simp; exact h3
      · rw [if_neg hg]
        refine ⟨?_, ?_, Nat.le_succ_of_le h3⟩
        · show (if _ then _ else _ : List Int).length ≤ _
          split
          · rw [List.length_append]; simp; exact h1
          · omega
        · show (if _ then _ else _ : List Int).length ≤ _
          split
          · rw [List.length_append]; simp; exact h2
          · omega
    · rw [wkN, dif_neg hk]
      omega
/-- Numbers, entries: their cells. -/
def EIi : Lyt Int := ⟨1, fun x => [.int .i64 x], fun _ => rfl, fun x u hu => by simp at hu; rcases hu with rfl; rfl⟩
def EEn : Lyt En := ⟨3, fun e => [.string e.key, .int .i64 e.page, .int .i64 e.slot], fun _ => rfl, fun x u hu => by simp at hu; rcases hu with rfl | rfl | rfl <;> rfl⟩
theorem Try.infoIntI : (Try.prog.info? 3).map (fun i => (i.zero, i.size, i.bytes)) = some (some (.int .i64 0), 1, 8) := by kernel_rfl
theorem Try.infoEntI : (Try.prog.info? 42).map (fun i => (i.zero, i.size, i.bytes)) = some (some (.agg #[.string ⟨#[]⟩, .int .i64 0, .int .i64 0]), 3, 32) := by kernel_rfl
abbrev IRw (w : World) (base : Nat) (v : Value) (L : List Int) : Prop := GRow EIi 3 w base v L
abbrev ERows (w : World) (base : Nat) (v : Value) (L : List En) : Prop := GRow EEn 42 w base v L
theorem irw_one {w : World} {base : Nat} {v : Value} {L : List Int} (h : IRw w base v L) (x : Int) (hn : L.length + 1 ≤ 4398046511104) (hb : base ≤ w.heap.size) (tr : TypeId) (c : Nat) :
    ∃ v' w', (Builtin.append_ #[25, 25] tr #[v, .slice (some ⟨w.heap.size, 0, none⟩) 1 c]).run Try.prog (w.alloc (.cells #[.int .i64 x] 3)) = .ok v' w' ∧ IRw w' base v' (L ++ [x]) ∧ Only (fun i => some i = v.ownBlock) w w' ∧ (v'.ownBlock = v.ownBlock ∨ ∃ k, v'.ownBlock = some k ∧ w.heap.size ≤ k) :=
  grow_one Try.underlying25 Try.infoIntI rfl h x (by omega) (by unfold maxLen; omega) hb tr c
theorem erw_one {w : World} {base : Nat} {v : Value} {L : List En} (h : ERows w base v L) (x : En) (hn : L.length + 1 ≤ 4398046511104) (hb : base ≤ w.heap.size) (tr : TypeId) (c : Nat) :
    ∃ v' w', (Builtin.append_ #[37, 37] tr #[v, .slice (some ⟨w.heap.size, 0, none⟩) 1 c]).run Try.prog (w.alloc (.cells #[.string x.key, .int .i64 x.page, .int .i64 x.slot] 42)) = .ok v' w' ∧ ERows w' base v' (L ++ [x]) ∧ Only (fun i => some i = v.ownBlock) w w' ∧ (v'.ownBlock = v.ownBlock ∨ ∃ k, v'.ownBlock = some k ∧ w.heap.size ≤ k) :=
  grow_one Try.underlying37 Try.infoEntI rfl h x (by omega) (by unfold maxLen; omega) hb tr c
/-- What is found, in memory: three rows, no block of which is another one's. -/
structure WkAt (w : World) (base : Nat) (v0 v1 v2 : Value) (K : Wk) : Prop where
  fr : IRw w base v0 K.fr
  of : IRw w base v1 K.of
  gn : ERows w base v2 K.gn
  n01 : ∀ k, v0.ownBlock = some k → ¬ v1.ownBlock = some k
  n02 : ∀ k, v0.ownBlock = some k → ¬ v2.ownBlock = some k
  n12 : ∀ k, v1.ownBlock = some k → ¬ v2.ownBlock = some k
theorem WkAt.kept {S : Nat → Prop} {w w' : World} {base : Nat} {v0 v1 v2 : Value} {K : Wk} (h : WkAt w base v0 v1 v2 K) (ho : Only S w w') (hS : ∀ k, base ≤ k → ¬ S k) : WkAt w' base v0 v1 v2 K :=
  ⟨h.fr.kept ho (fun k hk => hS k (h.fr.low k hk).1), h.of.kept ho (fun k hk => hS k (h.of.low k hk).1), h.gn.kept ho (fun k hk => hS k (h.gn.low k hk).1), h.n01, h.n02, h.n12⟩
theorem WkAt.more {w w' : World} {base : Nat} {v0 v1 v2 : Value} {K : Wk} (h : WkAt w base v0 v1 v2 K) (ho : Only (fun _ => False) w w') : WkAt w' base v0 v1 v2 K := h.kept ho (fun _ _ => id)
theorem WkAt.nil (w : World) (base : Nat) : WkAt w base (.slice none 0 0) (.slice none 0 0) (.slice none 0 0) ⟨[], [], []⟩ :=
  by
  refine ⟨GRow.nil _ _, GRow.nil _ _, GRow.nil _ _, ?_, ?_, ?_⟩ <;> exact fun _ h => by cases h
theorem own_ne {v v' u : Value} {n : Nat} (hn : ∀ k, v.ownBlock = some k → ¬ u.ownBlock = some k) (hu : ∀ k, u.ownBlock = some k → k < n) (h : v'.ownBlock = v.ownBlock ∨ ∃ k, v'.ownBlock = some k ∧ n ≤ k) : ∀ k, v'.ownBlock = some k → ¬ u.ownBlock = some k := fun k hk hk2 => by
  rcases h with h | ⟨j, h, hj⟩
  · exact hn k (h ▸ hk) hk2
  · rw [h] at hk
    injection hk with hk
    have := hu k hk2
    omega
/-- A row has grown, or stands as it was. -/
theorem WkAt.setFr {w w' : World} {base : Nat} {v0 v1 v2 v0' : Value} {K : Wk} {L : List Int} (h : WkAt w base v0 v1 v2 K) (hr : IRw w' base v0' L) (ho : Only (fun i => some i = v0.ownBlock) w w') (hb : v0'.ownBlock = v0.ownBlock ∨ ∃ k, v0'.ownBlock = some k ∧ w.heap.size ≤ k) : WkAt w' base v0' v1 v2 ⟨L, K.of, K.gn⟩ :=
  ⟨hr, h.of.kept ho (fun k hk e => h.n01 k e.symm hk), h.gn.kept ho (fun k hk e => h.n02 k e.symm hk), own_ne h.n01 (fun k hk => (h.of.low k hk).2) hb, own_ne h.n02 (fun k hk => (h.gn.low k hk).2) hb, h.n12⟩
theorem WkAt.setOf {w w' : World} {base : Nat} {v0 v1 v2 v1' : Value} {K : Wk} {L : List Int} (h : WkAt w base v0 v1 v2 K) (hr : IRw w' base v1' L) (ho : Only (fun i => some i = v1.ownBlock) w w') (hb : v1'.ownBlock = v1.ownBlock ∨ ∃ k, v1'.ownBlock = some k ∧ w.heap.size ≤ k) : WkAt w' base v0 v1' v2 ⟨K.fr, L, K.gn⟩ :=
  ⟨h.fr.kept ho (fun k hk e => h.n01 k hk e.symm), hr, h.gn.kept ho (fun k hk e => h.n12 k e.symm hk), fun k hk hk2 => own_ne (fun k hk hk2 => h.n01 k hk2 hk) (fun k hk => (h.fr.low k hk).2) hb k hk2 hk, h.n02, own_ne h.n12 (fun k hk => (h.gn.low k hk).2) hb⟩
theorem WkAt.setGn {w w' : World} {base : Nat} {v0 v1 v2 v2' : Value} {K : Wk} {L : List En} (h : WkAt w base v0 v1 v2 K) (hr : ERows w' base v2' L) (ho : Only (fun i => some i = v2.ownBlock) w w') (hb : v2'.ownBlock = v2.ownBlock ∨ ∃ k, v2'.ownBlock = some k ∧ w.heap.size ≤ k) : WkAt w' base v0 v1 v2' ⟨K.fr, K.of, L⟩ :=
  ⟨h.fr.kept ho (fun k hk e => h.n02 k hk e.symm), h.of.kept ho (fun k hk e => h.n12 k hk e.symm), hr, h.n01, fun k hk hk2 => own_ne (fun k hk hk2 => h.n02 k hk2 hk) (fun k hk => (h.fr.low k hk).2) hb k hk2 hk, fun k hk hk2 => own_ne (fun k hk hk2 => h.n12 k hk2 hk) (fun k hk => (h.of.low k hk).2) hb k hk2 hk⟩
set_option maxRecDepth 100000 in
set_option maxHeartbeats 1600000 in
theorem version_of (s : ByteArray) (w : World) (t : Tu) (k : Int) (b : Bool) (hb : (k == 0) = b) (hD : ∀ W, Calls Try.prog 22 #[.string s] W fun e w' => e = .returned (.tuple #[t.agg, .int .i64 k]) ∧ Only (fun _ => False) W w') :
    Calls Try.prog 15 #[.string s] w fun e w' => e = .returned (.tuple #[t.agg, .bool b]) ∧ Only (fun _ => False) w w' := by
  have HD := hide hD
  have HT0 : Hid (Tb (w.alloc (.cells #[.int .i64 0, .int .i64 0, .bool false, .string ⟨#[]⟩, .string ⟨#[]⟩] 57)) w.heap.size noT) := Tb.new w noT
  have HO0 := hide (onlyA w (.cells #[.int .i64 0, .int .i64 0, .bool false, .string ⟨#[]⟩, .string ⟨#[]⟩] 57))
  have HAG : Hid (t.agg = .agg #[.int .i64 t.xmin, .int .i64 t.xmax, .bool t.frozen, .string t.key, .string t.value]) := rfl
  rw [HAG.out] at HD ⊢
  clear hD
  go_enter Try.func15, Try.ntmps15
  go_upto_region 1 with fail
  obtain ⟨W0, hW0⟩ : ∃ x, w.alloc (.cells #[.int .i64 0, .int .i64 0, .bool false, .string ⟨#[]⟩, .string ⟨#[]⟩] 57) = x := ⟨_, rfl⟩
  rw [hW0] at HT0 HO0 ⊢
  clear hW0
  go_wp2_with fail
  refine (HD.out _).mono ?_
  rintro e w1 ⟨rfl, ho1⟩
  have HT1 := hide (Tb.new w1 t)
  have HO1 := hide (o2 ho1 (onlyA w1 (.cells #[.int .i64 t.xmin, .int .i64 t.xmax, .bool t.frozen, .string t.key, .string t.value] 57)))
  have HTA := hide (HT0.out.more HO1.out)
  clear ho1
  go_upto_region 2 with fail
  obtain ⟨W1, hW1⟩ : ∃ x, w1.alloc (.cells #[.int .i64 t.xmin, .int .i64 t.xmax, .bool t.frozen, .string t.key, .string t.value] 57) = x := ⟨_, rfl⟩
  rw [hW1] at HT1 HO1 HTA ⊢
  clear hW1
  obtain ⟨c0, c1, c2, c3, c4, f0, f1, f2, f3, f4, fl⟩ := HT1.out
  obtain ⟨d0, d1, d2, d3, d4, g0, g1, g2, g3, g4, gl⟩ := HTA.out
  go_wp2_with fail
  refine bodyPost_ret (results_tub rfl rfl (HTA.out.all t)) rfl ?_
  exact ⟨rfl, (o2 HO0.out HO1.out).trans (Only.fiveU _ _ _ _ _ _ _) (fun i hi e => by omega)⟩
theorem version_any (s : ByteArray) (w : World) : Calls Try.prog 15 #[.string s] w fun e w' => e = .returned (.tuple #[((decT (bl s)).getD noT).agg, .bool (decT (bl s)).isSome]) ∧ Only (fun _ => False) w w' := by
  cases hd : decT (bl s) with
  | none =>
    refine version_of s w noT 110 false rfl (fun W => ?_)
    have h := udecode_any s W
    rw [hd] at h
    exact h
  | some t =>
    refine version_of s w t 0 true rfl (fun W => ?_)
    have h := udecode_any s W
    rw [hd] at h
    exact h
set_option maxRecDepth 100000 in
theorem isDead_any (s : ByteArray) (w : World) : Calls Try.prog 16 #[.string s] w fun e w' => e = .returned (.bool (stT (bl s) == 2)) ∧ Only (fun _ => False) w w' := by
  have HS := hide (ustate_any s w)
  obtain ⟨z, hz⟩ : ∃ z, stT (bl s) = z := ⟨_, rfl⟩
  rw [hz] at HS ⊢
  clear hz
  go_enter Try.func16, Try.ntmps16
  go_wp2_with fail
  refine HS.out.mono ?_
  rintro e w1 ⟨rfl, ho1⟩
  go_wp2_with fail
  go_ret
  exact ⟨rfl, ho1⟩
theorem results_cellI {fn : Func} {p : Tmp} {ty : TypeId} (h : fn.results = #[.cell p ty]) {tmps : Array Value} {w : World} {b : Nat} {v : Value} (hp : tmps.getD p undef = .pointer (some ⟨b, 0, none⟩)) (hP : (loadVar ty ⟨b, 0, none⟩).run Try.prog w = .ok v w) :
    (results fn tmps).run Try.prog w = .ok v w := by
  have e : (asAddr (.pointer (some ⟨b, 0, none⟩))).run Try.prog w = .ok ⟨b, 0, none⟩ w := rfl
  have hp' : tmps[p]?.getD undef = .pointer (some ⟨b, 0, none⟩) := by simpa using hp
  simp only [results, h]
  simp [Sem.run_bind, Result.andThen, hp', e, hP]
theorem load_ent3 {w : World} {b : Nat} {k : ByteArray} {p1 s1 : Value} (h0 : w.cell? ⟨b, 0, none⟩ = some (.string k)) (h1 : w.cell? ⟨b, 1, none⟩ = some p1) (h2 : w.cell? ⟨b, 2, none⟩ = some s1) : (loadVar 42 ⟨b, 0, none⟩).run Try.prog w = .ok (.agg #[.string k, p1, s1]) w := by simp [loadVar, go_sem, h0, h1, h2]
set_option maxRecDepth 100000 in
set_option maxHeartbeats 1600000 in
theorem entry_any (s : ByteArray) (pg sl : Int) (w : World) : Calls Try.prog 18 #[.string s, .int .i64 pg, .int .i64 sl] w fun e w' => e = .returned (.agg #[.string (keyB s), .int .i64 pg, .int .i64 sl]) ∧ Only (fun _ => False) w w' := by
  have HK : Hid (∀ W, ∃ b, Calls Try.prog 7 #[.string s] W fun e w' => e = .returned (.tuple #[.string (keyB s), .bool b]) ∧ Only (fun _ => False) W w') := fun W => by
    have h := ukey_any s W
    unfold keyB
    cases hk : keyT (bl s) with
    | none => rw [hk] at h; exact ⟨false, h⟩
    | some k => rw [hk] at h; exact ⟨true, h⟩
  have HO0 := hide (onlyA w (.cells #[.string ⟨#[]⟩, .int .i64 0, .int .i64 0] 42))
  obtain ⟨k, hk⟩ : ∃ k, keyB s = k := ⟨_, rfl⟩
  rw [hk] at HK ⊢
  clear hk
  go_enter Try.func18, Try.ntmps18
  go_upto_region 1 with fail
  have c0 : (w.alloc (.cells #[.string ⟨#[]⟩, .int .i64 0, .int .i64 0] 42)).cell? ⟨w.heap.size, 0, none⟩ = some (.string ⟨#[]⟩) := by simp
  have c1 : (w.alloc (.cells #[.string ⟨#[]⟩, .int .i64 0, .int .i64 0] 42)).cell? ⟨w.heap.size, 1, none⟩ = some (.int .i64 0) := by simp
  have c2 : (w.alloc (.cells #[.string ⟨#[]⟩, .int .i64 0, .int .i64 0] 42)).cell? ⟨w.heap.size, 2, none⟩ = some (.int .i64 0) := by simp
  have f0 : (w.alloc (.cells #[.string ⟨#[]⟩, .int .i64 0, .int .i64 0] 42)).frozen? ⟨w.heap.size, 0, none⟩ = false := by simp
  have f1 : (w.alloc (.cells #[.string ⟨#[]⟩, .int .i64 0, .int .i64 0] 42)).frozen? ⟨w.heap.size, 1, none⟩ = false := by simp
  have f2 : (w.alloc (.cells #[.string ⟨#[]⟩, .int .i64 0, .int .i64 0] 42)).frozen? ⟨w.heap.size, 2, none⟩ = false := by simp
  have fl : w.heap.size < (w.alloc (.cells #[.string ⟨#[]⟩, .int .i64 0, .int .i64 0] 42)).heap.size := by simp
  obtain ⟨W0, hW0⟩ : ∃ x, w.alloc (.cells #[.string ⟨#[]⟩, .int .i64 0, .int .i64 0] 42) = x := ⟨_, rfl⟩
  rw [hW0] at HO0 c0 c1 c2 f0 f1 f2 fl ⊢
  clear hW0
  obtain ⟨bk, HKC⟩ := HK.out W0
  have HKH := hide HKC
  clear HKC HK
  have HC : Hid ((W0.cell? ⟨w.heap.size, 0, none⟩ = some (.string ⟨#[]⟩) ∧ W0.cell? ⟨w.heap.size, 1, none⟩ = some (.int .i64 0) ∧ W0.cell? ⟨w.heap.size, 2, none⟩ = some (.int .i64 0)) ∧ (W0.frozen? ⟨w.heap.size, 0, none⟩ = false ∧ W0.frozen? ⟨w.heap.size, 1, none⟩ = false ∧ W0.frozen? ⟨w.heap.size, 2, none⟩ = false) ∧ w.heap.size < W0.heap.size) := ⟨⟨c0, c1, c2⟩, ⟨f0, f1, f2⟩, fl⟩
  clear c0 c1 c2 f0 f1 f2 fl
  obtain ⟨b, hb⟩ : ∃ b, w.heap.size = b := ⟨_, rfl⟩
  have HBW : Hid (w.heap.size = b) := hb
  rw [hb] at HC ⊢
  clear hb
  go_wp2_with fail
  refine HKH.out.mono ?_
  rintro e w1 ⟨rfl, ho1⟩
  have fl := HC.out.2.2
  have c0 := (ho1.cell (p := ⟨b, 0, none⟩) fl id).trans HC.out.1.1
  have c1 := (ho1.cell (p := ⟨b, 1, none⟩) fl id).trans HC.out.1.2.1
  have c2 := (ho1.cell (p := ⟨b, 2, none⟩) fl id).trans HC.out.1.2.2
  have f0 := (ho1.frozen (p := ⟨b, 0, none⟩) fl id).trans HC.out.2.1.1
  have f1 := (ho1.frozen (p := ⟨b, 1, none⟩) fl id).trans HC.out.2.1.2.1
  have f2 := (ho1.frozen (p := ⟨b, 2, none⟩) fl id).trans HC.out.2.1.2.2
  have HO1 := hide (o2 HO0.out ho1)
  clear ho1
  go_wp2_with fail
  refine bodyPost_ret (results_cellI rfl rfl (load_ent3 (k := k) (p1 := .int .i64 pg) (s1 := .int .i64 sl) ?_ ?_ ?_)) rfl ?_
  · exact othU _ _ _ _ _ _ (by omega) (othU _ _ _ _ _ _ (by omega) (World.cell?_setCell_same _ _ _ c0))
  · exact othU _ _ _ _ _ _ (by omega) (World.cell?_setCell_same _ _ _ (othU _ _ _ _ _ _ (by omega) c1))
  · exact World.cell?_setCell_same _ _ _ (othU _ _ _ _ _ _ (by omega) (othU _ _ _ _ _ _ (by omega) c2))
  · have hbw := HBW.out
    have st : ∀ (W : World) (i : Nat) (v : Value), Only (fun k => k = b) W (W.setCell ⟨b, i, none⟩ v) := fun W i v => Only.setCell W ⟨b, i, none⟩ v rfl
    exact ⟨rfl, HO1.out.trans (((st _ 0 _).trans (st _ 1 _) (fun _ _ h => h)).trans (st _ 2 _) (fun _ _ h => h)) (fun i hi e => by omega)⟩
set_option maxRecDepth 100000 in
set_option maxHeartbeats 1600000 in
theorem with_any (w : World) (base : Nat) (ao : Option Addr) (cp : Nat) (L : List Int) (i : Int) (b : Bool) (h : IRw w base (.slice ao L.length cp) L) (hn : L.length + 1 ≤ 4398046511104) (hb : base ≤ w.heap.size) :
    Calls Try.prog 19 #[.slice ao L.length cp, .int .i64 i, .bool b] w fun e w' => ∃ v', e = .returned v' ∧ IRw w' base v' (if b = true then L ++ [i] else L) ∧ Only (fun k => some k = (Value.slice ao L.length cp).ownBlock) w w' ∧ (v'.ownBlock = (Value.slice ao L.length cp).ownBlock ∨ ∃ k, v'.ownBlock = some k ∧ w.heap.size ≤ k) := by
  have HR := hide h
  obtain ⟨n, hnn⟩ : ∃ n, L.length = n := ⟨_, rfl⟩
  cases b with
  | false =>
    rw [hnn] at HR ⊢
    clear h hnn
    go_enter Try.func19, Try.ntmps19
    go_wp2_with fail
    go_ret
    exact ⟨_, rfl, HR.out, Only.refl _ _, .inl rfl⟩
  | true =>
    obtain ⟨v', w', hr, hg, ho, hob⟩ := irw_one h i hn hb 25 1
    have HRA := hide hr
    have HG := hide hg
    have HO := hide ho
    have HOB := hide hob
    rw [hnn] at HR HRA HO HOB ⊢
    clear h hnn hr hg ho hob
    go_enter Try.func19, Try.ntmps19
    go_upto_region 3 with fail
    go_wp2_with (at_builtin; go_must (refine Lib.wpList_append_run _ rfl _ _ _ _ rfl _ _ rfl rfl _ _ HRA.out ?_))
    go_ret
    exact ⟨_, rfl, HG.out, HO.out, HOB.out⟩
/-- Three cells of a variable in block b. -/
structure WB (w : World) (b : Nat) (v0 v1 v2 : Value) : Prop where
  c0 : w.cell? ⟨b, 0, none⟩ = some v0
  c1 : w.cell? ⟨b, 1, none⟩ = some v1
  c2 : w.cell? ⟨b, 2, none⟩ = some v2
  f0 : w.frozen? ⟨b, 0, none⟩ = false
  f1 : w.frozen? ⟨b, 1, none⟩ = false
  f2 : w.frozen? ⟨b, 2, none⟩ = false
  lt : b < w.heap.size
theorem WB.kept {S : Nat → Prop} {w w' : World} {b : Nat} {v0 v1 v2 : Value} (h : WB w b v0 v1 v2) (ho : Only S w w') (hS : ¬ S b) : WB w' b v0 v1 v2 :=
  ⟨(ho.cell (p := ⟨b, 0, none⟩) h.lt hS).trans h.c0, (ho.cell (p := ⟨b, 1, none⟩) h.lt hS).trans h.c1, (ho.cell (p := ⟨b, 2, none⟩) h.lt hS).trans h.c2,
   (ho.frozen (p := ⟨b, 0, none⟩) h.lt hS).trans h.f0, (ho.frozen (p := ⟨b, 1, none⟩) h.lt hS).trans h.f1, (ho.frozen (p := ⟨b, 2, none⟩) h.lt hS).trans h.f2, Nat.lt_of_lt_of_le h.lt ho.size⟩
theorem WB.more {w w' : World} {b : Nat} {v0 v1 v2 : Value} (h : WB w b v0 v1 v2) (ho : Only (fun _ => False) w w') : WB w' b v0 v1 v2 := h.kept ho (fun h => h)
theorem WB.new (w : World) (t : TypeId) (v0 v1 v2 : Value) : WB (w.alloc (.cells #[v0, v1, v2] t)) w.heap.size v0 v1 v2 := ⟨by simp, by simp, by simp, by simp, by simp, by simp, by simp⟩
theorem WB.s0 {w : World} {b : Nat} {v0 v1 v2 : Value} (h : WB w b v0 v1 v2) (u : Value) : WB (w.setCell ⟨b, 0, none⟩ u) b u v1 v2 :=
  ⟨World.cell?_setCell_same _ _ _ h.c0, othU _ _ _ _ _ _ (by omega) h.c1, othU _ _ _ _ _ _ (by omega) h.c2, by simpa using h.f0, by simpa using h.f1, by simpa using h.f2, by simpa using h.lt⟩
theorem WB.s1 {w : World} {b : Nat} {v0 v1 v2 : Value} (h : WB w b v0 v1 v2) (u : Value) : WB (w.setCell ⟨b, 1, none⟩ u) b v0 u v2 :=
  ⟨othU _ _ _ _ _ _ (by omega) h.c0, World.cell?_setCell_same _ _ _ h.c1, othU _ _ _ _ _ _ (by omega) h.c2, by simpa using h.f0, by simpa using h.f1, by simpa using h.f2, by simpa using h.lt⟩
theorem WB.s2 {w : World} {b : Nat} {v0 v1 v2 : Value} (h : WB w b v0 v1 v2) (u : Value) : WB (w.setCell ⟨b, 2, none⟩ u) b v0 v1 u :=
  ⟨othU _ _ _ _ _ _ (by omega) h.c0, othU _ _ _ _ _ _ (by omega) h.c1, World.cell?_setCell_same _ _ _ h.c2, by simpa using h.f0, by simpa using h.f1, by simpa using h.f2, by simpa using h.lt⟩
theorem WB.all {w : World} {b : Nat} {v0 v1 v2 : Value} (h : WB w b v0 v1 v2) (u0 u1 u2 : Value) : WB (((w.setCell ⟨b, 0, none⟩ u0).setCell ⟨b, 1, none⟩ u1).setCell ⟨b, 2, none⟩ u2) b u0 u1 u2 := ((h.s0 u0).s1 u1).s2 u2
theorem Only.threeW (w : World) (b : Nat) (u0 u1 u2 : Value) : Only (fun k => k = b) w (((w.setCell ⟨b, 0, none⟩ u0).setCell ⟨b, 1, none⟩ u1).setCell ⟨b, 2, none⟩ u2) := by
  have st : ∀ (W : World) (i : Nat) (v : Value), Only (fun k => k = b) W (W.setCell ⟨b, i, none⟩ v) := fun W i v => Only.setCell W ⟨b, i, none⟩ v rfl
  exact ((st _ 0 _).trans (st _ 1 _) (fun _ _ h => h)).trans (st _ 2 _) (fun _ _ h => h)
theorem load_work {w : World} {b : Nat} {v0 v1 v2 : Value} (h : WB w b v0 v1 v2) : (loadVar 39 ⟨b, 0, none⟩).run Try.prog w = .ok (.agg #[v0, v1, v2]) w := by
  have c0 := h.c0
  have c1 := h.c1
  have c2 := h.c2
  simp [loadVar, go_sem, c0, c1, c2]
theorem load_viewI {w : World} {b : Nat} {v0 v1 v2 v3 v4 v5 v6 v7 v8 v9 v10 : Value} (h : VB w b v0 v1 v2 v3 v4 v5 v6 v7 v8 v9 v10) : (loadVar 32 ⟨b, 0, none⟩).run Try.prog w = .ok (.agg #[v0, v1, v2, v3, v4, v5, v6, v7, v8, v9, v10]) w := by
  have c0 := h.c0
  have c1 := h.c1
  have c2 := h.c2
  have c3 := h.c3
  have c4 := h.c4
  have c5 := h.c5
  have c6 := h.c6
  have c7 := h.c7
  have c8 := h.c8
  have c9 := h.c9
  have c10 := h.c10
  simp [loadVar, go_sem, c0, c1, c2, c3, c4, c5, c6, c7, c8, c9, c10]
theorem yieldsIf_load_viewI {ops : Array Oper} {S : World → Prop} {op : Oper} {a : Act} {v0 v1 v2 v3 v4 v5 v6 v7 v8 v9 v10 : Value} (hw : Region.wanted op (yielded ops a.tmps) = true) (x : Operand) (ho : op.op = .load 32 x)
    {b : Nat} (hx : a.eval x = .pointer (some ⟨b, 0, none⟩)) (hS : ∀ w, S w → VB w b v0 v1 v2 v3 v4 v5 v6 v7 v8 v9 v10) : YieldsIf Try.prog ops S op (.agg #[v0, v1, v2, v3, v4, v5, v6, v7, v8, v9, v10]) a :=
  .inl ⟨hw, fun w hw' => by
    unfold execOp
    simp only [ho, hx, Instr.loadAt, Instr.sureAddr, Sem.run_bind, Sem.run_pure, Result.andThen_ok, load_viewI (hS w hw')]⟩
/-- The rows that grow, from W1 on alone, and the variable b that leads to them. -/
structure SoSt (W1 wr : World) (b : Nat) (v0 v1 v2 : Value) (K : Wk) : Prop where
  wb : WB wr b v0 v1 v2
  at_ : WkAt wr W1.heap.size v0 v1 v2 K
  only : Only (fun k => k = b ∨ W1.heap.size ≤ k) W1 wr
  lt : b < W1.heap.size
theorem SoSt.more {W1 wr w' : World} {b : Nat} {v0 v1 v2 : Value} {K : Wk} (h : SoSt W1 wr b v0 v1 v2 K) (ho : Only (fun _ => False) wr w') : SoSt W1 w' b v0 v1 v2 K :=
  ⟨h.wb.more ho, h.at_.more ho, h.only.trans ho (fun _ _ e => e.elim), h.lt⟩
theorem SoSt.fr {W1 wr w' : World} {b : Nat} {v0 v1 v2 v' : Value} {K : Wk} {L : List Int} (h : SoSt W1 wr b v0 v1 v2 K) (hr : IRw w' W1.heap.size v' L) (ho : Only (fun i => some i = v0.ownBlock) wr w') (hb : v'.ownBlock = v0.ownBlock ∨ ∃ k, v'.ownBlock = some k ∧ wr.heap.size ≤ k) : SoSt W1 (w'.setCell ⟨b, 0, none⟩ v') b v' v1 v2 ⟨L, K.of, K.gn⟩ :=
  have hl := h.lt
  have hs := Only.setCell (S := fun k => k = b) w' ⟨b, 0, none⟩ v' rfl
  ⟨(h.wb.kept ho (fun e => by have := (h.at_.fr.low b e.symm).1; omega)).s0 v', (h.at_.setFr hr ho hb).kept hs (fun k hk e => by omega),
   (h.only.trans ho (fun i _ e => .inr (h.at_.fr.low i e.symm).1)).trans hs (fun i _ e => .inl e), hl⟩
theorem SoSt.of {W1 wr w' : World} {b : Nat} {v0 v1 v2 v' : Value} {K : Wk} {L : List Int} (h : SoSt W1 wr b v0 v1 v2 K) (hr : IRw w' W1.heap.size v' L) (ho : Only (fun i => some i = v1.ownBlock) wr w') (hb : v'.ownBlock = v1.ownBlock ∨ ∃ k, v'.ownBlock = some k ∧ wr.heap.size ≤ k) : SoSt W1 (w'.setCell ⟨b, 1, none⟩ v') b v0 v' v2 ⟨K.fr, L, K.gn⟩ :=
  have hl := h.lt
  have hs := Only.setCell (S := fun k => k = b) w' ⟨b, 1, none⟩ v' rfl
  ⟨(h.wb.kept ho (fun e => by have := (h.at_.of.low b e.symm).1; omega)).s1 v', (h.at_.setOf hr ho hb).kept hs (fun k hk e => by omega),
   (h.only.trans ho (fun i _ e => .inr (h.at_.of.low i e.symm).1)).trans hs (fun i _ e => .inl e), hl⟩
theorem SoSt.gn {W1 wr w' : World} {b : Nat} {v0 v1 v2 v' : Value} {K : Wk} {L : List En} (h : SoSt W1 wr b v0 v1 v2 K) (hr : ERows w' W1.heap.size v' L) (ho : Only (fun i => some i = v2.ownBlock) wr w') (hb : v'.ownBlock = v2.ownBlock ∨ ∃ k, v'.ownBlock = some k ∧ wr.heap.size ≤ k) : SoSt W1 (w'.setCell ⟨b, 2, none⟩ v') b v0 v1 v' ⟨K.fr, K.of, L⟩ :=
  have hl := h.lt
  have hs := Only.setCell (S := fun k => k = b) w' ⟨b, 2, none⟩ v' rfl
  ⟨(h.wb.kept ho (fun e => by have := (h.at_.gn.low b e.symm).1; omega)).s2 v', (h.at_.setGn hr ho hb).kept hs (fun k hk e => by omega),
   (h.only.trans ho (fun i _ e => .inr (h.at_.gn.low i e.symm).1)).trans hs (fun i _ e => .inl e), hl⟩
theorem Wk.step_gn {V : Vw} {h pg : Int} {K : Wk} {i : Nat} {s : ByteArray} (hg : gnS V h s = true) : K.step V h pg i s = ⟨K.fr, K.of, K.gn ++ [⟨keyB s, pg, i⟩]⟩ := by unfold Wk.step; rw [if_pos hg]
theorem Wk.step_no {V : Vw} {h pg : Int} {K : Wk} {i : Nat} {s : ByteArray} (hd : decT (bl s) = none) (hs : (stT (bl s) == 2) = false) : K.step V h pg i s = K := by
  unfold Wk.step gnS fzS ofS
  rw [hd, hs]
  rfl
theorem Wk.step_lv {V : Vw} {h pg : Int} {K : Wk} {i : Nat} {s : ByteArray} {t : Tu} (hd : decT (bl s) = some t) (hs : (stT (bl s) == 2) = false) (hg : vgone V t.tp h = false) : K.step V h pg i s = ⟨if vold V t.tp h = true then K.fr ++ [(i : Int)] else K.fr, if voff V t.tp = true then K.of ++ [(i : Int)] else K.of, K.gn⟩ := by
  unfold Wk.step gnS fzS ofS
  simp only [hd, hs, hg]
  rfl
theorem gnS_dead {V : Vw} {h : Int} {s : ByteArray} (hs : (stT (bl s) == 2) = true) : gnS V h s = true := by unfold gnS; rw [hs]; rfl
theorem gnS_lv {V : Vw} {h : Int} {s : ByteArray} {t : Tu} (hd : decT (bl s) = some t) (hg : vgone V t.tp h = true) : gnS V h s = true := by unfold gnS; simp only [hd, hg, Bool.or_true]
theorem stT_lv {s : ByteArray} {t : Tu} (hd : decT (bl s) = some t) : (stT (bl s) == 2) = false := by unfold stT; rw [hd]; rfl
end Go.Proofs.Ytpnbhddmdfcjdaa
