/- Parts. -/
import Derived.Test.YtpnbhddmdfcjdaaGreatK25
import Derived.Test.YtpnbhddmdfcjdaaGreatK26
import Derived.Deep.MidRow
import Derived.Laws.Tables
set_option maxRecDepth 100000
namespace Go.Proofs.YtpnbhddmdfcjdaaGreat
open Go.RowKit
/-- A version as a view takes it. -/
def Tu.tp (t : Tu) : Tp := ⟨t.xmin, t.xmax, t.frozen, t.key, t.value⟩
/-- An item's key, if it has one. -/
def keyB (s : ByteArray) : ByteArray := (keyT (bl s)).getD ⟨#[]⟩
/-- Is it gone? -/
noncomputable def gnS (V : Vw) (h : Int) (s : ByteArray) : Bool := stT (bl s) == 2 || (match decT (bl s) with | some t => vgone V t.tp h | none => false)
/-- Is it frozen? (Of what is not gone.) -/
noncomputable def fzS (V : Vw) (h : Int) (s : ByteArray) : Bool := match decT (bl s) with | some t => vold V t.tp h | none => false
/-- Is its end taken off? -/
noncomputable def ofS (V : Vw) (s : ByteArray) : Bool := match decT (bl s) with | some t => voff V t.tp | none => false
structure Wk where
  fr : List Int
  of : List Int
  gn : List En
noncomputable def Wk.step (V : Vw) (h pg : Int) (K : Wk) (i : Nat) (s : ByteArray) : Wk :=
  if gnS V h s = true then ⟨K.fr, K.of, K.gn ++ [⟨keyB s, pg, i⟩]⟩
  else ⟨if fzS V h s = true then K.fr ++ [(i : Int)] else K.fr, if ofS V s = true then K.of ++ [(i : Int)] else K.of, K.gn⟩
/-- Of the first so many items. -/
noncomputable def wkN (V : Vw) (h pg : Int) (l : List ByteArray) : Nat → Wk
  | 0 => ⟨[], [], []⟩
  | k + 1 => if hk : k < l.length then (wkN V h pg l k).step V h pg k l[k] else wkN V h pg l k
theorem wkN_step {V : Vw} {h pg : Int} {l : List ByteArray} {k : Nat} (hk : k < l.length) : wkN V h pg l (k + 1) = (wkN V h pg l k).step V h pg k l[k] := by
  rw [wkN, dif_pos hk]
theorem wkN_len (V : Vw) (h pg : Int) (l : List ByteArray) (k : Nat) : (wkN V h pg l k).fr.length ≤ k ∧ (wkN V h pg l k).of.length ≤ k ∧ (wkN V h pg l k).gn.length ≤ k := by
  induction k with
  | zero => exact ⟨Nat.le_refl _, Nat.le_refl _, Nat.le_refl _⟩
  | succ k ih =>
    by_cases hk : k < l.length
    · rw [wkN_step hk]
      unfold Wk.step
      obtain ⟨h1, h2, h3⟩ := ih
      by_cases hg : gnS V h l[k] = true
      · rw [if_pos hg]
        refine ⟨Nat.le_succ_of_le h1, Nat.le_succ_of_le h2, ?_⟩
        rw [List.length_append]; simp; exact h3
      · rw [if_neg hg]
        refine ⟨?_, ?_, Nat.le_succ_of_le h3⟩
        · show (if _ then _ else _ : List Int).length ≤ _
          split
          · rw [List.length_append]; simp; exact h1
          · omega
        · show (if _ then _ else _ : List Int).length ≤ _
          split
          · rw [List.length_append]; simp; exact h2
          · omega
    · rw [wkN, dif_neg hk]
      omega
/-- Numbers, entries: their cells. -/
def EIi : Lyt Int := ⟨1, fun x => [.int .i64 x], fun _ => rfl, fun x u hu => by simp at hu; rcases hu with rfl; rfl⟩
def EEn : Lyt En := ⟨3, fun e => [.string e.key, .int .i64 e.page, .int .i64 e.slot], fun _ => rfl, fun x u hu => by simp at hu; rcases hu with rfl | rfl | rfl <;> rfl⟩
theorem Tryz.infoIntI : (Tryz.prog.info? 3).map (fun i => (i.zero, i.size, i.bytes)) = some (some (.int .i64 0), 1, 8) := by kernel_rfl
theorem Tryz.infoEntI : (Tryz.prog.info? 74).map (fun i => (i.zero, i.size, i.bytes)) = some (some (.agg #[.string ⟨#[]⟩, .int .i64 0, .int .i64 0]), 3, 32) := by kernel_rfl
abbrev IRw (w : World) (base : Nat) (v : Value) (L : List Int) : Prop := GRow EIi 3 w base v L
abbrev ERows (w : World) (base : Nat) (v : Value) (L : List En) : Prop := GRow EEn 74 w base v L
theorem irw_one {w : World} {base : Nat} {v : Value} {L : List Int} (h : IRw w base v L) (x : Int) (hn : L.length + 1 ≤ 4398046511104) (hb : base ≤ w.heap.size) (tr : TypeId) (c : Nat) :
    ∃ v' w', (Builtin.append_ #[25, 25] tr #[v, .slice (some ⟨w.heap.size, 0, none⟩) 1 c]).run Tryz.prog (w.alloc (.cells #[.int .i64 x] 3)) = .ok v' w' ∧ IRw w' base v' (L ++ [x]) ∧ Only (fun i => some i = v.ownBlock) w w' ∧ (v'.ownBlock = v.ownBlock ∨ ∃ k, v'.ownBlock = some k ∧ w.heap.size ≤ k) :=
  grow_one Tryz.underlying25 Tryz.infoIntI rfl h x (by omega) (by unfold maxLen; omega) hb tr c
theorem erw_one {w : World} {base : Nat} {v : Value} {L : List En} (h : ERows w base v L) (x : En) (hn : L.length + 1 ≤ 4398046511104) (hb : base ≤ w.heap.size) (tr : TypeId) (c : Nat) :
    ∃ v' w', (Builtin.append_ #[37, 37] tr #[v, .slice (some ⟨w.heap.size, 0, none⟩) 1 c]).run Tryz.prog (w.alloc (.cells #[.string x.key, .int .i64 x.page, .int .i64 x.slot] 74)) = .ok v' w' ∧ ERows w' base v' (L ++ [x]) ∧ Only (fun i => some i = v.ownBlock) w w' ∧ (v'.ownBlock = v.ownBlock ∨ ∃ k, v'.ownBlock = some k ∧ w.heap.size ≤ k) :=
  grow_one Tryz.underlying37 Tryz.infoEntI rfl h x (by omega) (by unfold maxLen; omega) hb tr c
/-- What is found, in memory: three rows, no block of which is another one's. -/
structure WkAt (w : World) (base : Nat) (v0 v1 v2 : Value) (K : Wk) : Prop where
  fr : IRw w base v0 K.fr
  of : IRw w base v1 K.of
  gn : ERows w base v2 K.gn
  n01 : ∀ k, v0.ownBlock = some k → ¬ v1.ownBlock = some k
  n02 : ∀ k, v0.ownBlock = some k → ¬ v2.ownBlock = some k
  n12 : ∀ k, v1.ownBlock = some k → ¬ v2.ownBlock = some k
theorem WkAt.kept {S : Nat → Prop} {w w' : World} {base : Nat} {v0 v1 v2 : Value} {K : Wk} (h : WkAt w base v0 v1 v2 K) (ho : Only S w w') (hS : ∀ k, base ≤ k → ¬ S k) : WkAt w' base v0 v1 v2 K :=
  ⟨h.fr.kept ho (fun k hk => hS k (h.fr.low k hk).1), h.of.kept ho (fun k hk => hS k (h.of.low k hk).1), h.gn.kept ho (fun k hk => hS k (h.gn.low k hk).1), h.n01, h.n02, h.n12⟩
theorem WkAt.more {w w' : World} {base : Nat} {v0 v1 v2 : Value} {K : Wk} (h : WkAt w base v0 v1 v2 K) (ho : Only (fun _ => False) w w') : WkAt w' base v0 v1 v2 K := h.kept ho (fun _ _ => id)
theorem WkAt.nil (w : World) (base : Nat) : WkAt w base (.slice none 0 0) (.slice none 0 0) (.slice none 0 0) ⟨[], [], []⟩ :=
  by
  refine ⟨GRow.nil _ _, GRow.nil _ _, GRow.nil _ _, ?_, ?_, ?_⟩ <;> exact fun _ h => by cases h
theorem own_ne {v v' u : Value} {n : Nat} (hn : ∀ k, v.ownBlock = some k → ¬ u.ownBlock = some k) (hu : ∀ k, u.ownBlock = some k → k < n) (h : v'.ownBlock = v.ownBlock ∨ ∃ k, v'.ownBlock = some k ∧ n ≤ k) : ∀ k, v'.ownBlock = some k → ¬ u.ownBlock = some k := fun k hk hk2 => by
  rcases h with h | ⟨j, h, hj⟩
  · exact hn k (h ▸ hk) hk2
  · rw [h] at hk
    injection hk with hk
    have := hu k hk2
    omega
/-- A row has grown, or stands as it was. -/
theorem WkAt.setFr {w w' : World} {base : Nat} {v0 v1 v2 v0' : Value} {K : Wk} {L : List Int} (h : WkAt w base v0 v1 v2 K) (hr : IRw w' base v0' L) (ho : Only (fun i => some i = v0.ownBlock) w w') (hb : v0'.ownBlock = v0.ownBlock ∨ ∃ k, v0'.ownBlock = some k ∧ w.heap.size ≤ k) : WkAt w' base v0' v1 v2 ⟨L, K.of, K.gn⟩ :=
  ⟨hr, h.of.kept ho (fun k hk e => h.n01 k e.symm hk), h.gn.kept ho (fun k hk e => h.n02 k e.symm hk), own_ne h.n01 (fun k hk => (h.of.low k hk).2) hb, own_ne h.n02 (fun k hk => (h.gn.low k hk).2) hb, h.n12⟩
theorem WkAt.setOf {w w' : World} {base : Nat} {v0 v1 v2 v1' : Value} {K : Wk} {L : List Int} (h : WkAt w base v0 v1 v2 K) (hr : IRw w' base v1' L) (ho : Only (fun i => some i = v1.ownBlock) w w') (hb : v1'.ownBlock = v1.ownBlock ∨ ∃ k, v1'.ownBlock = some k ∧ w.heap.size ≤ k) : WkAt w' base v0 v1' v2 ⟨K.fr, L, K.gn⟩ :=
  ⟨h.fr.kept ho (fun k hk e => h.n01 k hk e.symm), hr, h.gn.kept ho (fun k hk e => h.n12 k e.symm hk), fun k hk hk2 => own_ne (fun k hk hk2 => h.n01 k hk2 hk) (fun k hk => (h.fr.low k hk).2) hb k hk2 hk, h.n02, own_ne h.n12 (fun k hk => (h.gn.low k hk).2) hb⟩
theorem WkAt.setGn {w w' : World} {base : Nat} {v0 v1 v2 v2' : Value} {K : Wk} {L : List En} (h : WkAt w base v0 v1 v2 K) (hr : ERows w' base v2' L) (ho : Only (fun i => some i = v2.ownBlock) w w') (hb : v2'.ownBlock = v2.ownBlock ∨ ∃ k, v2'.ownBlock = some k ∧ w.heap.size ≤ k) : WkAt w' base v0 v1 v2' ⟨K.fr, K.of, L⟩ :=
  ⟨h.fr.kept ho (fun k hk e => h.n02 k hk e.symm), h.of.kept ho (fun k hk e => h.n12 k hk e.symm), hr, h.n01, fun k hk hk2 => own_ne (fun k hk hk2 => h.n02 k hk2 hk) (fun k hk => (h.fr.low k hk).2) hb k hk2 hk, fun k hk hk2 => own_ne (fun k hk hk2 => h.n12 k hk2 hk) (fun k hk => (h.of.low k hk).2) hb k hk2 hk⟩
set_option maxRecDepth 100000 in
set_option maxHeartbeats 1600000 in
theorem version_of (s : ByteArray) (w : World) (t : Tu) (k : Int) (b : Bool) (hb : (k == 0) = b) (hD : ∀ W, Calls Tryz.prog 53 #[.string s] W fun e w' => e = .returned (.tuple #[t.agg, .int .i64 k]) ∧ Only (fun _ => False) W w') :
    Calls Tryz.prog 22 #[.string s] w fun e w' => e = .returned (.tuple #[t.agg, .bool b]) ∧ Only (fun _ => False) w w' := by
  have HD := hide hD
  have HT0 : Hid (Tb (w.alloc (.cells #[.int .i64 0, .int .i64 0, .bool false, .string ⟨#[]⟩, .string ⟨#[]⟩] 62)) w.heap.size noT) := Tb.new w noT
  have HO0 := hide (onlyA w (.cells #[.int .i64 0, .int .i64 0, .bool false, .string ⟨#[]⟩, .string ⟨#[]⟩] 62))
  have HAG : Hid (t.agg = .agg #[.int .i64 t.xmin, .int .i64 t.xmax, .bool t.frozen, .string t.key, .string t.value]) := rfl
  rw [HAG.out] at HD ⊢
  clear hD
  go_enter Tryz.func22, Tryz.ntmps22
  go_upto_region 1 with fail
  obtain ⟨W0, hW0⟩ : ∃ x, w.alloc (.cells #[.int .i64 0, .int .i64 0, .bool false, .string ⟨#[]⟩, .string ⟨#[]⟩] 62) = x := ⟨_, rfl⟩
  rw [hW0] at HT0 HO0 ⊢
  clear hW0
  go_wp2_with fail
  refine (HD.out _).mono ?_
  rintro e w1 ⟨rfl, ho1⟩
  have HT1 := hide (Tb.new w1 t)
  have HO1 := hide (o2 ho1 (onlyA w1 (.cells #[.int .i64 t.xmin, .int .i64 t.xmax, .bool t.frozen, .string t.key, .string t.value] 62)))
  have HTA := hide (HT0.out.more HO1.out)
  clear ho1
  go_upto_region 2 with fail
  obtain ⟨W1, hW1⟩ : ∃ x, w1.alloc (.cells #[.int .i64 t.xmin, .int .i64 t.xmax, .bool t.frozen, .string t.key, .string t.value] 62) = x := ⟨_, rfl⟩
  rw [hW1] at HT1 HO1 HTA ⊢
  clear hW1
  obtain ⟨c0, c1, c2, c3, c4, f0, f1, f2, f3, f4, fl⟩ := HT1.out
  obtain ⟨d0, d1, d2, d3, d4, g0, g1, g2, g3, g4, gl⟩ := HTA.out
  go_wp2_with fail
  refine bodyPost_ret (results_tub rfl rfl (HTA.out.all t)) rfl ?_
  exact ⟨rfl, (o2 HO0.out HO1.out).trans (Only.fiveU _ _ _ _ _ _ _) (fun i hi e => by omega)⟩
theorem version_any (s : ByteArray) (w : World) : Calls Tryz.prog 22 #[.string s] w fun e w' => e = .returned (.tuple #[((decT (bl s)).getD noT).agg, .bool (decT (bl s)).isSome]) ∧ Only (fun _ => False) w w' := by
  cases hd : decT (bl s) with
  | none =>
    refine version_of s w noT 110 false rfl (fun W => ?_)
    have h := udecode_any s W
    rw [hd] at h
    exact h
  | some t =>
    refine version_of s w t 0 true rfl (fun W => ?_)
    have h := udecode_any s W
    rw [hd] at h
    exact h
set_option maxRecDepth 100000 in
theorem isDead_any (s : ByteArray) (w : World) : Calls Tryz.prog 23 #[.string s] w fun e w' => e = .returned (.bool (stT (bl s) == 2)) ∧ Only (fun _ => False) w w' := by
  have HS := hide (ustate_any s w)
  obtain ⟨z, hz⟩ : ∃ z, stT (bl s) = z := ⟨_, rfl⟩
  rw [hz] at HS ⊢
  clear hz
  go_enter Tryz.func23, Tryz.ntmps23
  go_wp2_with fail
  refine HS.out.mono ?_
  rintro e w1 ⟨rfl, ho1⟩
  go_wp2_with fail
  go_ret
  exact ⟨rfl, ho1⟩
theorem results_cellI {fn : Func} {p : Tmp} {ty : TypeId} (h : fn.results = #[.cell p ty]) {tmps : Array Value} {w : World} {b : Nat} {v : Value} (hp : tmps.getD p undef = .pointer (some ⟨b, 0, none⟩)) (hP : (loadVar ty ⟨b, 0, none⟩).run Tryz.prog w = .ok v w) :
    (results fn tmps).run Tryz.prog w = .ok v w := by
  have e : (asAddr (.pointer (some ⟨b, 0, none⟩))).run Tryz.prog w = .ok ⟨b, 0, none⟩ w := rfl
  have hp' : tmps[p]?.getD undef = .pointer (some ⟨b, 0, none⟩) := by simpa using hp
  simp only [results, h]
  simp [Sem.run_bind, Result.andThen, hp', e, hP]
theorem load_ent3 {w : World} {b : Nat} {k : ByteArray} {p1 s1 : Value} (h0 : w.cell? ⟨b, 0, none⟩ = some (.string k)) (h1 : w.cell? ⟨b, 1, none⟩ = some p1) (h2 : w.cell? ⟨b, 2, none⟩ = some s1) : (loadVar 74 ⟨b, 0, none⟩).run Tryz.prog w = .ok (.agg #[.string k, p1, s1]) w := by simp [loadVar, go_sem, h0, h1, h2]
set_option maxRecDepth 100000 in
set_option maxHeartbeats 1600000 in
theorem entry_any (s : ByteArray) (pg sl : Int) (w : World) : Calls Tryz.prog 25 #[.string s, .int .i64 pg, .int .i64 sl] w fun e w' => e = .returned (.agg #[.string (keyB s), .int .i64 pg, .int .i64 sl]) ∧ Only (fun _ => False) w w' := by
  have HK : Hid (∀ W, ∃ b, Calls Tryz.prog 58 #[.string s] W fun e w' => e = .returned (.tuple #[.string (keyB s), .bool b]) ∧ Only (fun _ => False) W w') := fun W => by
    have h := ukey_any s W
    unfold keyB
    cases hk : keyT (bl s) with
    | none => rw [hk] at h; exact ⟨false, h⟩
    | some k => rw [hk] at h; exact ⟨true, h⟩
  have HO0 := hide (onlyA w (.cells #[.string ⟨#[]⟩, .int .i64 0, .int .i64 0] 74))
  obtain ⟨k, hk⟩ : ∃ k, keyB s = k := ⟨_, rfl⟩
  rw [hk] at HK ⊢
  clear hk
  go_enter Tryz.func25, Tryz.ntmps25
  go_upto_region 1 with fail
  have c0 : (w.alloc (.cells #[.string ⟨#[]⟩, .int .i64 0, .int .i64 0] 74)).cell? ⟨w.heap.size, 0, none⟩ = some (.string ⟨#[]⟩) := by simp
  have c1 : (w.alloc (.cells #[.string ⟨#[]⟩, .int .i64 0, .int .i64 0] 74)).cell? ⟨w.heap.size, 1, none⟩ = some (.int .i64 0) := by simp
  have c2 : (w.alloc (.cells #[.string ⟨#[]⟩, .int .i64 0, .int .i64 0] 74)).cell? ⟨w.heap.size, 2, none⟩ = some (.int .i64 0) := by simp
  have f0 : (w.alloc (.cells #[.string ⟨#[]⟩, .int .i64 0, .int .i64 0] 74)).frozen? ⟨w.heap.size, 0, none⟩ = false := by simp
  have f1 : (w.alloc (.cells #[.string ⟨#[]⟩, .int .i64 0, .int .i64 0] 74)).frozen? ⟨w.heap.size, 1, none⟩ = false := by simp
  have f2 : (w.alloc (.cells #[.string ⟨#[]⟩, .int .i64 0, .int .i64 0] 74)).frozen? ⟨w.heap.size, 2, none⟩ = false := by simp
  have fl : w.heap.size < (w.alloc (.cells #[.string ⟨#[]⟩, .int .i64 0, .int .i64 0] 74)).heap.size := by simp
  obtain ⟨W0, hW0⟩ : ∃ x, w.alloc (.cells #[.string ⟨#[]⟩, .int .i64 0, .int .i64 0] 74) = x := ⟨_, rfl⟩
  rw [hW0] at HO0 c0 c1 c2 f0 f1 f2 fl ⊢
  clear hW0
  obtain ⟨bk, HKC⟩ := HK.out W0
  have HKH := hide HKC
  clear HKC HK
  have HC : Hid ((W0.cell? ⟨w.heap.size, 0, none⟩ = some (.string ⟨#[]⟩) ∧ W0.cell? ⟨w.heap.size, 1, none⟩ = some (.int .i64 0) ∧ W0.cell? ⟨w.heap.size, 2, none⟩ = some (.int .i64 0)) ∧ (W0.frozen? ⟨w.heap.size, 0, none⟩ = false ∧ W0.frozen? ⟨w.heap.size, 1, none⟩ = false ∧ W0.frozen? ⟨w.heap.size, 2, none⟩ = false) ∧ w.heap.size < W0.heap.size) := ⟨⟨c0, c1, c2⟩, ⟨f0, f1, f2⟩, fl⟩
  clear c0 c1 c2 f0 f1 f2 fl
  obtain ⟨b, hb⟩ : ∃ b, w.heap.size = b := ⟨_, rfl⟩
  have HBW : Hid (w.heap.size = b) := hb
  rw [hb] at HC ⊢
  clear hb
  go_wp2_with fail
  refine HKH.out.mono ?_
  rintro e w1 ⟨rfl, ho1⟩
  have fl := HC.out.2.2
  have c0 := (ho1.cell (p := ⟨b, 0, none⟩) fl id).trans HC.out.1.1
  have c1 := (ho1.cell (p := ⟨b, 1, none⟩) fl id).trans HC.out.1.2.1
  have c2 := (ho1.cell (p := ⟨b, 2, none⟩) fl id).trans HC.out.1.2.2
  have f0 := (ho1.frozen (p := ⟨b, 0, none⟩) fl id).trans HC.out.2.1.1
  have f1 := (ho1.frozen (p := ⟨b, 1, none⟩) fl id).trans HC.out.2.1.2.1
  have f2 := (ho1.frozen (p := ⟨b, 2, none⟩) fl id).trans HC.out.2.1.2.2
  have HO1 := hide (o2 HO0.out ho1)
  clear ho1
  go_wp2_with fail
  refine bodyPost_ret (results_cellI rfl rfl (load_ent3 (k := k) (p1 := .int .i64 pg) (s1 := .int .i64 sl) ?_ ?_ ?_)) rfl ?_
  · exact othU _ _ _ _ _ _ (by omega) (othU _ _ _ _ _ _ (by omega) (World.cell?_setCell_same _ _ _ c0))
  · exact othU _ _ _ _ _ _ (by omega) (World.cell?_setCell_same _ _ _ (othU _ _ _ _ _ _ (by omega) c1))
  · exact World.cell?_setCell_same _ _ _ (othU _ _ _ _ _ _ (by omega) (othU _ _ _ _ _ _ (by omega) c2))
  · have hbw := HBW.out
    have st : ∀ (W : World) (i : Nat) (v : Value), Only (fun k => k = b) W (W.setCell ⟨b, i, none⟩ v) := fun W i v => Only.setCell W ⟨b, i, none⟩ v rfl
    exact ⟨rfl, HO1.out.trans (((st _ 0 _).trans (st _ 1 _) (fun _ _ h => h)).trans (st _ 2 _) (fun _ _ h => h)) (fun i hi e => by omega)⟩
set_option maxRecDepth 100000 in
set_option maxHeartbeats 1600000 in
theorem with_any (w : World) (base : Nat) (ao : Option Addr) (cp : Nat) (L : List Int) (i : Int) (b : Bool) (h : IRw w base (.slice ao L.length cp) L) (hn : L.length + 1 ≤ 4398046511104) (hb : base ≤ w.heap.size) :
    Calls Tryz.prog 26 #[.slice ao L.length cp, .int .i64 i, .bool b] w fun e w' => ∃ v', e = .returned v' ∧ IRw w' base v' (if b = true then L ++ [i] else L) ∧ Only (fun k => some k = (Value.slice ao L.length cp).ownBlock) w w' ∧ (v'.ownBlock = (Value.slice ao L.length cp).ownBlock ∨ ∃ k, v'.ownBlock = some k ∧ w.heap.size ≤ k) := by
  have HR := hide h
  obtain ⟨n, hnn⟩ : ∃ n, L.length = n := ⟨_, rfl⟩
  cases b with
  | false =>
    rw [hnn] at HR ⊢
    clear h hnn
    go_enter Tryz.func26, Tryz.ntmps26
    go_wp2_with fail
    go_ret
    exact ⟨_, rfl, HR.out, Only.refl _ _, .inl rfl⟩
  | true =>
    obtain ⟨v', w', hr, hg, ho, hob⟩ := irw_one h i hn hb 25 1
    have HRA := hide hr
    have HG := hide hg
    have HO := hide ho
    have HOB := hide hob
    rw [hnn] at HR HRA HO HOB ⊢
    clear h hnn hr hg ho hob
    go_enter Tryz.func26, Tryz.ntmps26
    go_upto_region 3 with fail
    go_wp2_with (at_builtin; go_must (refine Lib.wpList_append_run _ rfl _ _ _ _ rfl _ _ rfl rfl _ _ HRA.out ?_))
    go_ret
    exact ⟨_, rfl, HG.out, HO.out, HOB.out⟩
/-- A record's cells as a list. -/
def Rc.cl (r : Rc) (L : Loc) : List Value := (r.cells L).toList
theorem Tryz.sizeRecY : (Tryz.prog.info? 47).map (·.size) = some 16 := by kernel_rfl
theorem Bx.range {w : World} {b : Nat} {r : Rc} {L : Loc} (h : Bx w b r L) : w.rangeAt b 0 (r.cl L) := by
  intro j v hv
  rw [Nat.zero_add]
  have hj : j < 16 := by
    have := (List.getElem?_eq_some_iff.1 hv).1
    exact this
  match j, hj with
  | 0, _ => cases hv; exact h.c0
  | 1, _ => cases hv; exact h.c1
  | 2, _ => cases hv; exact h.c2
  | 3, _ => cases hv; exact h.c3
  | 4, _ => cases hv; exact h.c4
  | 5, _ => cases hv; exact h.c5
  | 6, _ => cases hv; exact h.c6
  | 7, _ => cases hv; exact h.c7
  | 8, _ => cases hv; exact h.c8
  | 9, _ => cases hv; exact h.c9
  | 10, _ => cases hv; exact h.c10
  | 11, _ => cases hv; exact h.c11
  | 12, _ => cases hv; exact h.c12
  | 13, _ => cases hv; exact h.c13
  | 14, _ => cases hv; exact h.c14
  | 15, _ => cases hv; exact h.c15
theorem only_setCellsY (b : Nat) (vs : List Value) (o : Nat) (w : World) : Only (fun k => k = b) w (w.setCells b o vs) := by
  induction vs generalizing o w with
  | nil => exact Only.refl _ _
  | cons v r ih =>
    rw [World.setCells]
    exact (Only.setCell (S := fun k => k = b) w ⟨b, o, none⟩ v rfl).trans (ih (o + 1) _) (fun _ _ h => h)
theorem sizes_setCellsY (b : Nat) (vs : List Value) (o : Nat) (w : World) : (w.setCells b o vs).heap.size = w.heap.size := by
  induction vs generalizing o w with
  | nil => rfl
  | cons v r ih => rw [World.setCells, ih]; simp
theorem froz_setCellsY (b : Nat) (vs : List Value) (o : Nat) (w : World) (p : Addr) : (w.setCells b o vs).frozen? p = w.frozen? p := by
  induction vs generalizing o w with
  | nil => rfl
  | cons v r ih => rw [World.setCells, ih]; simp
/-- A record's block: its cells, and that they may be written. -/
structure Rb (w : World) (b : Nat) (r : Rc) (L : Loc) : Prop where
  range : w.rangeAt b 0 (r.cl L)
  there : w.there b 0 16
  lt : b < w.heap.size
theorem Rb.new (w : World) (r : Rc) (L : Loc) : Rb (w.alloc (.cells (r.cells L) 47)) w.heap.size r L :=
  ⟨fun j v hv => by rw [Nat.zero_add]; simpa [Rc.cl] using hv, fun j hj => by rw [Nat.zero_add]; exact ⟨by simpa using hj, by simp⟩, by simp⟩
theorem Rb.kept {S : Nat → Prop} {w w' : World} {b : Nat} {r : Rc} {L : Loc} (h : Rb w b r L) (ho : Only S w w') (hS : ¬ S b) : Rb w' b r L :=
  ⟨fun j v hv => (ho.cell (p := ⟨b, 0 + j, none⟩) h.lt hS).trans (h.range j v hv), fun j hj => by
    obtain ⟨h1, h2⟩ := h.there j hj
    exact ⟨by rw [ho.cell (p := ⟨b, 0 + j, none⟩) h.lt hS]; exact h1, by rw [ho.frozen (p := ⟨b, 0 + j, none⟩) h.lt hS]; exact h2⟩, Nat.lt_of_lt_of_le h.lt ho.size⟩
theorem Rb.more {w w' : World} {b : Nat} {r : Rc} {L : Loc} (h : Rb w b r L) (ho : Only (fun _ => False) w w') : Rb w' b r L := h.kept ho (fun h => h)
theorem Rb.cell {w : World} {b : Nat} {r : Rc} {L : Loc} (h : Rb w b r L) (j : Nat) (v : Value) (hv : (r.cl L)[j]? = some v) : w.cell? ⟨b, j, none⟩ = some v := by
  have := h.range j v hv
  rwa [Nat.zero_add] at this
theorem Rb.frozen {w : World} {b : Nat} {r : Rc} {L : Loc} (h : Rb w b r L) (j : Nat) (hj : j < 16) : w.frozen? ⟨b, j, none⟩ = false := by
  have := (h.there j hj).2
  rwa [Nat.zero_add] at this
theorem Rb.set {w : World} {b : Nat} {q : Rc} {M : Loc} (h : Rb w b q M) (r : Rc) (L : Loc) : Rb (w.setCells b 0 (r.cl L)) b r L := by
  have hr := World.rangeAt_setCells_same w b 0 (r.cl L) h.there
  refine ⟨hr, fun j hj => ?_, by rw [sizes_setCellsY]; exact h.lt⟩
  have hj' : j < (r.cl L).length := hj
  exact ⟨by rw [hr j _ (List.getElem?_eq_getElem hj')]; rfl, by rw [froz_setCellsY]; exact (h.there j hj).2⟩
/-- One cell of a record written. -/
theorem Rb.one {w : World} {b : Nat} {r q : Rc} {L M : Loc} (h : Rb w b r L) (i : Nat) (x : Value) (hi : i < 16) (hq : (r.cl L).set i x = q.cl M) : Rb (w.setCell ⟨b, i, none⟩ x) b q M := by
  refine ⟨fun j v hv => ?_, fun j hj => ?_, by simpa using h.lt⟩
  · rw [← hq] at hv
    rw [Nat.zero_add]
    by_cases e : i = j
    · subst e
      have hl : i < (r.cl L).length := hi
      rw [List.getElem?_set_self hl] at hv
      cases hv
      exact World.cell?_setCell_same _ _ _ (h.cell i _ (List.getElem?_eq_getElem hl))
    · rw [List.getElem?_set_ne e] at hv
      exact (World.cell?_setCell_other _ _ _ _ (by intro e2; injection e2 with _ e3; exact e e3)).trans (h.cell j v hv)
  · obtain ⟨h1, h2⟩ := h.there j hj
    refine ⟨?_, by simpa using h2⟩
    rw [Nat.zero_add] at h1 ⊢
    by_cases e : i = j
    · subst e
      obtain ⟨u, hu⟩ := Option.isSome_iff_exists.1 h1
      rw [World.cell?_setCell_same _ _ _ hu]
      rfl
    · rw [World.cell?_setCell_other _ _ _ _ (by intro e2; injection e2 with _ e3; exact e e3)]
      exact h1
section
variable {ops : Array Oper} {rest : List Oper} {o : Oper} {a : Act} {w : World} {Q : Exit → Act → World → Prop}
theorem wpList_load_rc (hg : o.guard = none) (x : Operand) (hop : o.op = .load 47 x) (b : Nat) (hx : a.eval x = .pointer (some ⟨b, 0, none⟩)) (r : Rc) (L : Loc) (hc : w.rangeAt b 0 (r.cl L))
    (h : wpList Tryz.prog ops Q rest (a.put o.dst (.agg (r.cells L))) w) : wpList Tryz.prog ops Q (o :: rest) a w :=
  wpList_load_mid hg 47 x hop b 0 hx (r.cl L) _ hc Tryz.underlying47 rfl Tryz.sizeRecY h
theorem wpList_put_rc (hg : o.guard = none) (x y : Operand) (hop : o.op = .store 47 x y) (b : Nat) (hx : a.eval x = .pointer (some ⟨b, 0, none⟩)) (q r : Rc) (M L : Loc) (hy : a.eval y = .agg (r.cells L)) (hc : Rb w b q M)
    (h : ∀ W, Hid (Rb W b r L ∧ Only (fun k => k = b) w W) → wpList Tryz.prog ops Q rest (a.put o.dst undef) W) : wpList Tryz.prog ops Q (o :: rest) a w :=
  wpList_store_mid hg 47 x y hop b 0 (r.cells L) hx hy hc.there Tryz.sizeRecY (by simp [Value.oneCell']) (h _ ⟨hc.set r L, only_setCellsY _ _ _ _⟩)
end
set_option maxRecDepth 100000 in
set_option maxHeartbeats 800000 in
theorem hasSlot_any (w : World) (a k v r i : Int) (h : ByteArray) (cp n : Nat) (ao : Option Addr) :
    Calls Tryz.prog 116 #[.agg #[.int .i64 a, .int .i64 k, .int .i64 v, .int .i64 r, .string h, .slice ao n cp], .int .i64 i] w fun e w' => e = .returned (.bool (okS n i)) ∧ Only (fun _ => False) w w' := by
  have HO := hide (onlyA w (.cells #[.int .i64 a, .int .i64 k, .int .i64 v, .int .i64 r, .string h, .slice ao n cp] 30))
  by_cases h0 : 0 ≤ i
  · have e : okS n i = decide (i < (n : Int)) := by unfold okS; simp [h0]
    rw [e]
    clear e
    go_enter Tryz.func116, Tryz.ntmps116
    go_wp2_with fail
    go_ret
    exact ⟨rfl, HO.out⟩
  · have e : okS n i = false := by unfold okS; simp [h0]
    rw [e]
    clear e
    go_enter Tryz.func116, Tryz.ntmps116
    go_wp2_with fail
    go_ret
    exact ⟨rfl, HO.out⟩
set_option maxRecDepth 100000 in
set_option maxHeartbeats 800000 in
theorem apdead_any (t : Tu) (w : World) :
    Calls Tryz.prog 119 #[t.agg] w fun e w' => e = .returned (.tuple #[.string (cgD t).1, .int .i64 (cgD t).2]) ∧ Only (fun _ => False) w w' := by
  have HB := hide (Tb.new w t)
  have HO := hide (onlyA w (.cells #[.int .i64 t.xmin, .int .i64 t.xmax, .bool t.frozen, .string t.key, .string t.value] 62))
  have HD : Hid (∀ W, Calls Tryz.prog 20 #[.string t.key] W fun e w' => e = .returned (.tuple #[.string (cgD t).1, .int .i64 (cgD t).2]) ∧ Only (fun _ => False) W w') := fun W => udead_any t.key W
  obtain ⟨x, hx⟩ : ∃ x, (cgD t).1 = x := ⟨_, rfl⟩
  obtain ⟨y, hy⟩ : ∃ x, (cgD t).2 = x := ⟨_, rfl⟩
  rw [hx, hy] at HD ⊢
  clear hx hy
  unfold Tu.agg
  go_enter Tryz.func119, Tryz.ntmps119
  go_upto_region 1 with fail
  obtain ⟨W0, hW0⟩ : ∃ x, w.alloc (.cells #[.int .i64 t.xmin, .int .i64 t.xmax, .bool t.frozen, .string t.key, .string t.value] 62) = x := ⟨_, rfl⟩
  rw [hW0] at HB HO ⊢
  clear hW0
  have c3 := HB.out.c3
  go_wp2_with fail
  refine (HD.out _).mono ?_
  rintro e w1 ⟨rfl, ho⟩
  go_wp2_with fail
  go_ret2
  exact ⟨rfl, o2 HO.out ho⟩
set_option maxRecDepth 100000 in
set_option maxHeartbeats 800000 in
theorem apfrozen_any (t : Tu) (w : World) (ht : t.ok = true) :
    Calls Tryz.prog 125 #[t.agg] w fun e w' => e = .returned (.tuple #[.string (cgF t).1, .int .i64 (cgF t).2]) ∧ Only (fun _ => False) w w' := by
  have hk := Tu.ok_iff.1 ht
  have HB := hide (Tb.new w t)
  have HO := hide (onlyA w (.cells #[.int .i64 t.xmin, .int .i64 t.xmax, .bool t.frozen, .string t.key, .string t.value] 62))
  have HD : Hid (∀ W, Calls Tryz.prog 21 #[.agg #[.int .i64 t.xmin, .int .i64 t.xmax, .bool true, .string t.key, .string t.value]] W fun e w' => e = .returned (.tuple #[.string (cgF t).1, .int .i64 (cgF t).2]) ∧ Only (fun _ => False) W w') := fun W => uencode_any ⟨t.xmin, t.xmax, true, t.key, t.value⟩ W (by dsimp only; omega) (by dsimp only; omega)
  obtain ⟨x, hx⟩ : ∃ x, (cgF t).1 = x := ⟨_, rfl⟩
  obtain ⟨y, hy⟩ : ∃ x, (cgF t).2 = x := ⟨_, rfl⟩
  rw [hx, hy] at HD ⊢
  clear hx hy hk ht
  unfold Tu.agg
  go_enter Tryz.func125, Tryz.ntmps125
  go_upto_region 1 with fail
  obtain ⟨b, hb⟩ : ∃ b, w.heap.size = b := ⟨_, rfl⟩
  obtain ⟨W0, hW0⟩ : ∃ x, w.alloc (.cells #[.int .i64 t.xmin, .int .i64 t.xmax, .bool t.frozen, .string t.key, .string t.value] 62) = x := ⟨_, rfl⟩
  rw [hb] at HB ⊢
  rw [hW0] at HB HO ⊢
  have HOW : Hid (∀ v i, Only (fun _ => False) w (W0.setCell ⟨b, i, none⟩ v)) := fun v i => HO.out.trans (Only.setCell (S := fun k => k = b) W0 ⟨b, i, none⟩ v rfl) (fun i hi e => by omega)
  clear hW0 hb
  obtain ⟨c0, c1, c2, c3, c4, f0, f1, f2, f3, f4, _⟩ := HB.out
  go_wp2_with fail
  refine (HD.out _).mono ?_
  rintro e w1 ⟨rfl, ho⟩
  go_wp2_with fail
  go_ret2
  exact ⟨rfl, o2 (HOW.out _ _) ho⟩
set_option maxRecDepth 100000 in
set_option maxHeartbeats 800000 in
theorem apendless_any (t : Tu) (w : World) (ht : t.ok = true) :
    Calls Tryz.prog 126 #[t.agg] w fun e w' => e = .returned (.tuple #[.string (cgX t).1, .int .i64 (cgX t).2]) ∧ Only (fun _ => False) w w' := by
  have hk := Tu.ok_iff.1 ht
  have HB := hide (Tb.new w t)
  have HO := hide (onlyA w (.cells #[.int .i64 t.xmin, .int .i64 t.xmax, .bool t.frozen, .string t.key, .string t.value] 62))
  have HD : Hid (∀ W, Calls Tryz.prog 21 #[.agg #[.int .i64 t.xmin, .int .i64 0, .bool t.frozen, .string t.key, .string t.value]] W fun e w' => e = .returned (.tuple #[.string (cgX t).1, .int .i64 (cgX t).2]) ∧ Only (fun _ => False) W w') := fun W => uencode_any ⟨t.xmin, 0, t.frozen, t.key, t.value⟩ W (by dsimp only; omega) (by dsimp only; omega)
  obtain ⟨x, hx⟩ : ∃ x, (cgX t).1 = x := ⟨_, rfl⟩
  obtain ⟨y, hy⟩ : ∃ x, (cgX t).2 = x := ⟨_, rfl⟩
  rw [hx, hy] at HD ⊢
  clear hx hy hk ht
  unfold Tu.agg
  go_enter Tryz.func126, Tryz.ntmps126
  go_upto_region 1 with fail
  obtain ⟨b, hb⟩ : ∃ b, w.heap.size = b := ⟨_, rfl⟩
  obtain ⟨W0, hW0⟩ : ∃ x, w.alloc (.cells #[.int .i64 t.xmin, .int .i64 t.xmax, .bool t.frozen, .string t.key, .string t.value] 62) = x := ⟨_, rfl⟩
  rw [hb] at HB ⊢
  rw [hW0] at HB HO ⊢
  have HOW : Hid (∀ v i, Only (fun _ => False) w (W0.setCell ⟨b, i, none⟩ v)) := fun v i => HO.out.trans (Only.setCell (S := fun k => k = b) W0 ⟨b, i, none⟩ v rfl) (fun i hi e => by omega)
  clear hW0 hb
  obtain ⟨c0, c1, c2, c3, c4, f0, f1, f2, f3, f4, _⟩ := HB.out
  go_wp2_with fail
  refine (HD.out _).mono ?_
  rintro e w1 ⟨rfl, ho⟩
  go_wp2_with fail
  go_ret2
  exact ⟨rfl, o2 (HOW.out _ _) ho⟩
/-- Two numbers that a closure captured, each in its variable. -/
structure Two (w : World) (b1 b2 : Nat) (o n : Int) : Prop where
  c1 : w.cell? ⟨b1, 0, none⟩ = some (.int .i64 o)
  c2 : w.cell? ⟨b2, 0, none⟩ = some (.int .i64 n)
  l1 : b1 < w.heap.size
  l2 : b2 < w.heap.size
theorem Two.kept {S : Nat → Prop} {w w' : World} {b1 b2 : Nat} {o n : Int} (h : Two w b1 b2 o n) (ho : Only S w w') (h1 : ¬ S b1) (h2 : ¬ S b2) : Two w' b1 b2 o n :=
  ⟨(ho.cell (p := ⟨b1, 0, none⟩) h.l1 h1).trans h.c1, (ho.cell (p := ⟨b2, 0, none⟩) h.l2 h2).trans h.c2, Nat.lt_of_lt_of_le h.l1 ho.size, Nat.lt_of_lt_of_le h.l2 ho.size⟩
set_option maxRecDepth 100000 in
set_option maxHeartbeats 800000 in
theorem apending1_any (t : Tu) (w : World) (ht : t.ok = true) (b1 b2 : Nat) (o n : Int) (h2 : Two w b1 b2 o n) (hn : -9223372036854775808 ≤ n ∧ n < 9223372036854775808) :
    Calls Tryz.prog 165 #[t.agg, .pointer (some ⟨b1, 0, none⟩), .pointer (some ⟨b2, 0, none⟩)] w fun e w' => e = .returned (.tuple #[.string (cgE o n t).1, .int .i64 (cgE o n t).2]) ∧ Only (fun _ => False) w w' := by
  have hk := Tu.ok_iff.1 ht
  have HB := hide (Tb.new w t)
  have HO := hide (onlyA w (.cells #[.int .i64 t.xmin, .int .i64 t.xmax, .bool t.frozen, .string t.key, .string t.value] 62))
  have HT := hide (h2.kept HO.out (fun h => h) (fun h => h))
  have hl2 := h2.l2
  by_cases hx : t.xmax = o
  · have HD : Hid (∀ W, Calls Tryz.prog 21 #[.agg #[.int .i64 t.xmin, .int .i64 n, .bool t.frozen, .string t.key, .string t.value]] W fun e w' => e = .returned (.tuple #[.string (cgE o n t).1, .int .i64 (cgE o n t).2]) ∧ Only (fun _ => False) W w') := fun W => by
      unfold cgE
      rw [if_pos hx]
      exact uencode_any ⟨t.xmin, n, t.frozen, t.key, t.value⟩ W (by dsimp only; omega) hn
    obtain ⟨x, hx⟩ : ∃ x, (cgE o n t).1 = x := ⟨_, rfl⟩
    obtain ⟨y, hy⟩ : ∃ x, (cgE o n t).2 = x := ⟨_, rfl⟩
    rw [hx, hy] at HD ⊢
    clear hx hy hk ht h2
    subst o
    unfold Tu.agg
    go_enter Tryz.func165, Tryz.ntmps165
    go_upto_region 1 with fail
    obtain ⟨b, hb⟩ : ∃ b, w.heap.size = b := ⟨_, rfl⟩
    obtain ⟨W0, hW0⟩ : ∃ x, w.alloc (.cells #[.int .i64 t.xmin, .int .i64 t.xmax, .bool t.frozen, .string t.key, .string t.value] 62) = x := ⟨_, rfl⟩
    rw [hb] at HB ⊢
    rw [hW0] at HB HO HT ⊢
    have HOW : Hid (∀ v i, Only (fun _ => False) w (W0.setCell ⟨b, i, none⟩ v)) := fun v i => HO.out.trans (Only.setCell (S := fun k => k = b) W0 ⟨b, i, none⟩ v rfl) (fun i hi e => by omega)
    clear hW0 hb
    obtain ⟨c0, c1, c2, c3, c4, f0, f1, f2, f3, f4, _⟩ := HB.out
    have d1 := HT.out.c1
    have d2 := HT.out.c2
    go_wp2_with fail
    refine (HD.out _).mono ?_
    rintro e w1 ⟨rfl, ho⟩
    go_wp2_with fail
    go_ret2
    exact ⟨rfl, o2 (HOW.out _ _) ho⟩
  · have e1 : cgE o n t = (⟨#[]⟩, 110) := by unfold cgE; rw [if_neg hx]
    rw [e1]
    have hb : (t.xmax == o) = false := by simpa using hx
    clear e1 hk ht h2
    unfold Tu.agg
    go_enter Tryz.func165, Tryz.ntmps165
    go_upto_region 1 with fail
    obtain ⟨W0, hW0⟩ : ∃ x, w.alloc (.cells #[.int .i64 t.xmin, .int .i64 t.xmax, .bool t.frozen, .string t.key, .string t.value] 62) = x := ⟨_, rfl⟩
    rw [hW0] at HB HO HT ⊢
    clear hW0
    have c1 := HB.out.c1
    have d1 := HT.out.c1
    go_wp2_with fail
    go_ret2
    exact ⟨rfl, HO.out⟩
/-- What changed answers. -/
structure ChQ (w w' : World) (base : Nat) (sl : Value) (e : Ending) (p : Pg) (x : List ByteArray × Int) : Prop where
  only : Only (fun k => sl.ownBlock = some k) w w'
  good : x.2 = 0 → e = .returned (.tuple #[.agg #[.int .i64 p.lsn, .int .i64 p.kind, .int .i64 p.level, .int .i64 p.right, .string p.high, sl], .int .i64 0]) ∧ Ls w' base sl x.1 ∧ (∀ s ∈ x.1, s.size ≤ 140737488355328)
  bad : ¬ x.2 = 0 → e = .returned (.tuple #[.agg #[.int .i64 0, .int .i64 0, .int .i64 0, .int .i64 0, .string ⟨#[]⟩, .slice none 0 0], .int .i64 x.2])
theorem ChQ.der {w w' : World} {base : Nat} {sl : Value} {e : Ending} {p : Pg} {x : List ByteArray × Int} (h : ChQ w w' base sl e p x) (hl : x.1.length ≤ 8796093022207) : DeR w w' sl e (p.chg x) x.2 := by
  unfold Pg.chg
  by_cases hx : x.2 = 0
  · rw [if_pos hx, hx]
    obtain ⟨he, hL, hs⟩ := h.good hx
    obtain ⟨B, ao, cp, rfl, hS, hF, _, hb⟩ := hL.strs hl hs
    refine ⟨B, ao, cp, he, hS, hF, h.only, fun h0 => .inl ?_⟩
    rcases hb with rfl | rfl
    · have h0' : 0 < x.1.length := h0
      obtain ⟨o, e, _⟩ := hS.at_ h0'
      cases e
    · rfl
  · rw [if_neg hx, h.bad hx]
    exact deR_none sl _ h.only
/-- The variables of changed and clean: the page and the page that is answered; the list as it is by now. -/
structure Ck (w W : World) (rb : Nat) (a k v r : Int) (h : ByteArray) (base : Nat) (sl : Value) (l : List ByteArray) : Prop where
  pag : Pag W w.heap.size (.int .i64 a) (.int .i64 k) (.int .i64 v) (.int .i64 r) (.string h) sl
  rbl : w.heap.size < rb
  res : Pag W rb (.int .i64 0) (.int .i64 0) (.int .i64 0) (.int .i64 0) (.string ⟨#[]⟩) (.slice none 0 0)
  ls : Ls W base sl l
  siz : ∀ s ∈ l, s.size ≤ 140737488355328
  own : ∀ j, sl.ownBlock = some j → j < w.heap.size
  only : Only (fun j => sl.ownBlock = some j) w W
theorem Ck.more {w W W' : World} {rb : Nat} {a k v r : Int} {h : ByteArray} {base : Nat} {sl : Value} {l : List ByteArray} (x : Ck w W rb a k v r h base sl l) (ho : Only (fun _ => False) W W') : Ck w W' rb a k v r h base sl l :=
  ⟨x.pag.more ho, x.rbl, x.res.more ho, x.ls.more ho, x.siz, x.own, x.only.trans (ho.mono (fun _ _ h => h.elim)) (fun _ _ h => h)⟩
theorem Ck.start (w : World) (a k v r : Int) (h : ByteArray) (base : Nat) (sl : Value) (l : List ByteArray) (hL : Ls w base sl l) (hs : ∀ s ∈ l, s.size ≤ 140737488355328) : Ck w (boxes w a k v r h sl) (w.heap.size + 1) a k v r h base sl l :=
  ⟨boxes_one _ _ _ _ _ _ _, Nat.lt_succ_self _, boxes_two _ _ _ _ _ _ _, hL.more (boxes_only _ _ _ _ _ _ _), hs, fun j hj => (World.ownsRow.lt hL j hj).2, (boxes_only _ _ _ _ _ _ _).mono (fun _ _ h => h.elim)⟩
theorem Ck.set {w W : World} {rb : Nat} {a k v r : Int} {h : ByteArray} {base g n cap : Nat} {l : List ByteArray} (x : Ck w W rb a k v r h base (.slice (some ⟨g, 0, none⟩) n cap) l) (hn : l.length = n) (i : Nat) (it : ByteArray) (hi : it.size ≤ 140737488355328) : Ck w (W.setCell ⟨g, i, none⟩ (.string it)) rb a k v r h base (.slice (some ⟨g, 0, none⟩) n cap) (l.set i it) := by
  have hg : g < w.heap.size := x.own g rfl
  have ho : Only (fun j => j = g) W (W.setCell ⟨g, i, none⟩ (.string it)) := Only.setCell W ⟨g, i, none⟩ _ rfl
  subst hn
  have hrb := x.rbl
  refine ⟨x.pag.kept ho (by omega), x.rbl, x.res.kept ho (by omega), ?_, ?_, x.own, x.only.trans ho (fun j _ e => by rw [e]; rfl)⟩
  · have hs := (World.ownsRow.stored x.ls i (.string it)).1
    have e : (scells l).set i (.string it) = scells (l.set i it) := by unfold scells; rw [List.map_set]
    rw [e] at hs
    unfold Ls
    rw [List.length_set]
    exact hs
  · intro s hs
    rcases List.mem_or_eq_of_mem_set hs with hs | rfl
    · exact x.siz s hs
    · exact hi
theorem Ck.item {w W : World} {rb : Nat} {a k v r : Int} {h : ByteArray} {base g n cap : Nat} {l : List ByteArray} (x : Ck w W rb a k v r h base (.slice (some ⟨g, 0, none⟩) n cap) l) (hn : l.length = n) (i : Nat) (hi : i < l.length) : W.cell? ⟨g, i, none⟩ = some (.string l[i]) ∧ W.frozen? ⟨g, i, none⟩ = false := by
  subst hn
  refine ⟨?_, World.ownsRow.frozenAt x.ls i⟩
  rw [World.ownsRow.cellAt x.ls i (by omega)]
  simp [scells, hi]
theorem Ck.form {w W : World} {rb : Nat} {a k v r : Int} {h : ByteArray} {base : Nat} {sl : Value} {l : List ByteArray} (x : Ck w W rb a k v r h base sl l) (h0 : 0 < l.length) : ∃ g cap, sl = .slice (some ⟨g, 0, none⟩) l.length cap := by
  rcases x.ls.2 with ⟨_, hz⟩ | ⟨g, cap, cur, rfl, _⟩
  · omega
  · exact ⟨g, cap, rfl⟩
theorem Ck.done {w W : World} {rb : Nat} {a k v r : Int} {h : ByteArray} {base : Nat} {sl : Value} {l : List ByteArray} {x : List ByteArray × Int} (c : Ck w W rb a k v r h base sl l) (hx : (l, 0) = x) (v0 v1 v2 v3 v4 v5 : Value) :
    ChQ w ((((((W.setCell ⟨rb, 0, none⟩ v0).setCell ⟨rb, 1, none⟩ v1).setCell ⟨rb, 2, none⟩ v2).setCell ⟨rb, 3, none⟩ v3).setCell ⟨rb, 4, none⟩ v4).setCell ⟨rb, 5, none⟩ v5) base sl (.returned (.tuple #[.agg #[.int .i64 a, .int .i64 k, .int .i64 v, .int .i64 r, .string h, sl], .int .i64 0])) ⟨a, k, v, r, h, [⟨#[]⟩]⟩ x := by
  subst hx
  have hrb := c.rbl
  have h6 := Only.six W rb v0 v1 v2 v3 v4 v5
  exact ⟨c.only.trans h6 (fun i hi e => by omega), fun _ => ⟨rfl, c.ls.kept h6 (fun j hj e => by have := c.own j hj; omega), c.siz⟩, fun h => absurd rfl h⟩
theorem Ck.fail {w W : World} {rb : Nat} {a k v r : Int} {h : ByteArray} {base : Nat} {sl : Value} {l : List ByteArray} {x : List ByteArray × Int} {p : Pg} (z : Int) (c : Ck w W rb a k v r h base sl l) (hx : x.2 = z) (hz : ¬ z = 0) (v0 v1 v2 v3 v4 v5 : Value) :
    ChQ w ((((((W.setCell ⟨rb, 0, none⟩ v0).setCell ⟨rb, 1, none⟩ v1).setCell ⟨rb, 2, none⟩ v2).setCell ⟨rb, 3, none⟩ v3).setCell ⟨rb, 4, none⟩ v4).setCell ⟨rb, 5, none⟩ v5) base sl (.returned (.tuple #[.agg #[.int .i64 0, .int .i64 0, .int .i64 0, .int .i64 0, .string ⟨#[]⟩, .slice none 0 0], .int .i64 z])) p x := by
  have hrb := c.rbl
  have h6 := Only.six W rb v0 v1 v2 v3 v4 v5
  exact ⟨c.only.trans h6 (fun i hi e => by omega), fun h => absurd (hx.symm.trans h) hz, fun _ => by rw [hx]⟩
/-- The variables of a deed: the page, the record, the page that is answered. -/
def boxR (w : World) (a k v r : Int) (h : ByteArray) (sl : Value) (R : Rc) (L : Loc) : World := ((w.alloc (.cells #[.int .i64 a, .int .i64 k, .int .i64 v, .int .i64 r, .string h, sl] 30)).alloc (.cells (R.cells L) 47)).alloc (.cells #[.int .i64 0, .int .i64 0, .int .i64 0, .int .i64 0, .string ⟨#[]⟩, .slice none 0 0] 30)
structure BoxR (w W : World) (a k v r : Int) (h : ByteArray) (sl : Value) (R : Rc) (L : Loc) : Prop where
  pag : Pag W w.heap.size (.int .i64 a) (.int .i64 k) (.int .i64 v) (.int .i64 r) (.string h) sl
  rc : Bx W (w.heap.size + 1) R L
  res : Pag W (w.heap.size + 1 + 1) (.int .i64 0) (.int .i64 0) (.int .i64 0) (.int .i64 0) (.string ⟨#[]⟩) (.slice none 0 0)
  only : Only (fun _ => False) w W
theorem BoxR.more {w W W' : World} {a k v r : Int} {h : ByteArray} {sl : Value} {R : Rc} {L : Loc} (x : BoxR w W a k v r h sl R L) (ho : Only (fun _ => False) W W') : BoxR w W' a k v r h sl R L := ⟨x.pag.more ho, x.rc.more ho, x.res.more ho, o2 x.only ho⟩
theorem boxR_new (w : World) (a k v r : Int) (h : ByteArray) (sl : Value) (R : Rc) (L : Loc) : BoxR w (boxR w a k v r h sl R L) a k v r h sl R L := by
  unfold boxR
  have e2 := Bx.new (w.alloc (.cells #[.int .i64 a, .int .i64 k, .int .i64 v, .int .i64 r, .string h, sl] 30)) R L
  rw [World.size_alloc] at e2
  have e3 := Pag.new ((w.alloc (.cells #[.int .i64 a, .int .i64 k, .int .i64 v, .int .i64 r, .string h, sl] 30)).alloc (.cells (R.cells L) 47)) (.int .i64 0) (.int .i64 0) (.int .i64 0) (.int .i64 0) (.string ⟨#[]⟩) (.slice none 0 0)
  rw [World.size_alloc, World.size_alloc] at e3
  exact ⟨(Pag.new w _ _ _ _ _ _).more (o2 (onlyA _ _) (onlyA _ _)), e2.more (onlyA _ _), e3, o2 (o2 (onlyA _ _) (onlyA _ _)) (onlyA _ _)⟩
theorem BoxR.ck {w W : World} {a k v r : Int} {h : ByteArray} {base : Nat} {sl : Value} {R : Rc} {L : Loc} {l : List ByteArray} (x : BoxR w W a k v r h sl R L) (hL : Ls w base sl l) (hs : ∀ s ∈ l, s.size ≤ 140737488355328) : Ck w W (w.heap.size + 1 + 1) a k v r h base sl l :=
  ⟨x.pag, by omega, x.res, hL.more x.only, hs, fun j hj => (World.ownsRow.lt hL j hj).2, x.only.mono (fun _ _ h => h.elim)⟩
set_option maxRecDepth 100000 in
set_option maxHeartbeats 3200000 in
theorem clean_any (w : World) (a k v r : Int) (h : ByteArray) (base : Nat) (sl : Value) (l : List ByteArray) (hL : Ls w base sl l) (hsz : ∀ s ∈ l, s.size ≤ 140737488355328) (R : Rc) (L : Loc) (hz : Zs w L.b1 L.a1 R.slots) (hzn : 0 < R.slots.length → ¬ sl.ownBlock = some L.b1) :
    Calls Tryz.prog 77 #[.agg #[.int .i64 a, .int .i64 k, .int .i64 v, .int .i64 r, .string h, sl], .agg (R.cells L)] w fun e w' => ChQ w w' base sl e ⟨a, k, v, r, h, [⟨#[]⟩]⟩ (clnL R.slots l) := by
  have HB := hide (boxR_new w a k v r h sl R L)
  have HC0 := hide (HB.out.ck hL hsz)
  have HZ : Hid (∀ W, Only (fun j => sl.ownBlock = some j) w W → Zs W L.b1 L.a1 R.slots) := fun W ho => hz.kept ho hzn
  have hzl := hz.len
  obtain ⟨X, hX⟩ : ∃ X, clnL R.slots l = X := ⟨_, rfl⟩
  rw [hX]
  have HX := hide hX
  obtain ⟨ao, cp, hform⟩ : ∃ ao cp, sl = .slice ao l.length cp := by
    rcases hL.2 with ⟨rfl, h0⟩ | ⟨g, cap, cur, rfl, _⟩
    · exact ⟨none, 0, by rw [h0]⟩
    · exact ⟨_, _, rfl⟩
  clear hX hL hsz hz hzn
  subst hform
  go_enter Tryz.func77, Tryz.ntmps77
  go_upto_region 1 with fail
  obtain ⟨W0, hW0⟩ : ∃ x, boxR w a k v r h (.slice ao l.length cp) R L = x := ⟨_, rfl⟩
  rw [hW0] at HC0 HB
  unfold boxR at hW0
  rw [hW0]
  clear hW0
  have c11 := HB.out.rc.c11
  go_wp2_with fail
  clear c11
  go_loopw [11] (fun i wr => ∃ (j : Nat) (m : List ByteArray), j ≤ R.slots.length ∧ i = .int .i64 (j : Int) ∧ m.length = l.length ∧ Hid (Ck w wr (w.heap.size + 1 + 1) a k v r h base (.slice ao l.length cp) m) ∧ Hid (clnL (R.slots.drop j) m = X)) (fun i _ => R.slots.length - (intOf i).toNat)
  case atStart => exact ⟨0, l, Nat.zero_le _, rfl, rfl, HC0, HX⟩
  case round =>
    clear HC0 HX HB
    obtain ⟨j, m, hj, rfl, hm, HC, HX⟩ := hrel
    by_cases hlt : j < R.slots.length
    · obtain ⟨zo, hza, hc⟩ := (HZ.out _ HC.out.only).at_ (by omega)
      have ck := hc j hlt
      have hlk : (j : Int) < (R.slots.length : Int) := by omega
      rw [List.drop_eq_getElem_cons hlt, clnL] at HX
      obtain ⟨s, hs⟩ : ∃ s, R.slots[j] = s := ⟨_, rfl⟩
      rw [hs] at ck HX
      rw [hm] at HX
      clear hc hs
      obtain ⟨p0, p1, p2, p3, p4, p5, _⟩ := HC.out.pag
      rw [hza]
      go_wp2_with fail
      refine (hasSlot_any _ a k v r s h cp l.length ao).mono ?_
      rintro e w1 ⟨rfl, ho⟩
      have HC1 := hide (HC.out.more ho)
      clear ho p0 p1 p2 p3 p4 p5 ck HC
      cases hok : okS l.length s with
      | false =>
        rw [hok, if_neg (by decide)] at HX
        have HE : Hid (X.2 = 110) := by unfold Hid; rw [← HX.out]
        clear HX hok
        obtain ⟨q0, q1, q2, q3, q4, q5, g0, g1, g2, g3, g4, g5, ql⟩ := HC1.out.res
        go_wp2_with fail
        refine bodyPost_ret (results_page rfl rfl (Pag.six HC1.out.res _ _ _ _ _ _)) rfl ?_
        exact HC1.out.fail 110 HE.out (by decide) _ _ _ _ _ _
      | true =>
        rw [hok, if_pos rfl] at HX
        rw [okS_iff] at hok
        obtain ⟨i, rfl⟩ : ∃ i : Nat, s = (i : Int) := ⟨s.toNat, by omega⟩
        have hi : i < m.length := by omega
        obtain ⟨g, cap, hf⟩ := HC1.out.form (by omega)
        rw [hm] at hf
        cases hf
        obtain ⟨ci, fi⟩ := HC1.out.item hm i hi
        have hil : (i : Int) < (l.length : Int) := by omega
        have hi0 : (0 : Int) ≤ (i : Int) := by omega
        rw [Int.toNat_natCast] at HX
        obtain ⟨it, hit⟩ : ∃ it, m[i] = it := ⟨_, rfl⟩
        rw [hit] at ci
        clear hit
        have p5 := HC1.out.pag.c5
        have HC5 : Hid (∀ n, Ck w ((w1.setCell ⟨g, i, none⟩ (.string ⟨#[]⟩)).drewN n) (w.heap.size + 1 + 1) a k v r h base (.slice (some ⟨g, 0, none⟩) l.length cp) (m.set i ⟨#[]⟩)) := fun n => (HC1.out.set hm i ⟨#[]⟩ (by decide)).more ⟨rfl, rfl, rfl, Nat.le_refl _, fun _ _ _ => rfl⟩
        go_upto_region 6 with fail
        go_region_with (
          go_at_call 19
          refine (ufree_any _).mono ?_
          rintro e w5 ⟨rfl, rfl⟩)
        all_goals (
          go_wp2_with fail
          clear HC1 ci fi p5
          go_roundw
          case rel => exact ⟨j + 1, m.set i ⟨#[]⟩, by omega, by go_num, by rw [List.length_set]; exact hm, hide (HC5.out _), HX⟩
          case measure => simp [intOf]; omega)
    · have hlk : ¬ (j : Int) < (R.slots.length : Int) := by omega
      rw [List.drop_of_length_le (by omega), clnL] at HX
      obtain ⟨p0, p1, p2, p3, p4, p5, _⟩ := HC.out.pag
      obtain ⟨q0, q1, q2, q3, q4, q5, g0, g1, g2, g3, g4, g5, ql⟩ := HC.out.res
      go_wp2_with fail
      refine bodyPost_ret (results_page rfl rfl (Pag.six HC.out.res _ _ _ _ _ _)) rfl ?_
      exact HC.out.done HX.out _ _ _ _ _ _
/-- What Remove answers of a leaf. -/
structure RemQ (w w' : World) (x : Ending) (a r : Int) (h : ByteArray) (e : En) (l : List ByteArray) (es : List En) : Prop where
  bad : e ∉ es → Res w w' x .none 140
  good : e ∈ es → Res w w' x ⟨a, 3, 0, r, h, l.take (plE es e) ++ l.drop (plE es e + 1)⟩ 0
theorem pl_mem {es : List En} {e : En} (hr : Rise es) (h : e ∈ es) : plE es e < es.length := by
  obtain ⟨k, hk, rfl⟩ := List.mem_iff_getElem.1 h
  rw [plE_at hr k hk]
  exact hk
theorem results_page1 {fn : Func} {p : Tmp} (h : fn.results = #[.cell p 30]) {tmps : Array Value} {w : World} {b : Nat} {v0 v1 v2 v3 v4 v5 : Value} (hp : tmps.getD p undef = .pointer (some ⟨b, 0, none⟩)) (hP : Pag w b v0 v1 v2 v3 v4 v5) :
    (results fn tmps).run Tryz.prog w = .ok (.agg #[v0, v1, v2, v3, v4, v5]) w := by
  have e : (asAddr (.pointer (some ⟨b, 0, none⟩))).run Tryz.prog w = .ok ⟨b, 0, none⟩ w := rfl
  have hp' : tmps[p]?.getD undef = .pointer (some ⟨b, 0, none⟩) := by simpa using hp
  simp only [results, h]
  simp [Sem.run_bind, Result.andThen, hp', e, load_page hP]
end Go.Proofs.YtpnbhddmdfcjdaaGreat
