/- Parts. -/
import Derived.Test.YtajjakljheafjaaGreatK05
import Derived.BigQuiet
import Derived.Deep.Draws
import Derived.Deep.RegionHeld3
import Derived.Deep.DeepCutAuto
set_option maxRecDepth 100000
namespace Go.Proofs.YtajjakljheafjaaGreat
open Go.RowKit
/-- What a node says, in a block. -/
structure Cv (w : World) (b : Nat) (es ks : Value) (h : En) : Prop where
  c0 : w.cell? ⟨b, 0, none⟩ = some es
  c1 : w.cell? ⟨b, 1, none⟩ = some ks
  c2 : w.cell? ⟨b, 2, none⟩ = some (.string h.key)
  c3 : w.cell? ⟨b, 3, none⟩ = some (.int .i64 h.page)
  c4 : w.cell? ⟨b, 4, none⟩ = some (.int .i64 h.slot)
  f0 : w.frozen? ⟨b, 0, none⟩ = false
  f1 : w.frozen? ⟨b, 1, none⟩ = false
  f2 : w.frozen? ⟨b, 2, none⟩ = false
  f3 : w.frozen? ⟨b, 3, none⟩ = false
  f4 : w.frozen? ⟨b, 4, none⟩ = false
  lt : b < w.heap.size
theorem Cv.kept {S : Nat → Prop} {w w' : World} {b : Nat} {es ks : Value} {h : En} (x : Cv w b es ks h) (ho : Only S w w') (hS : ¬ S b) : Cv w' b es ks h :=
  ⟨(ho.cell (p := ⟨b, 0, none⟩) x.lt hS).trans x.c0, (ho.cell (p := ⟨b, 1, none⟩) x.lt hS).trans x.c1, (ho.cell (p := ⟨b, 2, none⟩) x.lt hS).trans x.c2, (ho.cell (p := ⟨b, 3, none⟩) x.lt hS).trans x.c3, (ho.cell (p := ⟨b, 4, none⟩) x.lt hS).trans x.c4,
   (ho.frozen (p := ⟨b, 0, none⟩) x.lt hS).trans x.f0, (ho.frozen (p := ⟨b, 1, none⟩) x.lt hS).trans x.f1, (ho.frozen (p := ⟨b, 2, none⟩) x.lt hS).trans x.f2, (ho.frozen (p := ⟨b, 3, none⟩) x.lt hS).trans x.f3, (ho.frozen (p := ⟨b, 4, none⟩) x.lt hS).trans x.f4, Nat.lt_of_lt_of_le x.lt ho.size⟩
theorem Cv.more {w w' : World} {b : Nat} {es ks : Value} {h : En} (x : Cv w b es ks h) (ho : Only (fun _ => False) w w') : Cv w' b es ks h := x.kept ho (fun h => h)
theorem Cv.new (w : World) (es ks : Value) (h : En) : Cv (w.alloc (.cells #[es, ks, .string h.key, .int .i64 h.page, .int .i64 h.slot] 164)) w.heap.size es ks h :=
  ⟨by simp, by simp, by simp, by simp, by simp, by simp, by simp, by simp, by simp, by simp, by simp⟩
/-- What a node says, as a value. -/
def cvv (es ks : Value) (h : En) : Value := .agg #[es, ks, .string h.key, .int .i64 h.page, .int .i64 h.slot]
theorem load_cv {w : World} {b : Nat} {a1 a2 : Option Addr} {n1 n2 c1 c2 : Nat} {h : En} (x : Cv w b (.slice a1 n1 c1) (.slice a2 n2 c2) h) : (loadVar 164 ⟨b, 0, none⟩).run Tryz.prog w = .ok (cvv (.slice a1 n1 c1) (.slice a2 n2 c2) h) w := by
  have c0 := x.c0
  have c1 := x.c1
  have c2 := x.c2
  have c3 := x.c3
  have c4 := x.c4
  simp [loadVar, go_sem, c0, c1, c2, c3, c4, cvv]
theorem results_cv {fn : Func} {p u : Tmp} (h : fn.results = #[.cell p 164, .tmp u]) {tmps : Array Value} {w : World} {b : Nat} {a1 a2 : Option Addr} {n1 n2 c1 c2 : Nat} {hi : En} (hp : tmps.getD p undef = .pointer (some ⟨b, 0, none⟩)) (hP : Cv w b (.slice a1 n1 c1) (.slice a2 n2 c2) hi) :
    (results fn tmps).run Tryz.prog w = .ok (.tuple #[cvv (.slice a1 n1 c1) (.slice a2 n2 c2) hi, tmps.getD u undef]) w := by
  have e : (asAddr (.pointer (some ⟨b, 0, none⟩))).run Tryz.prog w = .ok ⟨b, 0, none⟩ w := rfl
  rw [results_cell_tmp h, hp, e]
  simp only [Result.andThen, load_cv hP]
theorem Cv.s0 {w : World} {b : Nat} {es ks : Value} {h : En} (x : Cv w b es ks h) (v : Value) : Cv (w.setCell ⟨b, 0, none⟩ v) b v ks h :=
  ⟨World.cell?_setCell_same _ _ _ x.c0, othN _ _ _ _ _ _ (by omega) x.c1, othN _ _ _ _ _ _ (by omega) x.c2, othN _ _ _ _ _ _ (by omega) x.c3, othN _ _ _ _ _ _ (by omega) x.c4, by simpa using x.f0, by simpa using x.f1, by simpa using x.f2, by simpa using x.f3, by simpa using x.f4, by simpa using x.lt⟩
theorem Cv.s1 {w : World} {b : Nat} {es ks : Value} {h : En} (x : Cv w b es ks h) (v : Value) : Cv (w.setCell ⟨b, 1, none⟩ v) b es v h :=
  ⟨othN _ _ _ _ _ _ (by omega) x.c0, World.cell?_setCell_same _ _ _ x.c1, othN _ _ _ _ _ _ (by omega) x.c2, othN _ _ _ _ _ _ (by omega) x.c3, othN _ _ _ _ _ _ (by omega) x.c4, by simpa using x.f0, by simpa using x.f1, by simpa using x.f2, by simpa using x.f3, by simpa using x.f4, by simpa using x.lt⟩
theorem Cv.s2 {w : World} {b : Nat} {es ks : Value} {h : En} (x : Cv w b es ks h) (v : ByteArray) : Cv (w.setCell ⟨b, 2, none⟩ (.string v)) b es ks ⟨v, h.page, h.slot⟩ :=
  ⟨othN _ _ _ _ _ _ (by omega) x.c0, othN _ _ _ _ _ _ (by omega) x.c1, World.cell?_setCell_same _ _ _ x.c2, othN _ _ _ _ _ _ (by omega) x.c3, othN _ _ _ _ _ _ (by omega) x.c4, by simpa using x.f0, by simpa using x.f1, by simpa using x.f2, by simpa using x.f3, by simpa using x.f4, by simpa using x.lt⟩
theorem Cv.s3 {w : World} {b : Nat} {es ks : Value} {h : En} (x : Cv w b es ks h) (v : Int) : Cv (w.setCell ⟨b, 3, none⟩ (.int .i64 v)) b es ks ⟨h.key, v, h.slot⟩ :=
  ⟨othN _ _ _ _ _ _ (by omega) x.c0, othN _ _ _ _ _ _ (by omega) x.c1, othN _ _ _ _ _ _ (by omega) x.c2, World.cell?_setCell_same _ _ _ x.c3, othN _ _ _ _ _ _ (by omega) x.c4, by simpa using x.f0, by simpa using x.f1, by simpa using x.f2, by simpa using x.f3, by simpa using x.f4, by simpa using x.lt⟩
theorem Cv.s4 {w : World} {b : Nat} {es ks : Value} {h : En} (x : Cv w b es ks h) (v : Int) : Cv (w.setCell ⟨b, 4, none⟩ (.int .i64 v)) b es ks ⟨h.key, h.page, v⟩ :=
  ⟨othN _ _ _ _ _ _ (by omega) x.c0, othN _ _ _ _ _ _ (by omega) x.c1, othN _ _ _ _ _ _ (by omega) x.c2, othN _ _ _ _ _ _ (by omega) x.c3, World.cell?_setCell_same _ _ _ x.c4, by simpa using x.f0, by simpa using x.f1, by simpa using x.f2, by simpa using x.f3, by simpa using x.f4, by simpa using x.lt⟩
theorem Cv.all {w : World} {b : Nat} {u v : Value} {g : En} (x : Cv w b u v g) (es ks : Value) (h : En) : Cv (((((w.setCell ⟨b, 0, none⟩ es).setCell ⟨b, 1, none⟩ ks).setCell ⟨b, 2, none⟩ (.string h.key)).setCell ⟨b, 3, none⟩ (.int .i64 h.page)).setCell ⟨b, 4, none⟩ (.int .i64 h.slot)) b es ks h :=
  ((((x.s0 es).s1 ks).s2 h.key).s3 h.page).s4 h.slot
theorem Only.five (w : World) (b : Nat) (v0 v1 v2 v3 v4 : Value) : Only (fun k => k = b) w (((((w.setCell ⟨b, 0, none⟩ v0).setCell ⟨b, 1, none⟩ v1).setCell ⟨b, 2, none⟩ v2).setCell ⟨b, 3, none⟩ v3).setCell ⟨b, 4, none⟩ v4) := by
  have st : ∀ (W : World) (i : Nat) (v : Value), Only (fun k => k = b) W (W.setCell ⟨b, i, none⟩ v) := fun W i v => Only.setCell W ⟨b, i, none⟩ v rfl
  exact ((((st _ 0 _).trans (st _ 1 _) (fun _ _ h => h)).trans (st _ 2 _) (fun _ _ h => h)).trans (st _ 3 _) (fun _ _ h => h)).trans (st _ 4 _) (fun _ _ h => h)
theorem byd_of {h e : En} (hn : ¬ h = noE) : byd h e = decide (0 < cmpE e h) := by
  unfold byd
  exact decide_eq_decide.2 ⟨fun k => cmpE_pos.2 k.2, fun k => ⟨hn, cmpE_pos.1 k⟩⟩
theorem blw_of {h e : En} (hn : ¬ h = noE) : blw h e = decide (cmpE e h < 0) := by
  unfold blw
  refine decide_eq_decide.2 ⟨fun k => ?_, fun k => .inr (cmpE_neg.1 k)⟩
  rcases k with k | k
  · exact absurd k hn
  · exact cmpE_neg.2 k
set_option maxHeartbeats 1600000 in
theorem isBeyond_any (w : World) (a1 a2 : Option Addr) (n1 n2 c1 c2 : Nat) (h e : En) :
    Calls Tryz.prog 85 #[cvv (.slice a1 n1 c1) (.slice a2 n2 c2) h, e.agg] w fun x w' => x = .returned (.bool (byd h e)) ∧ Only (fun _ => False) w w' := by
  have HL : Hid (∀ W, Calls Tryz.prog 127 #[h.agg] W fun x w' => x = .returned (.bool (decide (h = noE))) ∧ Only (fun _ => False) W w') := fun W => isLeast_any h W
  have HM : Hid (∀ W, Calls Tryz.prog 125 #[e.agg, h.agg] W fun x w' => x = .returned (.int .i64 (cmpE e h)) ∧ Only (fun _ => False) W w') := fun W => compare_any e h W
  have HCV := hide ((Cv.new w (.slice a1 n1 c1) (.slice a2 n2 c2) h).more (onlyA _ (.cells #[.string e.key, .int .i64 e.page, .int .i64 e.slot] 89)))
  have HEV := hide (Ev.new (w.alloc (.cells #[.slice a1 n1 c1, .slice a2 n2 c2, .string h.key, .int .i64 h.page, .int .i64 h.slot] 164)) e)
  rw [World.size_alloc] at HEV
  have HO := hide (o2 (onlyA w (.cells #[.slice a1 n1 c1, .slice a2 n2 c2, .string h.key, .int .i64 h.page, .int .i64 h.slot] 164)) (onlyA _ (.cells #[.string e.key, .int .i64 e.page, .int .i64 e.slot] 89)))
  by_cases hn : h = noE
  · have hd : decide (h = noE) = true := decide_eq_true hn
    have hb : byd h e = false := by rw [hn, byd_noE]
    rw [hd] at HL
    rw [hb]
    clear hn hd hb
    obtain ⟨k, p, s⟩ := h
    obtain ⟨k', p', s'⟩ := e
    unfold cvv
    unfold En.agg at HL HM ⊢
    simp only [] at HL HM HCV HEV HO ⊢
    go_enter Tryz.func85, Tryz.ntmps85
    obtain ⟨W0, hW0⟩ : ∃ x, (w.alloc (.cells #[.slice a1 n1 c1, .slice a2 n2 c2, .string k, .int .i64 p, .int .i64 s] 164)).alloc (.cells #[.string k', .int .i64 p', .int .i64 s'] 89) = x := ⟨_, rfl⟩
    rw [hW0] at HCV HEV HO
    go_upto_region 1 with fail
    clear hW0
    have c2 := HCV.out.c2
    have c3 := HCV.out.c3
    have c4 := HCV.out.c4
    simp only [] at c2 c3 c4
    go_wp2_with fail
    refine (HL.out _).mono ?_
    rintro x w1 ⟨rfl, ho⟩
    have HO1 := hide (o2 HO.out ho)
    clear ho c2 c3 c4
    go_wp2_with fail
    go_ret
    exact ⟨rfl, HO1.out⟩
  · have hd : decide (h = noE) = false := decide_eq_false hn
    rw [hd] at HL
    rw [byd_of hn]
    clear hn hd
    obtain ⟨c, hc⟩ : ∃ c, cmpE e h = c := ⟨_, rfl⟩
    rw [hc] at HM ⊢
    clear hc
    obtain ⟨k, p, s⟩ := h
    obtain ⟨k', p', s'⟩ := e
    unfold cvv
    unfold En.agg at HL HM ⊢
    simp only [] at HL HM HCV HEV HO ⊢
    go_enter Tryz.func85, Tryz.ntmps85
    obtain ⟨W0, hW0⟩ : ∃ x, (w.alloc (.cells #[.slice a1 n1 c1, .slice a2 n2 c2, .string k, .int .i64 p, .int .i64 s] 164)).alloc (.cells #[.string k', .int .i64 p', .int .i64 s'] 89) = x := ⟨_, rfl⟩
    rw [hW0] at HCV HEV HO
    go_upto_region 1 with fail
    clear hW0
    have c2 := HCV.out.c2
    have c3 := HCV.out.c3
    have c4 := HCV.out.c4
    simp only [] at c2 c3 c4
    go_wp2_with fail
    refine (HL.out _).mono ?_
    rintro x w1 ⟨rfl, ho⟩
    have HO1 := hide (o2 HO.out ho)
    have HC1 := hide (HCV.out.more ho)
    have HE1 := hide (HEV.out.more ho)
    clear ho c2 c3 c4
    have c2 := HC1.out.c2
    have c3 := HC1.out.c3
    have c4 := HC1.out.c4
    have d0 := HE1.out.c0
    have d1 := HE1.out.c1
    have d2 := HE1.out.c2
    simp only [] at c2 c3 c4 d0 d1 d2
    go_wp2_with fail
    refine (HM.out _).mono ?_
    rintro x w2 ⟨rfl, ho⟩
    have HO2 := hide (o2 HO1.out ho)
    clear ho
    go_wp2_with fail
    go_ret
    exact ⟨rfl, HO2.out⟩
set_option maxHeartbeats 1600000 in
theorem isBelow_any (w : World) (a1 a2 : Option Addr) (n1 n2 c1 c2 : Nat) (h e : En) :
    Calls Tryz.prog 148 #[cvv (.slice a1 n1 c1) (.slice a2 n2 c2) h, e.agg] w fun x w' => x = .returned (.bool (blw h e)) ∧ Only (fun _ => False) w w' := by
  have HL : Hid (∀ W, Calls Tryz.prog 127 #[h.agg] W fun x w' => x = .returned (.bool (decide (h = noE))) ∧ Only (fun _ => False) W w') := fun W => isLeast_any h W
  have HM : Hid (∀ W, Calls Tryz.prog 125 #[e.agg, h.agg] W fun x w' => x = .returned (.int .i64 (cmpE e h)) ∧ Only (fun _ => False) W w') := fun W => compare_any e h W
  have HCV := hide ((Cv.new w (.slice a1 n1 c1) (.slice a2 n2 c2) h).more (onlyA _ (.cells #[.string e.key, .int .i64 e.page, .int .i64 e.slot] 89)))
  have HEV := hide (Ev.new (w.alloc (.cells #[.slice a1 n1 c1, .slice a2 n2 c2, .string h.key, .int .i64 h.page, .int .i64 h.slot] 164)) e)
  rw [World.size_alloc] at HEV
  have HO := hide (o2 (onlyA w (.cells #[.slice a1 n1 c1, .slice a2 n2 c2, .string h.key, .int .i64 h.page, .int .i64 h.slot] 164)) (onlyA _ (.cells #[.string e.key, .int .i64 e.page, .int .i64 e.slot] 89)))
  by_cases hn : h = noE
  · have hd : decide (h = noE) = true := decide_eq_true hn
    have hb : blw h e = true := by unfold blw; simp [hn]
    rw [hd] at HL
    rw [hb]
    clear hn hd hb
    obtain ⟨k, p, s⟩ := h
    obtain ⟨k', p', s'⟩ := e
    unfold cvv
    unfold En.agg at HL HM ⊢
    simp only [] at HL HM HCV HEV HO ⊢
    go_enter Tryz.func148, Tryz.ntmps148
    obtain ⟨W0, hW0⟩ : ∃ x, (w.alloc (.cells #[.slice a1 n1 c1, .slice a2 n2 c2, .string k, .int .i64 p, .int .i64 s] 164)).alloc (.cells #[.string k', .int .i64 p', .int .i64 s'] 89) = x := ⟨_, rfl⟩
    rw [hW0] at HCV HEV HO
    go_upto_region 1 with fail
    clear hW0
    have c2 := HCV.out.c2
    have c3 := HCV.out.c3
    have c4 := HCV.out.c4
    simp only [] at c2 c3 c4
    go_wp2_with fail
    refine (HL.out _).mono ?_
    rintro x w1 ⟨rfl, ho⟩
    have HO1 := hide (o2 HO.out ho)
    clear ho c2 c3 c4
    go_wp2_with fail
    go_ret
    exact ⟨rfl, HO1.out⟩
  · have hd : decide (h = noE) = false := decide_eq_false hn
    rw [hd] at HL
    rw [blw_of hn]
    clear hn hd
    obtain ⟨c, hc⟩ : ∃ c, cmpE e h = c := ⟨_, rfl⟩
    rw [hc] at HM ⊢
    clear hc
    obtain ⟨k, p, s⟩ := h
    obtain ⟨k', p', s'⟩ := e
    unfold cvv
    unfold En.agg at HL HM ⊢
    simp only [] at HL HM HCV HEV HO ⊢
    go_enter Tryz.func148, Tryz.ntmps148
    obtain ⟨W0, hW0⟩ : ∃ x, (w.alloc (.cells #[.slice a1 n1 c1, .slice a2 n2 c2, .string k, .int .i64 p, .int .i64 s] 164)).alloc (.cells #[.string k', .int .i64 p', .int .i64 s'] 89) = x := ⟨_, rfl⟩
    rw [hW0] at HCV HEV HO
    go_upto_region 1 with fail
    clear hW0
    have c2 := HCV.out.c2
    have c3 := HCV.out.c3
    have c4 := HCV.out.c4
    simp only [] at c2 c3 c4
    go_wp2_with fail
    refine (HL.out _).mono ?_
    rintro x w1 ⟨rfl, ho⟩
    have HO1 := hide (o2 HO.out ho)
    have HC1 := hide (HCV.out.more ho)
    have HE1 := hide (HEV.out.more ho)
    clear ho c2 c3 c4
    have c2 := HC1.out.c2
    have c3 := HC1.out.c3
    have c4 := HC1.out.c4
    have d0 := HE1.out.c0
    have d1 := HE1.out.c1
    have d2 := HE1.out.c2
    simp only [] at c2 c3 c4 d0 d1 d2
    go_wp2_with fail
    refine (HM.out _).mono ?_
    rintro x w2 ⟨rfl, ho⟩
    have HO2 := hide (o2 HO1.out ho)
    clear ho
    go_wp2_with fail
    go_ret
    exact ⟨rfl, HO2.out⟩
/-- A High is that of hi. -/
def HiIs (h : ByteArray) (hi : En) : Prop := (h = ⟨#[]⟩ ∧ hi = noE) ∨ (h = hi.enc ∧ hi.ok = true)
/-- A page as a value. -/
def pgv (a k v r : Int) (h : ByteArray) (ao : Option Addr) (n cp : Nat) : Value := .agg #[.int .i64 a, .int .i64 k, .int .i64 v, .int .i64 r, .string h, .slice ao n cp]
theorem HiIs.dec {h : ByteArray} {hi : En} (x : h = hi.enc) (ho : hi.ok = true) : decE (bl h) = some hi := by
  rw [x, bl_enc, decE_lay ho]
theorem enc_ne {hi : En} : ¬ hi.enc = (⟨#[]⟩ : ByteArray) := by
  intro e
  have h1 : bl hi.enc = [] := by rw [e]
  rw [bl_enc] at h1
  have h2 : (txL hi.key).length = 0 := by
    have := congrArg List.length h1
    unfold En.lay at this
    simp only [List.length_append, List.length_nil] at this
    omega
  unfold txL at h2
  have h3 : 0 < (sev hi.key.size).length := by unfold sev sevF; split <;> simp
  simp only [List.length_append] at h2
  omega
/-- The boxes of a page and of an entry that is answered. -/
theorem hd_new (w : World) (v0 v1 v2 v3 v4 v5 : Value) : Pag ((w.alloc (.cells #[v0, v1, v2, v3, v4, v5] 37)).alloc (.cells #[.string ⟨#[]⟩, .int .i64 0, .int .i64 0] 89)) w.heap.size v0 v1 v2 v3 v4 v5 ∧ Ev ((w.alloc (.cells #[v0, v1, v2, v3, v4, v5] 37)).alloc (.cells #[.string ⟨#[]⟩, .int .i64 0, .int .i64 0] 89)) (w.heap.size + 1) noE ∧ Only (fun _ => False) w ((w.alloc (.cells #[v0, v1, v2, v3, v4, v5] 37)).alloc (.cells #[.string ⟨#[]⟩, .int .i64 0, .int .i64 0] 89)) := by
  refine ⟨(Pag.new w v0 v1 v2 v3 v4 v5).more (onlyA _ _), ?_, o2 (onlyA _ _) (onlyA _ _)⟩
  have e1 := Ev.zero (w.alloc (.cells #[v0, v1, v2, v3, v4, v5] 37))
  rw [World.size_alloc] at e1
  exact e1
set_option maxHeartbeats 1600000 in
theorem readHead_ok (w : World) (a v r : Int) (h : ByteArray) (hi : En) (ao : Option Addr) (n cp : Nat) (hv : 0 ≤ v ∧ v ≤ 255) (hr : 0 ≤ r ∧ r ≤ 65535) (hh : HiIs h hi) :
    Calls Tryz.prog 124 #[pgv a 3 v r h ao n cp] w fun e w' => e = .returned (.tuple #[hi.agg, .bool true]) ∧ Only (fun _ => False) w w' := by
  have HX := hide (hd_new w (.int .i64 a) (.int .i64 3) (.int .i64 v) (.int .i64 r) (.string h) (.slice ao n cp))
  have HN : Hid (∀ W, Calls Tryz.prog 126 #[.int .i64 r] W fun e w' => e = .returned (.bool true) ∧ w' = W) := fun W => by
    have := isNumber_any r W
    rwa [show nm r = true by unfold nm; simp; omega] at this
  have t1 : ¬ v < 0 := by omega
  have t2 : ¬ (255 : Int) < v := by omega
  clear hv hr
  unfold pgv
  rcases hh with ⟨rfl, rfl⟩ | ⟨hx, ho⟩
  · go_enter Tryz.func124, Tryz.ntmps124
    go_upto_region 1 with fail
    obtain ⟨W0, hW0⟩ : ∃ x, (w.alloc (.cells #[.int .i64 a, .int .i64 3, .int .i64 v, .int .i64 r, .string ⟨#[]⟩, .slice ao n cp] 37)).alloc (.cells #[.string ⟨#[]⟩, .int .i64 0, .int .i64 0] 89) = x := ⟨_, rfl⟩
    rw [hW0] at HX ⊢
    clear hW0
    obtain ⟨p0, p1, p2, p3, p4, p5, _⟩ := HX.out.1
    obtain ⟨q0, q1, q2, g0, g1, g2, ql⟩ := HX.out.2.1
    go_wp2_with fail
    refine (HN.out _).mono ?_
    rintro x w1 ⟨rfl, h1⟩
    obtain rfl := h1.symm
    go_wp2_with fail
    refine bodyPost_ret (results_ev rfl rfl (HX.out.2.1.all noE)) rfl ?_
    exact ⟨rfl, HX.out.2.2.trans (Only.three _ _ _ _ _) (fun i hi e => by omega)⟩
  · have HD : Hid (∀ W, Calls Tryz.prog 99 #[.string h] W fun e w' => e = .returned (.tuple #[.agg #[.string hi.key, .int .i64 hi.page, .int .i64 hi.slot], .int .i64 0]) ∧ Only (fun _ => False) W w') := fun W => by
      have := decode_any h W
      rw [HiIs.dec hx ho] at this
      exact this
    have hne := ba_neN (s := h) (t := ⟨#[]⟩) (by rw [hx]; exact enc_ne)
    have hne' : ¬ h.toList = [] := by
      have h2 : ¬ h.toList = (⟨#[]⟩ : ByteArray).toList := by simpa using hne
      rw [ByteArray.toList_eq ⟨#[]⟩] at h2
      exact h2
    have hn1 : (h.toList == []) = false := by simpa using hne'
    have hn2 : h.toList.isEmpty = false := by
      cases e : h.toList with
      | nil => exact absurd e hne'
      | cons _ _ => rfl
    clear hx ho hne
    go_enter Tryz.func124, Tryz.ntmps124
    go_upto_region 1 with fail
    obtain ⟨W0, hW0⟩ : ∃ x, (w.alloc (.cells #[.int .i64 a, .int .i64 3, .int .i64 v, .int .i64 r, .string h, .slice ao n cp] 37)).alloc (.cells #[.string ⟨#[]⟩, .int .i64 0, .int .i64 0] 89) = x := ⟨_, rfl⟩
    rw [hW0] at HX ⊢
    clear hW0
    obtain ⟨p0, p1, p2, p3, p4, p5, _⟩ := HX.out.1
    go_wp2_with fail
    refine (HN.out _).mono ?_
    rintro x w1 ⟨rfl, h1⟩
    obtain rfl := h1.symm
    go_wp2_with fail
    refine (HD.out _).mono ?_
    rintro x w2 ⟨rfl, ho⟩
    have HE2 := hide (HX.out.2.1.more ho)
    have HO2 := hide (o2 HX.out.2.2 ho)
    clear ho p0 p1 p2 p3 p4 p5 HX
    go_upto_region 6 with fail
    have HE3 := hide (HE2.out.more (onlyA w2 (.cells #[.string hi.key, .int .i64 hi.page, .int .i64 hi.slot] 89)))
    have HO3 := hide (o2 HO2.out (onlyA w2 (.cells #[.string hi.key, .int .i64 hi.page, .int .i64 hi.slot] 89)))
    have HV3 := hide (Ev.new w2 hi)
    clear HE2 HO2
    obtain ⟨W3, hW3⟩ : ∃ x, w2.alloc (.cells #[.string hi.key, .int .i64 hi.page, .int .i64 hi.slot] 89) = x := ⟨_, rfl⟩
    rw [hW3] at HE3 HO3 HV3 ⊢
    clear hW3
    obtain ⟨q0, q1, q2, g0, g1, g2, ql⟩ := HE3.out
    obtain ⟨d0, d1, d2, _⟩ := HV3.out
    go_wp2_with fail
    refine bodyPost_ret (results_ev rfl rfl (HE3.out.all hi)) rfl ?_
    exact ⟨rfl, HO3.out.trans (Only.three _ _ _ _ _) (fun i hi e => by omega)⟩
theorem readHead_bad (w : World) (a k v r : Int) (h : ByteArray) (ao : Option Addr) (n cp : Nat) (hk : ¬ k = 3) :
    Calls Tryz.prog 124 #[pgv a k v r h ao n cp] w fun e w' => e = .returned (.tuple #[noE.agg, .bool false]) ∧ Only (fun _ => False) w w' := by
  have HX := hide (hd_new w (.int .i64 a) (.int .i64 k) (.int .i64 v) (.int .i64 r) (.string h) (.slice ao n cp))
  have t1 : (k != 3) = true := by simpa using hk
  clear hk
  unfold pgv
  go_enter Tryz.func124, Tryz.ntmps124
  go_upto_region 1 with fail
  obtain ⟨W0, hW0⟩ : ∃ x, (w.alloc (.cells #[.int .i64 a, .int .i64 k, .int .i64 v, .int .i64 r, .string h, .slice ao n cp] 37)).alloc (.cells #[.string ⟨#[]⟩, .int .i64 0, .int .i64 0] 89) = x := ⟨_, rfl⟩
  rw [hW0] at HX ⊢
  clear hW0
  obtain ⟨p0, p1, p2, p3, p4, p5, _⟩ := HX.out.1
  obtain ⟨q0, q1, q2, g0, g1, g2, ql⟩ := HX.out.2.1
  go_wp2_with fail
  refine bodyPost_ret (results_ev rfl rfl (HX.out.2.1.all noE)) rfl ?_
  exact ⟨rfl, HX.out.2.2.trans (Only.three _ _ _ _ _) (fun i hi e => by omega)⟩
/-- Entries as cells. -/
def ecs (es : List En) : List Value := es.flatMap fun e => [.string e.key, .int .i64 e.page, .int .i64 e.slot]
theorem ecs_len (es : List En) : (ecs es).length = es.length * 3 := by
  induction es with
  | nil => rfl
  | cons e es ih => simp only [ecs, List.flatMap_cons, List.length_append, List.length_cons, List.length_nil] at ih ⊢; omega
theorem ecs_app (es fs : List En) : ecs (es ++ fs) = ecs es ++ ecs fs := by simp [ecs]
theorem ecs_get (es : List En) (j : Nat) (h : j < es.length) : (ecs es)[j * 3]? = some (.string es[j].key) ∧ (ecs es)[j * 3 + 1]? = some (.int .i64 es[j].page) ∧ (ecs es)[j * 3 + 2]? = some (.int .i64 es[j].slot) := by
  induction es generalizing j with
  | nil => simp at h
  | cons e es ih =>
    have hc : ecs (e :: es) = [.string e.key, .int .i64 e.page, .int .i64 e.slot] ++ ecs es := rfl
    rw [hc]
    cases j with
    | zero => exact ⟨rfl, rfl, rfl⟩
    | succ j =>
      obtain ⟨a, b, c⟩ := ih j (by simpa using h)
      refine ⟨?_, ?_, ?_⟩
      · rw [List.getElem?_append_right (by simp; omega)]
        simpa [show (j + 1) * 3 - 3 = j * 3 by omega] using a
      · rw [List.getElem?_append_right (by simp; omega)]
        simpa [show (j + 1) * 3 + 1 - 3 = j * 3 + 1 by omega] using b
      · rw [List.getElem?_append_right (by simp; omega)]
        simpa [show (j + 1) * 3 + 2 - 3 = j * 3 + 2 by omega] using c
theorem ecs_one (es : List En) : ∀ u ∈ ecs es, u.oneCell' = true := by
  intro u hu
  simp only [ecs, List.mem_flatMap] at hu
  obtain ⟨e, _, hu⟩ := hu
  simp only [List.mem_cons, List.not_mem_nil, or_false] at hu
  rcases hu with rfl | rfl | rfl <;> rfl
/-- Entries that can be read: in block B from the slice's place on. -/
structure Els (w : World) (B : Nat) (ao : Option Addr) (es : List En) : Prop where
  at_ : 0 < es.length → ∃ o, ao = some ⟨B, o, none⟩ ∧ ∀ j (h : j < es.length), Eb w B (o + j * 3) es[j]
theorem Els.nil (w : World) (B : Nat) (ao : Option Addr) : Els w B ao [] := ⟨fun h => absurd h (by simp)⟩
theorem Els.kept {S : Nat → Prop} {w w' : World} {B : Nat} {ao : Option Addr} {es : List En} (h : Els w B ao es) (ho : Only S w w') (hS : 0 < es.length → ¬ S B) : Els w' B ao es :=
  ⟨fun h0 => by
    obtain ⟨o, e, hc⟩ := h.at_ h0
    exact ⟨o, e, fun j hj => (hc j hj).kept ho (hS h0)⟩⟩
theorem Els.more {w w' : World} {B : Nat} {ao : Option Addr} {es : List En} (h : Els w B ao es) (ho : Only (fun _ => False) w w') : Els w' B ao es := h.kept ho (fun _ h => h)
/-- Entries that the value v owns, in a block from base on. -/
def Ets (w : World) (base : Nat) (v : Value) (es : List En) : Prop := w.ownsRow base 89 3 v es.length (ecs es)
theorem Ets.nil (w : World) (base : Nat) : Ets w base (.slice none 0 0) [] := World.ownsRow_nil _ _ _ _
theorem Ets.kept {S : Nat → Prop} {w w' : World} {base : Nat} {v : Value} {es : List En} (h : Ets w base v es) (ho : Only S w w') (hS : ∀ k, v.ownBlock = some k → ¬ S k) : Ets w' base v es := by
  obtain ⟨h1, h2⟩ := h
  refine ⟨h1, ?_⟩
  rcases h2 with h2 | ⟨g, cap, cur, hv, hg, hh, r⟩
  · exact .inl h2
  · subst hv
    exact .inr ⟨g, cap, cur, rfl, hg, by rw [ho.block g (Array.getElem?_eq_some_iff.1 hh).1 (hS g rfl)]; exact hh, r⟩
theorem Ets.more {w w' : World} {base : Nat} {v : Value} {es : List En} (h : Ets w base v es) (ho : Only (fun _ => False) w w') : Ets w' base v es := h.kept ho (fun _ _ h => h)
theorem Ets.form {w : World} {base : Nat} {v : Value} {es : List En} (h : Ets w base v es) : ∃ ao cp, v = .slice ao es.length cp := by
  rcases h.2 with ⟨rfl, h0⟩ | ⟨g, cap, cur, rfl, _⟩
  · exact ⟨none, 0, by rw [h0]⟩
  · exact ⟨_, _, rfl⟩
theorem Ets.els {w : World} {base : Nat} {v : Value} {es : List En} (h : Ets w base v es) : ∃ B ao cp, v = .slice ao es.length cp ∧ Els w B ao es ∧ (0 < es.length → base ≤ B) ∧ (∀ k, v.ownBlock = some k → base ≤ k ∧ k < w.heap.size) := by
  have h' := h
  have hlt : ∀ k, v.ownBlock = some k → base ≤ k ∧ k < w.heap.size := fun k hk => World.ownsRow.lt h' k hk
  rcases h.2 with ⟨rfl, h0⟩ | ⟨g, cap, cur, rfl, hb, hh, _⟩
  · exact ⟨0, none, 0, by rw [h0], ⟨fun hp => by omega⟩, fun hp => by omega, hlt⟩
  · refine ⟨g, _, cap, rfl, ⟨fun _ => ⟨0, rfl, fun j hj => ?_⟩⟩, fun _ => hb, hlt⟩
    obtain ⟨a, b, c⟩ := ecs_get es j hj
    have hl := ecs_len es
    refine ⟨?_, ?_, ?_, (Array.getElem?_eq_some_iff.1 hh).1⟩
    · rw [Nat.zero_add, World.ownsRow.cellAt h' _ (by omega)]; exact a
    · rw [Nat.zero_add, World.ownsRow.cellAt h' _ (by omega)]; exact b
    · rw [Nat.zero_add, World.ownsRow.cellAt h' _ (by omega)]; exact c
theorem Tryz.infoEn : (Tryz.prog.info? 89).map (fun i => (i.zero, i.size, i.bytes)) = some (some (.agg #[.string ⟨#[]⟩, .int .i64 0, .int .i64 0]), 3, 32) := by kernel_rfl
/-- Entries appended to an owned list: those of another slice. -/
theorem ets_append (w : World) (base : Nat) (v : Value) (es : List En) (h : Ets w base v es) (B o m c : Nat) (fs : List En) (hm : fs.length = m) (hf : ∀ j (hj : j < fs.length), Eb w B (o + j * 3) fs[j]) (hl : es.length + m ≤ 4194304) (hbase : base ≤ w.heap.size) :
    ∃ ao cp w', (Builtin.append_ #[92, 92] 92 #[v, .slice (some ⟨B, o, none⟩) m c]).run Tryz.prog w = .ok (.slice ao (es.length + m) cp) w' ∧ Ets w' base (.slice ao (es.length + m) cp) (es ++ fs) ∧ Only (fun j => v.ownBlock = some j) w w' ∧ ((Value.slice ao (es.length + m) cp).ownBlock = v.ownBlock ∨ (Value.slice ao (es.length + m) cp).ownBlock = some w.heap.size) := by
  obtain ⟨i0, hi, hz0, hz1, hz2⟩ := info_parts Tryz.infoEn
  obtain ⟨v', w', hr, h2, h3, _, h4⟩ := run_append_own_at (P := Tryz.prog) w base 92 92 89 i0 (.agg #[.string ⟨#[]⟩, .int .i64 0, .int .i64 0]) 3 32 Tryz.underlying92 hi hz0 hz1 hz2 rfl (by decide) v es.length (ecs es) h ⟨B, o, none⟩ m c (ecs fs) (by rw [ecs_len, hm])
    (fun j u hu => by
      have hj : j < fs.length * 3 := by
        have := (List.getElem?_eq_some_iff.1 hu).1
        rwa [ecs_len] at this
      obtain ⟨q, r, rfl, hr⟩ : ∃ q r, j = q * 3 + r ∧ r < 3 := ⟨j / 3, j % 3, by omega, by omega⟩
      have hq : q < fs.length := by omega
      obtain ⟨a1, a2, a3⟩ := ecs_get fs q hq
      have hE := hf q hq
      rw [add_at, ← Nat.add_assoc]
      match r, hr with
      | 0, _ =>
        rw [Nat.add_zero] at hu ⊢
        rw [a1] at hu
        cases hu
        exact hE.c0
      | 1, _ =>
        rw [a2] at hu
        cases hu
        exact hE.c1
      | 2, _ =>
        rw [a3] at hu
        cases hu
        exact hE.c2) (ecs_one fs) (by unfold maxLen; omega) (by omega) hbase
  have e : Ets w' base v' (es ++ fs) := by
    unfold Ets
    rw [ecs_app, List.length_append, hm]
    exact h2
  obtain ⟨ao, cp, rfl⟩ := e.form
  rw [List.length_append, hm] at hr e h4
  exact ⟨ao, cp, w', hr, e, Only.grown h3 (fun j hj => hj), h4⟩
/-- A list of entries made empty. -/
theorem ets_made (n : Nat) (hn : n ≤ 1048576) : ∃ O : Obj, (∀ W : World, (Instr.makeSlice 92 (.int .i64 0) (.int .i64 (n : Int))).run Tryz.prog W = .ok (.slice (some ⟨W.heap.size, 0, none⟩) 0 n) (W.alloc O)) ∧
    (∀ (W : World) (base : Nat), base ≤ W.heap.size → Ets (W.alloc O) base (.slice (some ⟨W.heap.size, 0, none⟩) 0 n) []) := by
  obtain ⟨i0, hi, hz0, hz1, hz2⟩ := info_parts Tryz.infoEn
  refine ⟨.cells (madeCells (Value.agg #[.string ⟨#[]⟩, .int .i64 0, .int .i64 0]).cells ((n : Int).toNat * i0.size)) 89, fun W => ?_, fun W base hb => ?_⟩
  · have h := run_make (P := Tryz.prog) W 92 89 i0 (.agg #[.string ⟨#[]⟩, .int .i64 0, .int .i64 0]) Tryz.underlying92 hi hz0 .i64 .i64 0 (n : Int) (by omega) (by omega) (by rw [hz2]; omega) (by omega)
    simpa using h
  · obtain ⟨w', hmk, hown, hgr⟩ := run_make_own (P := Tryz.prog) W base 92 89 i0 (.agg #[.string ⟨#[]⟩, .int .i64 0, .int .i64 0]) 3 Tryz.underlying92 hi hz0 hz1 .i64 .i64 n (by rw [hz2]; omega) (by unfold maxLen; omega) hb
    have h := run_make (P := Tryz.prog) W 92 89 i0 (.agg #[.string ⟨#[]⟩, .int .i64 0, .int .i64 0]) Tryz.underlying92 hi hz0 .i64 .i64 0 (n : Int) (by omega) (by omega) (by rw [hz2]; omega) (by omega)
    rw [hmk] at h
    simp at h
    subst h
    exact hown
/-- Numbers that the value v owns. -/
def ncs (ks : List Int) : List Value := ks.map fun k => Value.int .i64 k
theorem ncs_len (ks : List Int) : (ncs ks).length = ks.length := by simp [ncs]
def Kts (w : World) (base : Nat) (v : Value) (ks : List Int) : Prop := w.ownsRow base 3 1 v ks.length (ncs ks)
theorem Kts.nil (w : World) (base : Nat) : Kts w base (.slice none 0 0) [] := World.ownsRow_nil _ _ _ _
theorem Kts.kept {S : Nat → Prop} {w w' : World} {base : Nat} {v : Value} {es : List Int} (h : Kts w base v es) (ho : Only S w w') (hS : ∀ k, v.ownBlock = some k → ¬ S k) : Kts w' base v es := by
  obtain ⟨h1, h2⟩ := h
  refine ⟨h1, ?_⟩
  rcases h2 with h2 | ⟨g, cap, cur, hv, hg, hh, r⟩
  · exact .inl h2
  · subst hv
    exact .inr ⟨g, cap, cur, rfl, hg, by rw [ho.block g (Array.getElem?_eq_some_iff.1 hh).1 (hS g rfl)]; exact hh, r⟩
theorem Kts.more {w w' : World} {base : Nat} {v : Value} {es : List Int} (h : Kts w base v es) (ho : Only (fun _ => False) w w') : Kts w' base v es := h.kept ho (fun _ _ h => h)
theorem Kts.form {w : World} {base : Nat} {v : Value} {es : List Int} (h : Kts w base v es) : ∃ ao cp, v = .slice ao es.length cp := by
  rcases h.2 with ⟨rfl, h0⟩ | ⟨g, cap, cur, rfl, _⟩
  · exact ⟨none, 0, by rw [h0]⟩
  · exact ⟨_, _, rfl⟩
/-- Number j, where there is one. -/
theorem Kts.at_ {w : World} {base : Nat} {v : Value} {ks : List Int} (h : Kts w base v ks) (j : Nat) (hj : j < ks.length) : ∃ g cp, v = .slice (some ⟨g, 0, none⟩) ks.length cp ∧ base ≤ g ∧ g < w.heap.size ∧ w.cell? ⟨g, j, none⟩ = some (.int .i64 ks[j]) := by
  have h' := h
  rcases h.2 with ⟨rfl, h0⟩ | ⟨g, cap, cur, rfl, hb, hh, _⟩
  · omega
  · refine ⟨g, cap, rfl, hb, (Array.getElem?_eq_some_iff.1 hh).1, ?_⟩
    rw [World.ownsRow.cellAt h' _ (by omega)]
    simp [ncs, hj]
theorem Tryz.infoIn : (Tryz.prog.info? 3).map (fun i => (i.zero, i.size, i.bytes)) = some (some (.int .i64 0), 1, 8) := by kernel_rfl
theorem kts_append (w : World) (base : Nat) (v : Value) (es : List Int) (h : Kts w base v es) (B : Nat) (k : Int) (hf : w.cell? ⟨B, 0, none⟩ = some (.int .i64 k)) (hl : es.length ≤ 4194304) (hbase : base ≤ w.heap.size) :
    ∃ ao cp w', (Builtin.append_ #[38, 38] 38 #[v, .slice (some ⟨B, 0, none⟩) 1 1]).run Tryz.prog w = .ok (.slice ao (es.length + 1) cp) w' ∧ Kts w' base (.slice ao (es.length + 1) cp) (es ++ [k]) ∧ Only (fun j => v.ownBlock = some j) w w' ∧ ((Value.slice ao (es.length + 1) cp).ownBlock = v.ownBlock ∨ (Value.slice ao (es.length + 1) cp).ownBlock = some w.heap.size) := by
  obtain ⟨i0, hi, hz0, hz1, hz2⟩ := info_parts Tryz.infoIn
  obtain ⟨v', w', hr, h2, h3, _, h4⟩ := run_append_own_at (P := Tryz.prog) w base 38 38 3 i0 (.int .i64 0) 1 8 Tryz.underlying38 hi hz0 hz1 hz2 rfl (by decide) v es.length (ncs es) h ⟨B, 0, none⟩ 1 1 (ncs [k]) rfl
    (fun j u hu => by
      match j, hu with
      | 0, hu => simp [ncs] at hu; subst hu; simpa [Addr.add] using hf) (by intro u hu; simp [ncs] at hu; subst hu; rfl) (by unfold maxLen; omega) (by omega) hbase
  have e : Kts w' base v' (es ++ [k]) := by
    unfold Kts
    rw [show ncs (es ++ [k]) = ncs es ++ ncs [k] by simp [ncs], List.length_append]
    exact h2
  obtain ⟨ao, cp, rfl⟩ := e.form
  rw [List.length_append] at hr e h4
  exact ⟨ao, cp, w', hr, e, Only.grown h3 (fun j hj => hj), h4⟩
theorem kts_made (n : Nat) (hn : n ≤ 1048576) : ∃ O : Obj, (∀ W : World, (Instr.makeSlice 38 (.int .i64 0) (.int .i64 (n : Int))).run Tryz.prog W = .ok (.slice (some ⟨W.heap.size, 0, none⟩) 0 n) (W.alloc O)) ∧
    (∀ (W : World) (base : Nat), base ≤ W.heap.size → Kts (W.alloc O) base (.slice (some ⟨W.heap.size, 0, none⟩) 0 n) []) := by
  obtain ⟨i0, hi, hz0, hz1, hz2⟩ := info_parts Tryz.infoIn
  refine ⟨.cells (madeCells (Value.int .i64 0).cells ((n : Int).toNat * i0.size)) 3, fun W => ?_, fun W base hb => ?_⟩
  · have h := run_make (P := Tryz.prog) W 38 3 i0 (.int .i64 0) Tryz.underlying38 hi hz0 .i64 .i64 0 (n : Int) (by omega) (by omega) (by rw [hz2]; omega) (by omega)
    simpa using h
  · obtain ⟨w', hmk, hown, hgr⟩ := run_make_own (P := Tryz.prog) W base 38 3 i0 (.int .i64 0) 1 Tryz.underlying38 hi hz0 hz1 .i64 .i64 n (by rw [hz2]; omega) (by unfold maxLen; omega) hb
    have h := run_make (P := Tryz.prog) W 38 3 i0 (.int .i64 0) Tryz.underlying38 hi hz0 .i64 .i64 0 (n : Int) (by omega) (by omega) (by rw [hz2]; omega) (by omega)
    rw [hmk] at h
    simp at h
    subst h
    exact hown
theorem load_eb {w : World} {b o : Nat} {e : En} (h : Eb w b o e) : (loadVar 89 ⟨b, o, none⟩).run Tryz.prog w = .ok e.agg w := by
  have c0 := h.c0
  have c1 := h.c1
  have c2 := h.c2
  simp [loadVar, go_sem, c0, c1, c2, En.agg]
theorem Ev.eb {w : World} {b : Nat} {e : En} (h : Ev w b e) : Eb w b 0 e := ⟨h.c0, h.c1, h.c2, h.lt⟩
theorem yieldsIf_load_eb {ops : Array Oper} {S : World → Prop} {op : Oper} {a : Act} {e : En} (hw : Region.wanted op (yielded ops a.tmps) = true) (x : Operand) (ho : op.op = .load 89 x)
    {b o : Nat} (hx : a.eval x = .pointer (some ⟨b, o, none⟩)) (hS : ∀ w, S w → Eb w b o e) : YieldsIf Tryz.prog ops S op (.agg #[.string e.key, .int .i64 e.page, .int .i64 e.slot]) a :=
  .inl ⟨hw, fun w hw' => by
    unfold execOp
    simp only [ho, hx, Instr.loadAt, Instr.sureAddr, Sem.run_bind, Sem.run_pure, Result.andThen_ok, load_eb (hS w hw'), En.agg]⟩
theorem yieldsIf_load_ev {ops : Array Oper} {S : World → Prop} {op : Oper} {a : Act} {e : En} (hw : Region.wanted op (yielded ops a.tmps) = true) (x : Operand) (ho : op.op = .load 89 x)
    {b : Nat} (hx : a.eval x = .pointer (some ⟨b, 0, none⟩)) (hS : ∀ w, S w → Ev w b e) : YieldsIf Tryz.prog ops S op (.agg #[.string e.key, .int .i64 e.page, .int .i64 e.slot]) a :=
  yieldsIf_load_eb hw x ho hx (fun w h => (hS w h).eb)
theorem yieldsIf_load_cv {ops : Array Oper} {S : World → Prop} {op : Oper} {a : Act} {a1 a2 : Option Addr} {n1 n2 c1 c2 : Nat} {e : En} (hw : Region.wanted op (yielded ops a.tmps) = true) (x : Operand) (ho : op.op = .load 164 x)
    {b : Nat} (hx : a.eval x = .pointer (some ⟨b, 0, none⟩)) (hS : ∀ w, S w → Cv w b (.slice a1 n1 c1) (.slice a2 n2 c2) e) : YieldsIf Tryz.prog ops S op (.agg #[.slice a1 n1 c1, .slice a2 n2 c2, .string e.key, .int .i64 e.page, .int .i64 e.slot]) a :=
  .inl ⟨hw, fun w hw' => by
    unfold execOp
    simp only [ho, hx, Instr.loadAt, Instr.sureAddr, Sem.run_bind, Sem.run_pure, Result.andThen_ok, load_cv (hS w hw'), cvv]⟩
theorem yieldsIf_load_page {ops : Array Oper} {S : World → Prop} {op : Oper} {a : Act} {v0 v1 v2 v3 v4 v5 : Value} (hw : Region.wanted op (yielded ops a.tmps) = true) (x : Operand) (ho : op.op = .load 37 x)
    (b : Nat) (hx : a.eval x = .pointer (some ⟨b, 0, none⟩)) (hS : ∀ w, S w → Pag w b v0 v1 v2 v3 v4 v5) : YieldsIf Tryz.prog ops S op (.agg #[v0, v1, v2, v3, v4, v5]) a :=
  .inl ⟨hw, fun w hw' => by
    unfold execOp
    simp only [ho, hx, Instr.loadAt, Instr.sureAddr, Sem.run_bind, Sem.run_pure, Result.andThen_ok, load_page (hS w hw')]⟩
theorem yieldsIf_load_cell {ops : Array Oper} {S : World → Prop} {op : Oper} {a : Act} {v : Value} (hw : Region.wanted op (yielded ops a.tmps) = true) (ty : TypeId) (x : Operand) (ho : op.op = .load ty x)
    (p : Addr) (hx : a.eval x = .pointer (some p)) (hS : ∀ w, S w → w.cell? p = some v) (hl : ∀ w, w.cell? p = some v → (loadVar ty p).run Tryz.prog w = .ok v w) : YieldsIf Tryz.prog ops S op v a :=
  .inl ⟨hw, fun w hw' => by
    unfold execOp
    simp only [ho, hx, Instr.loadAt, Instr.sureAddr, Sem.run_bind, Sem.run_pure, Result.andThen_ok, hl w (hS w hw')]⟩
theorem ld_int {w : World} {p : Addr} {v : Value} (h : w.cell? p = some v) : (loadVar 3 p).run Tryz.prog w = .ok v w := by simp [loadVar, go_sem, h]
theorem ld_string {w : World} {p : Addr} {v : Value} (h : w.cell? p = some v) : (loadVar 9 p).run Tryz.prog w = .ok v w := by simp [loadVar, go_sem, h]
theorem ld_strings {w : World} {p : Addr} {v : Value} (h : w.cell? p = some v) : (loadVar 35 p).run Tryz.prog w = .ok v w := by simp [loadVar, go_sem, h]
theorem ld_entries {w : World} {p : Addr} {v : Value} (h : w.cell? p = some v) : (loadVar 92 p).run Tryz.prog w = .ok v w := by simp [loadVar, go_sem, h]
theorem ld_ints {w : World} {p : Addr} {v : Value} (h : w.cell? p = some v) : (loadVar 38 p).run Tryz.prog w = .ok v w := by simp [loadVar, go_sem, h]
/-- A modulus. -/
def Md (m : Int) : Prop := 16 ≤ m ∧ m ≤ 1024 ∧ m % 2 = 0
instance (m : Int) : Decidable (Md m) := by unfold Md; infer_instance
/-- An id of the modulus m. -/
def Idd (m x : Int) : Prop := Md m ∧ 1 ≤ x ∧ x ≤ m
instance (m x : Int) : Decidable (Idd m x) := by unfold Idd; infer_instance
def xadd (m x n : Int) : Int := if Idd m x then (x - 1 + n) % m + 1 else 0
def xgap (m a b : Int) : Int := if Idd m a ∧ Idd m b then (b - a) % m else 0
def xbef (m a b : Int) : Bool := decide (1 ≤ xgap m a b ∧ xgap m a b ≤ m / 2 - 1)
/-- A number that an int may be. -/
def I64 (n : Int) : Prop := -9223372036854775808 ≤ n ∧ n < 9223372036854775808
theorem tmod2 {m : Int} (h : 0 ≤ m) : m.tmod 2 = m % 2 := Int.tmod_eq_emod_of_nonneg h
theorem emod_bd {m n : Int} (h : 16 ≤ m) : 0 ≤ n % m ∧ n % m < m := ⟨Int.emod_nonneg n (by omega), Int.emod_lt_of_pos n (by omega)⟩
theorem tmod_two {m n : Int} (h : 16 ≤ m) : n.tmod m = n % m ∨ (n.tmod m = n % m - m ∧ 0 < n % m) := by
  have h1 : n.tmod m = n % m - ↑(if 0 ≤ n ∨ m ∣ n then 0 else m.natAbs) := Int.tmod_eq_emod
  by_cases hc : 0 ≤ n ∨ m ∣ n
  · rw [if_pos hc] at h1
    exact .inl (by omega)
  · rw [if_neg hc] at h1
    have h2 := emod_bd (n := n) h
    have h3 : ¬ n % m = 0 := fun e => hc (.inr (Int.dvd_of_emod_eq_zero e))
    exact .inr ⟨by omega, by omega⟩
theorem tmod_bd {m n : Int} (h : 16 ≤ m) : -m < n.tmod m ∧ n.tmod m < m := by
  have h2 := emod_bd (n := n) h
  rcases tmod_two (n := n) h with e | ⟨e, _⟩ <;> rw [e] <;> omega
theorem around_is {m n : Int} (h : 16 ≤ m) : (n.tmod m + m).tmod m = n % m := by
  have h2 := emod_bd (n := n) h
  have h4 := tmod_bd (n := n) h
  rw [Int.tmod_eq_emod_of_nonneg (show 0 ≤ n.tmod m + m by omega)]
  rcases tmod_two (n := n) h with e | ⟨e, _⟩ <;> rw [e]
  · rw [Int.add_emod_right]; exact Int.emod_eq_of_lt h2.1 h2.2
  · rw [Int.sub_add_cancel]; exact Int.emod_eq_of_lt h2.1 h2.2
theorem plus_mod (y n m : Int) : (y + n % m) % m = (y + n) % m := by
  rw [Int.add_emod, Int.emod_emod_of_dvd _ (Int.dvd_refl m), ← Int.add_emod]
theorem add_is {m y n : Int} (h : 16 ≤ m) : (y + n.tmod m) % m = (y + n) % m := by
  rcases tmod_two (n := n) h with e | ⟨e, _⟩ <;> rw [e]
  · exact plus_mod y n m
  · rw [show y + (n % m - m) = y + n % m - m from by omega, Int.sub_emod_right]; exact plus_mod y n m
theorem xgap_bd {m a b : Int} : 0 ≤ xgap m a b ∧ xgap m a b < 1024 := by
  unfold xgap
  split
  · rename_i h
    have := emod_bd (m := m) (n := b - a) h.1.1.1
    have := h.1.1.2.1
    omega
  · omega
theorem xadd_id {m x n : Int} (h : Idd m x) : Idd m (xadd m x n) := by
  unfold xadd
  rw [if_pos h]
  have := emod_bd (m := m) (n := x - 1 + n) h.1.1
  exact ⟨h.1, by omega, by omega⟩
theorem xadd_bd {m x n : Int} : 0 ≤ xadd m x n ∧ xadd m x n ≤ 1024 := by
  by_cases h : Idd m x
  · have h1 := xadd_id (n := n) h
    have := h1.1.2.1
    have := h1.2
    omega
  · unfold xadd; rw [if_neg h]; omega
theorem mod_back {m y : Int} (h0 : -m ≤ y) (h1 : y < m) : y % m = if 0 ≤ y then y else y + m := by
  split
  · exact Int.emod_eq_of_lt (by omega) (by omega)
  · have e : y = (y + m) - m := by omega
    rw [e, Int.sub_emod_right, Int.emod_eq_of_lt (by omega) (by omega)]
    omega
theorem ring_gap {m a b : Int} (h : Idd m a) (h' : Idd m b) : xgap m a b = if a ≤ b then b - a else b - a + m := by
  have hm := h.1.1
  have h2 := h.2
  have h3 := h'.2
  unfold xgap
  rw [if_pos ⟨h, h'⟩, mod_back (by omega) (by omega)]
  split <;> split <;> omega
theorem isModulus_any (m : Int) (w : World) (hm : I64 m) :
    Calls Tryz.prog 153 #[.int .i64 m] w fun e w' => e = .returned (.bool (decide (Md m))) ∧ w' = w := by
  have hm1 := hm.1
  have hm2 := hm.2
  clear hm
  by_cases h1 : 16 ≤ m
  · by_cases h2 : m ≤ 1024
    · have ht : m.tmod 2 = m % 2 := tmod2 (by omega)
      cases h3 : (m % 2 == 0)
      all_goals
        have HX : (decide (Md m) = (m % 2 == 0)) := by
          unfold Md; rw [h3]; simp at h3; simp [h1, h2, h3]
        rw [HX, h3]
        go_enter Tryz.func153, Tryz.ntmps153
        go_wp2
        go_ret
        exact ⟨rfl, rfl⟩
    · rw [show decide (Md m) = false from by unfold Md; simp [h2]]
      go_enter Tryz.func153, Tryz.ntmps153
      go_wp2
      go_ret
      exact ⟨rfl, rfl⟩
  · rw [show decide (Md m) = false from by unfold Md; simp [h1]]
    go_enter Tryz.func153, Tryz.ntmps153
    go_wp2
    go_ret
    exact ⟨rfl, rfl⟩
theorem isID_any (m x : Int) (w : World) (hm : I64 m) (hx : I64 x) :
    Calls Tryz.prog 109 #[.int .i64 m, .int .i64 x] w fun e w' => e = .returned (.bool (decide (Idd m x))) ∧ w' = w := by
  have hc := isModulus_any m w hm
  have hm1 := hm.1
  have hm2 := hm.2
  have hx1 := hx.1
  have hx2 := hx.2
  clear hm hx
  by_cases hM : Md m
  · rw [decide_eq_true hM] at hc
    by_cases h1 : 1 ≤ x
    · by_cases h2 : x ≤ m
      · rw [show decide (Idd m x) = true from by unfold Idd; simp [h1, h2, hM]]
        clear hM
        go_enter Tryz.func109, Tryz.ntmps109
        go_wp2_with (go_at_call 153; refine hc.mono ?_; rintro e w' ⟨rfl, hw⟩; obtain rfl := hw.symm; clear hw)
        go_ret
        exact ⟨rfl, rfl⟩
      · rw [show decide (Idd m x) = false from by unfold Idd; simp [h2]]
        have hd : decide (x ≤ m) = false := decide_eq_false h2
        clear hM
        go_enter Tryz.func109, Tryz.ntmps109
        go_wp2_with (go_at_call 153; refine hc.mono ?_; rintro e w' ⟨rfl, hw⟩; obtain rfl := hw.symm; clear hw)
        go_ret
        exact ⟨rfl, rfl⟩
    · rw [show decide (Idd m x) = false from by unfold Idd; simp [h1]]
      clear hM
      go_enter Tryz.func109, Tryz.ntmps109
      go_wp2_with (go_at_call 153; refine hc.mono ?_; rintro e w' ⟨rfl, hw⟩; obtain rfl := hw.symm; clear hw)
      go_ret
      exact ⟨rfl, rfl⟩
  · rw [decide_eq_false hM] at hc
    rw [show decide (Idd m x) = false from by unfold Idd; simp [hM]]
    clear hM
    go_enter Tryz.func109, Tryz.ntmps109
    go_wp2_with (go_at_call 153; refine hc.mono ?_; rintro e w' ⟨rfl, hw⟩; obtain rfl := hw.symm; clear hw)
    go_ret
    exact ⟨rfl, rfl⟩
theorem around_any (m n : Int) (w : World) (h : 16 ≤ m) (h' : m ≤ 1024) (hn : I64 n) :
    Calls Tryz.prog 110 #[.int .i64 m, .int .i64 n] w fun e w' => e = .returned (.int .i64 (n % m)) ∧ w' = w := by
  have hn1 := hn.1
  have hn2 := hn.2
  clear hn
  have hb := tmod_bd (n := n) h
  have hr := around_is (n := n) h
  have he := emod_bd (n := n) h
  obtain ⟨k, hk⟩ : ∃ k, n.tmod m = k := ⟨_, rfl⟩
  obtain ⟨r, hr'⟩ : ∃ r, n % m = r := ⟨_, rfl⟩
  rw [hk] at hb hr
  rw [hr'] at hr he
  rw [hr']
  clear hr'
  go_enter Tryz.func110, Tryz.ntmps110
  go_wp2
  go_ret
  exact ⟨rfl, rfl⟩
/-- A version in block b. -/
structure Tb (w : World) (b : Nat) (t : Tu) : Prop where
  c0 : w.cell? ⟨b, 0, none⟩ = some (.int .i64 t.xmin)
  c1 : w.cell? ⟨b, 1, none⟩ = some (.int .i64 t.xmax)
  c2 : w.cell? ⟨b, 2, none⟩ = some (.bool t.frozen)
  c3 : w.cell? ⟨b, 3, none⟩ = some (.string t.key)
  c4 : w.cell? ⟨b, 4, none⟩ = some (.string t.value)
  f0 : w.frozen? ⟨b, 0, none⟩ = false
  f1 : w.frozen? ⟨b, 1, none⟩ = false
  f2 : w.frozen? ⟨b, 2, none⟩ = false
  f3 : w.frozen? ⟨b, 3, none⟩ = false
  f4 : w.frozen? ⟨b, 4, none⟩ = false
  lt : b < w.heap.size
theorem Tb.kept {S : Nat → Prop} {w w' : World} {b : Nat} {t : Tu} (h : Tb w b t) (ho : Only S w w') (hS : ¬ S b) : Tb w' b t :=
  ⟨(ho.cell (p := ⟨b, 0, none⟩) h.lt hS).trans h.c0, (ho.cell (p := ⟨b, 1, none⟩) h.lt hS).trans h.c1, (ho.cell (p := ⟨b, 2, none⟩) h.lt hS).trans h.c2, (ho.cell (p := ⟨b, 3, none⟩) h.lt hS).trans h.c3, (ho.cell (p := ⟨b, 4, none⟩) h.lt hS).trans h.c4,
   (ho.frozen (p := ⟨b, 0, none⟩) h.lt hS).trans h.f0, (ho.frozen (p := ⟨b, 1, none⟩) h.lt hS).trans h.f1, (ho.frozen (p := ⟨b, 2, none⟩) h.lt hS).trans h.f2, (ho.frozen (p := ⟨b, 3, none⟩) h.lt hS).trans h.f3, (ho.frozen (p := ⟨b, 4, none⟩) h.lt hS).trans h.f4, Nat.lt_of_lt_of_le h.lt ho.size⟩
theorem Tb.more {w w' : World} {b : Nat} {t : Tu} (h : Tb w b t) (ho : Only (fun _ => False) w w') : Tb w' b t := h.kept ho (fun h => h)
theorem Tb.new (w : World) (t : Tu) : Tb (w.alloc (.cells #[.int .i64 t.xmin, .int .i64 t.xmax, .bool t.frozen, .string t.key, .string t.value] 78)) w.heap.size t :=
  ⟨by simp, by simp, by simp, by simp, by simp, by simp, by simp, by simp, by simp, by simp, by simp⟩
theorem othU (W : World) (b i j : Nat) (v x : Value) (hij : i ≠ j) (hx : W.cell? ⟨b, j, none⟩ = some x) : (W.setCell ⟨b, i, none⟩ v).cell? ⟨b, j, none⟩ = some x :=
  (World.cell?_setCell_other _ _ _ _ (by intro e; injection e; omega)).trans hx
theorem Tb.s0 {w : World} {b : Nat} {t : Tu} (h : Tb w b t) (x : Int) : Tb (w.setCell ⟨b, 0, none⟩ (.int .i64 x)) b ⟨x, t.xmax, t.frozen, t.key, t.value⟩ :=
  ⟨World.cell?_setCell_same _ _ _ h.c0, othU _ _ _ _ _ _ (by omega) h.c1, othU _ _ _ _ _ _ (by omega) h.c2, othU _ _ _ _ _ _ (by omega) h.c3, othU _ _ _ _ _ _ (by omega) h.c4, by simpa using h.f0, by simpa using h.f1, by simpa using h.f2, by simpa using h.f3, by simpa using h.f4, by simpa using h.lt⟩
theorem Tb.s1 {w : World} {b : Nat} {t : Tu} (h : Tb w b t) (x : Int) : Tb (w.setCell ⟨b, 1, none⟩ (.int .i64 x)) b ⟨t.xmin, x, t.frozen, t.key, t.value⟩ :=
  ⟨othU _ _ _ _ _ _ (by omega) h.c0, World.cell?_setCell_same _ _ _ h.c1, othU _ _ _ _ _ _ (by omega) h.c2, othU _ _ _ _ _ _ (by omega) h.c3, othU _ _ _ _ _ _ (by omega) h.c4, by simpa using h.f0, by simpa using h.f1, by simpa using h.f2, by simpa using h.f3, by simpa using h.f4, by simpa using h.lt⟩
theorem Tb.s2 {w : World} {b : Nat} {t : Tu} (h : Tb w b t) (x : Bool) : Tb (w.setCell ⟨b, 2, none⟩ (.bool x)) b ⟨t.xmin, t.xmax, x, t.key, t.value⟩ :=
  ⟨othU _ _ _ _ _ _ (by omega) h.c0, othU _ _ _ _ _ _ (by omega) h.c1, World.cell?_setCell_same _ _ _ h.c2, othU _ _ _ _ _ _ (by omega) h.c3, othU _ _ _ _ _ _ (by omega) h.c4, by simpa using h.f0, by simpa using h.f1, by simpa using h.f2, by simpa using h.f3, by simpa using h.f4, by simpa using h.lt⟩
theorem Tb.s3 {w : World} {b : Nat} {t : Tu} (h : Tb w b t) (x : ByteArray) : Tb (w.setCell ⟨b, 3, none⟩ (.string x)) b ⟨t.xmin, t.xmax, t.frozen, x, t.value⟩ :=
  ⟨othU _ _ _ _ _ _ (by omega) h.c0, othU _ _ _ _ _ _ (by omega) h.c1, othU _ _ _ _ _ _ (by omega) h.c2, World.cell?_setCell_same _ _ _ h.c3, othU _ _ _ _ _ _ (by omega) h.c4, by simpa using h.f0, by simpa using h.f1, by simpa using h.f2, by simpa using h.f3, by simpa using h.f4, by simpa using h.lt⟩
theorem Tb.s4 {w : World} {b : Nat} {t : Tu} (h : Tb w b t) (x : ByteArray) : Tb (w.setCell ⟨b, 4, none⟩ (.string x)) b ⟨t.xmin, t.xmax, t.frozen, t.key, x⟩ :=
  ⟨othU _ _ _ _ _ _ (by omega) h.c0, othU _ _ _ _ _ _ (by omega) h.c1, othU _ _ _ _ _ _ (by omega) h.c2, othU _ _ _ _ _ _ (by omega) h.c3, World.cell?_setCell_same _ _ _ h.c4, by simpa using h.f0, by simpa using h.f1, by simpa using h.f2, by simpa using h.f3, by simpa using h.f4, by simpa using h.lt⟩
theorem Tb.all {w : World} {b : Nat} {u : Tu} (h : Tb w b u) (t : Tu) : Tb (((((w.setCell ⟨b, 0, none⟩ (.int .i64 t.xmin)).setCell ⟨b, 1, none⟩ (.int .i64 t.xmax)).setCell ⟨b, 2, none⟩ (.bool t.frozen)).setCell ⟨b, 3, none⟩ (.string t.key)).setCell ⟨b, 4, none⟩ (.string t.value)) b t :=
  ((((h.s0 t.xmin).s1 t.xmax).s2 t.frozen).s3 t.key).s4 t.value
theorem Only.fiveU (w : World) (b : Nat) (v0 v1 v2 v3 v4 : Value) : Only (fun k => k = b) w (((((w.setCell ⟨b, 0, none⟩ v0).setCell ⟨b, 1, none⟩ v1).setCell ⟨b, 2, none⟩ v2).setCell ⟨b, 3, none⟩ v3).setCell ⟨b, 4, none⟩ v4) := by
  have st : ∀ (W : World) (i : Nat) (v : Value), Only (fun k => k = b) W (W.setCell ⟨b, i, none⟩ v) := fun W i v => Only.setCell W ⟨b, i, none⟩ v rfl
  exact ((((st _ 0 _).trans (st _ 1 _) (fun _ _ h => h)).trans (st _ 2 _) (fun _ _ h => h)).trans (st _ 3 _) (fun _ _ h => h)).trans (st _ 4 _) (fun _ _ h => h)
theorem load_tub {w : World} {b : Nat} {t : Tu} (h : Tb w b t) : (loadVar 78 ⟨b, 0, none⟩).run Tryz.prog w = .ok t.agg w := by
  have c0 := h.c0
  have c1 := h.c1
  have c2 := h.c2
  have c3 := h.c3
  have c4 := h.c4
  simp [loadVar, go_sem, c0, c1, c2, c3, c4, Tu.agg]
theorem results_tub {fn : Func} {p u : Tmp} (h : fn.results = #[.cell p 78, .tmp u]) {tmps : Array Value} {w : World} {b : Nat} {t : Tu} (hp : tmps.getD p undef = .pointer (some ⟨b, 0, none⟩)) (hP : Tb w b t) :
    (results fn tmps).run Tryz.prog w = .ok (.tuple #[t.agg, tmps.getD u undef]) w := by
  have e : (asAddr (.pointer (some ⟨b, 0, none⟩))).run Tryz.prog w = .ok ⟨b, 0, none⟩ w := rfl
  rw [results_cell_tmp h, hp, e]
  simp only [Result.andThen, load_tub hP]
theorem ld_bool {w : World} {p : Addr} {v : Value} (h : w.cell? p = some v) : (loadVar 4 p).run Tryz.prog w = .ok v w := by simp [loadVar, go_sem, h]
/-- Texts as they are laid one behind the other. -/
def txsL (l : List ByteArray) : List UInt8 := (l.map txL).flatten
theorem txsL_snoc (l : List ByteArray) (k : Nat) (h : k < l.length) : txsL (l.take (k + 1)) = txsL (l.take k) ++ (sev l[k].size ++ l[k].data.toList) := by
  unfold txsL
  rw [List.take_succ_eq_append_getElem h, List.map_append, List.flatten_append]
  simp [txL]
set_option maxRecDepth 100000 in
set_option maxHeartbeats 800000 in
theorem ulaid_any (w : World) (B cp : Nat) (ao : Option Addr) (l : List ByteArray) (hS : Strs w B ao l) (hl : l.length ≤ 2) (hs : ∀ s ∈ l, s.size ≤ 100) :
    Calls Tryz.prog 82 #[.slice ao l.length cp] w fun e w' => e = .returned (.string (str (txsL l))) ∧ Only (fun _ => False) w w' := by
  have HS := hide hS
  have HZ := hide hs
  have HLN : Hid (∀ k, k ≤ l.length → (txsL (l.take k)).length ≤ 110 * k) := by
    intro k hk
    induction k with
    | zero => simp [txsL]
    | succ k ih =>
      rw [txsL_snoc l k (by omega)]
      have h1 := ih (by omega)
      have h2 : (sev l[k].size).length ≤ 10 := sevF_len 9 _
      have h3 := hs l[k] (List.getElem_mem _)
      have h4 : l[k].data.toList.length = l[k].size := bl_len _
      simp only [List.length_append]
      omega
  clear hS hs
  go_enter Tryz.func82, Tryz.ntmps82
  go_wp2_with fail
  refine (new_any w).mono ?_
  rintro e w1 ⟨rfl, rfl⟩
  have HW0 := hide (Wr.new w)
  have HO0 := hide (onlyA w (.cells #[.slice none 0 0] 189))
  obtain ⟨w1, hw1⟩ : ∃ x, w.alloc (.cells #[.slice none 0 0] 189) = x := ⟨_, rfl⟩
  rw [hw1] at HW0 HO0 ⊢
  clear hw1
  go_wp2_with fail
  go_loopw [9] (fun i wr => ∃ (k : Nat) (row : Option Nat), k ≤ l.length ∧ i = .int .i64 k ∧ Hid (Wr wr w.heap.size row (txsL (l.take k))) ∧ Hid (Only (fun _ => False) w wr))
    (fun i _ => l.length - (intOf i).toNat)
  case atStart => exact ⟨0, none, Nat.zero_le _, rfl, by simpa [txsL] using HW0, HO0⟩
  case round =>
    obtain ⟨k, row, hk, rfl, HW, HO⟩ := hrel
    by_cases hlt : k < l.length
    · obtain ⟨o, rfl, hc⟩ := HS.out.at_ (by omega)
      have hB := HS.out.lt (by omega)
      have ck : wr.cell? ⟨B, o + k, none⟩ = some (.string l[k]) := (HO.out.cell (p := ⟨B, o + k, none⟩) hB (fun h => h)).trans (hc k hlt)
      have hlk : (k : Int) < (l.length : Int) := by omega
      have h100 := HZ.out l[k] (List.getElem_mem hlt)
      have hll := HLN.out k hk
      have HE := hide (txsL_snoc l k hlt)
      obtain ⟨s, hs⟩ : ∃ s, l[k] = s := ⟨_, rfl⟩
      rw [hs] at ck h100 HE
      clear hc hs
      go_wp2_with fail
      refine (wtext_any wr w.heap.size row _ s HW.out (by omega)).mono ?_
      rintro e w2 ⟨rfl, row2, hW2, hg2⟩
      rw [← HE.out] at hW2
      have HW2 := hide hW2
      have HO2 : Hid (Only (fun _ => False) w w2) := HO.out.trans hg2.only (by
        rintro i hi (e | e)
        · omega
        · have := (HW.out.rowLt i e.symm).1
          omega)
      clear hW2 hg2
      go_wp2_with fail
      go_roundw
      case rel => exact ⟨k + 1, row2, by omega, by go_num, HW2, HO2⟩
      case measure => simp [intOf]; omega
    · have hlk : ¬ (k : Int) < (l.length : Int) := by omega
      have ek : l.take k = l := List.take_of_length_le (by omega)
      rw [ek] at HW
      go_wp2_with fail
      refine (wbytes_any wr w.heap.size row _ HW.out).mono ?_
      rintro e w2 ⟨rfl, rfl⟩
      go_wp2_with fail
      go_ret
      exact ⟨rfl, HO.out⟩
/-- Whether bytes begin with a dead slot's mark. -/
def fourB (l : List UInt8) : Bool := l.head? == some 4
theorem bl_inj {s t : ByteArray} (h : bl s = bl t) : s = t := by rw [← str_bl s, h, str_bl]
theorem ext_blU (s : ByteArray) (i j : Nat) : bl (s.extract i j) = ((bl s).drop i).take (j - i) := by
  unfold bl
  rw [ByteArray.data_extract, Array.toList_extract]
theorem ext_first (s : ByteArray) (h : 1 ≤ s.size) : ∃ a r, bl s = a :: r ∧ s.extract 0 1 = ⟨#[a]⟩ ∧ bl (s.extract 1 s.size) = r := by
  have hl := bl_len s
  cases e : bl s with
  | nil => rw [e] at hl; simp at hl; omega
  | cons a r =>
    refine ⟨a, r, rfl, bl_inj ?_, ?_⟩
    · rw [ext_blU, e]; rfl
    · rw [ext_blU, e]
      rw [e] at hl
      simp only [List.length_cons] at hl
      exact List.take_of_length_le (by simp; omega)
/-- What is left of bytes behind a dead slot's mark; without it all. -/
def behind (s : ByteArray) : ByteArray := if fourB (bl s) then s.extract 1 s.size else s
/-- A list with another item in a place, or one more. -/
def putL (l : List ByteArray) (i : Nat) (s : ByteArray) : List ByteArray := l.take i ++ s :: l.drop (i + 1)
/-- Whether a page of these items is not too long. -/
def fitL (h : ByteArray) (L : List ByteArray) : Bool := decide (h.size ≤ 255 ∧ L.length ≤ 255 ∧ 20 + h.size + isz L ≤ 512)
theorem fitL_iff {h : ByteArray} {L : List ByteArray} : fitL h L = true ↔ (h.size ≤ 255 ∧ L.length ≤ 255 ∧ 20 + h.size + isz L ≤ 512) := by unfold fitL; simp
theorem fitL_no {h : ByteArray} {L : List ByteArray} : fitL h L = false ↔ ¬ (h.size ≤ 255 ∧ L.length ≤ 255 ∧ 20 + h.size + isz L ≤ 512) := by unfold fitL; simp only [decide_eq_false_iff_not]
/-- What sizeWith answers. -/
def szV (h : ByteArray) (L : List ByteArray) : Int := if fitL h L then ((20 + h.size + isz L : Nat) : Int) else 0
def szE (h : ByteArray) (L : List ByteArray) : Int := if fitL h L then 0 else 121
theorem szE_fit {h : ByteArray} {L : List ByteArray} (hf : fitL h L = true) : szE h L = 0 := by unfold szE; rw [hf]; rfl
end Go.Proofs.YtajjakljheafjaaGreat
namespace Go.Proofs.YtajjakljheafjaaGreat
open Go.RowKit
/-- A node as plain data; a leaf's children are noughts. -/
structure Nd where
  lv : Nat
  rt : Nat
  hi : En
  ks : List (En × Int)
instance : Inhabited Nd := ⟨⟨0, 0, noE, []⟩⟩
def Nd.es (x : Nd) : List En := x.ks.map Prod.fst
def itB (v : Nat) (k : En × Int) : ByteArray := if v = 0 then k.1.enc else k.1.encS k.2
def Nd.items (x : Nd) : List ByteArray := x.ks.map (itB x.lv)
def hiB (h : En) : ByteArray := if h = noE then ⟨#[]⟩ else h.enc
def Nd.size (x : Nd) : Nat := 20 + (hiB x.hi).size + isz x.items
theorem Nd.es_len (x : Nd) : x.es.length = x.ks.length := by unfold Nd.es; simp
theorem Nd.items_len (x : Nd) : x.items.length = x.ks.length := by unfold Nd.items; simp
/-- A node that may stand where nothing up to lo belongs. -/
structure Nd.Ok (x : Nd) (lo : En) : Prop where
  rise : Rise x.es
  hiok : x.hi = noE ∨ (x.hi.ok = true ∧ lo.lt x.hi)
  leaf : x.lv = 0 → ∀ k ∈ x.ks, k.1.ok = true ∧ k.2 = 0 ∧ lo.lt k.1 ∧ byd x.hi k.1 = false
  first : 0 < x.lv → ∃ c r, x.ks = (noE, c) :: r
  inner : 0 < x.lv → ∀ k ∈ x.ks.tail, k.1.ok = true ∧ lo.lt k.1 ∧ blw x.hi k.1 = true
  size : x.size ≤ 512
def pg (N i : Nat) : Prop := 1 ≤ i ∧ i < N
/-- The child that leads to an entry. -/
def chK (ks : List (En × Int)) (e : En) : Int := (ks.getD (plE (ks.map Prod.fst) e - 1) (noE, 0)).2
section Way
variable {N : Nat} {F : Nat → Nd} {lo : Nat → En} {A : En → Prop} {i : Nat} {e : En}
end Way
end Go.Proofs.YtajjakljheafjaaGreat
