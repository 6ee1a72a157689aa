/- A node's head, and what lies beyond it: readHead, isBeyond, isBelowHigh of package node. -/
import Derived.Test.YthhlmhghiknnkaaNWalkD
namespace Go.Proofs.Ythhlmhghiknnkaa
open Go.RowKit

/-- What a node says, in a block. -/
structure Cv (w : World) (b : Nat) (es ks : Value) (h : En) : Prop where
  c0 : w.cell? ⟨b, 0, none⟩ = some es
  c1 : w.cell? ⟨b, 1, none⟩ = some ks
  c2 : w.cell? ⟨b, 2, none⟩ = some (.string h.key)
  c3 : w.cell? ⟨b, 3, none⟩ = some (.int .i64 h.page)
  c4 : w.cell? ⟨b, 4, none⟩ = some (.int .i64 h.slot)
  f0 : w.frozen? ⟨b, 0, none⟩ = false
  f1 : w.frozen? ⟨b, 1, none⟩ = false
  f2 : w.frozen? ⟨b, 2, none⟩ = false
  f3 : w.frozen? ⟨b, 3, none⟩ = false
  f4 : w.frozen? ⟨b, 4, none⟩ = false
  lt : b < w.heap.size
theorem Cv.kept {S : Nat → Prop} {w w' : World} {b : Nat} {es ks : Value} {h : En} (x : Cv w b es ks h) (ho : Only S w w') (hS : ¬ S b) : Cv w' b es ks h :=
  ⟨(ho.cell (p := ⟨b, 0, none⟩) x.lt hS).trans x.c0, (ho.cell (p := ⟨b, 1, none⟩) x.lt hS).trans x.c1, (ho.cell (p := ⟨b, 2, none⟩) x.lt hS).trans x.c2, (ho.cell (p := ⟨b, 3, none⟩) x.lt hS).trans x.c3, (ho.cell (p := ⟨b, 4, none⟩) x.lt hS).trans x.c4,
   (ho.frozen (p := ⟨b, 0, none⟩) x.lt hS).trans x.f0, (ho.frozen (p := ⟨b, 1, none⟩) x.lt hS).trans x.f1, (ho.frozen (p := ⟨b, 2, none⟩) x.lt hS).trans x.f2, (ho.frozen (p := ⟨b, 3, none⟩) x.lt hS).trans x.f3, (ho.frozen (p := ⟨b, 4, none⟩) x.lt hS).trans x.f4, Nat.lt_of_lt_of_le x.lt ho.size⟩
theorem Cv.more {w w' : World} {b : Nat} {es ks : Value} {h : En} (x : Cv w b es ks h) (ho : Only (fun _ => False) w w') : Cv w' b es ks h := x.kept ho (fun h => h)
theorem Cv.new (w : World) (es ks : Value) (h : En) : Cv (w.alloc (.cells #[es, ks, .string h.key, .int .i64 h.page, .int .i64 h.slot] 78)) w.heap.size es ks h :=
  ⟨by simp, by simp, by simp, by simp, by simp, by simp, by simp, by simp, by simp, by simp, by simp⟩
/-- What a node says, as a value. -/
def cvv (es ks : Value) (h : En) : Value := .agg #[es, ks, .string h.key, .int .i64 h.page, .int .i64 h.slot]
theorem load_cv {w : World} {b : Nat} {a1 a2 : Option Addr} {n1 n2 c1 c2 : Nat} {h : En} (x : Cv w b (.slice a1 n1 c1) (.slice a2 n2 c2) h) : (loadVar 78 ⟨b, 0, none⟩).run Try.prog w = .ok (cvv (.slice a1 n1 c1) (.slice a2 n2 c2) h) w := by
  have c0 := x.c0
  have c1 := x.c1
  have c2 := x.c2
  have c3 := x.c3
  have c4 := x.c4
  simp [loadVar, go_sem, c0, c1, c2, c3, c4, cvv]
theorem results_cv {fn : Func} {p u : Tmp} (h : fn.results = #[.cell p 78, .tmp u]) {tmps : Array Value} {w : World} {b : Nat} {a1 a2 : Option Addr} {n1 n2 c1 c2 : Nat} {hi : En} (hp : tmps.getD p undef = .pointer (some ⟨b, 0, none⟩)) (hP : Cv w b (.slice a1 n1 c1) (.slice a2 n2 c2) hi) :
    (results fn tmps).run Try.prog w = .ok (.tuple #[cvv (.slice a1 n1 c1) (.slice a2 n2 c2) hi, tmps.getD u undef]) w := by
  have e : (asAddr (.pointer (some ⟨b, 0, none⟩))).run Try.prog w = .ok ⟨b, 0, none⟩ w := rfl
  rw [results_cell_tmp h, hp, e]
  simp only [Result.andThen, load_cv hP]
theorem Cv.s0 {w : World} {b : Nat} {es ks : Value} {h : En} (x : Cv w b es ks h) (v : Value) : Cv (w.setCell ⟨b, 0, none⟩ v) b v ks h :=
  ⟨World.cell?_setCell_same _ _ _ x.c0, othN _ _ _ _ _ _ (by omega) x.c1, othN _ _ _ _ _ _ (by omega) x.c2, othN _ _ _ _ _ _ (by omega) x.c3, othN _ _ _ _ _ _ (by omega) x.c4, by simpa using x.f0, by simpa using x.f1, by simpa using x.f2, by simpa using x.f3, by simpa using x.f4, by simpa using x.lt⟩
theorem Cv.s1 {w : World} {b : Nat} {es ks : Value} {h : En} (x : Cv w b es ks h) (v : Value) : Cv (w.setCell ⟨b, 1, none⟩ v) b es v h :=
  ⟨othN _ _ _ _ _ _ (by omega) x.c0, World.cell?_setCell_same _ _ _ x.c1, othN _ _ _ _ _ _ (by omega) x.c2, othN _ _ _ _ _ _ (by omega) x.c3, othN _ _ _ _ _ _ (by omega) x.c4, by simpa using x.f0, by simpa using x.f1, by simpa using x.f2, by simpa using x.f3, by simpa using x.f4, by simpa using x.lt⟩
theorem Cv.s2 {w : World} {b : Nat} {es ks : Value} {h : En} (x : Cv w b es ks h) (v : ByteArray) : Cv (w.setCell ⟨b, 2, none⟩ (.string v)) b es ks ⟨v, h.page, h.slot⟩ :=
  ⟨othN _ _ _ _ _ _ (by omega) x.c0, othN _ _ _ _ _ _ (by omega) x.c1, World.cell?_setCell_same _ _ _ x.c2, othN _ _ _ _ _ _ (by omega) x.c3, othN _ _ _ _ _ _ (by omega) x.c4, by simpa using x.f0, by simpa using x.f1, by simpa using x.f2, by simpa using x.f3, by simpa using x.f4, by simpa using x.lt⟩
theorem Cv.s3 {w : World} {b : Nat} {es ks : Value} {h : En} (x : Cv w b es ks h) (v : Int) : Cv (w.setCell ⟨b, 3, none⟩ (.int .i64 v)) b es ks ⟨h.key, v, h.slot⟩ :=
  ⟨othN _ _ _ _ _ _ (by omega) x.c0, othN _ _ _ _ _ _ (by omega) x.c1, othN _ _ _ _ _ _ (by omega) x.c2, World.cell?_setCell_same _ _ _ x.c3, othN _ _ _ _ _ _ (by omega) x.c4, by simpa using x.f0, by simpa using x.f1, by simpa using x.f2, by simpa using x.f3, by simpa using x.f4, by simpa using x.lt⟩
theorem Cv.s4 {w : World} {b : Nat} {es ks : Value} {h : En} (x : Cv w b es ks h) (v : Int) : Cv (w.setCell ⟨b, 4, none⟩ (.int .i64 v)) b es ks ⟨h.key, h.page, v⟩ :=
  ⟨othN _ _ _ _ _ _ (by omega) x.c0, othN _ _ _ _ _ _ (by omega) x.c1, othN _ _ _ _ _ _ (by omega) x.c2, othN _ _ _ _ _ _ (by omega) x.c3, World.cell?_setCell_same _ _ _ x.c4, by simpa using x.f0, by simpa using x.f1, by simpa using x.f2, by simpa using x.f3, by simpa using x.f4, by simpa using x.lt⟩
theorem Cv.all {w : World} {b : Nat} {u v : Value} {g : En} (x : Cv w b u v g) (es ks : Value) (h : En) : Cv (((((w.setCell ⟨b, 0, none⟩ es).setCell ⟨b, 1, none⟩ ks).setCell ⟨b, 2, none⟩ (.string h.key)).setCell ⟨b, 3, none⟩ (.int .i64 h.page)).setCell ⟨b, 4, none⟩ (.int .i64 h.slot)) b es ks h :=
  ((((x.s0 es).s1 ks).s2 h.key).s3 h.page).s4 h.slot
theorem Only.five (w : World) (b : Nat) (v0 v1 v2 v3 v4 : Value) : Only (fun k => k = b) w (((((w.setCell ⟨b, 0, none⟩ v0).setCell ⟨b, 1, none⟩ v1).setCell ⟨b, 2, none⟩ v2).setCell ⟨b, 3, none⟩ v3).setCell ⟨b, 4, none⟩ v4) := by
  have st : ∀ (W : World) (i : Nat) (v : Value), Only (fun k => k = b) W (W.setCell ⟨b, i, none⟩ v) := fun W i v => Only.setCell W ⟨b, i, none⟩ v rfl
  exact ((((st _ 0 _).trans (st _ 1 _) (fun _ _ h => h)).trans (st _ 2 _) (fun _ _ h => h)).trans (st _ 3 _) (fun _ _ h => h)).trans (st _ 4 _) (fun _ _ h => h)
theorem byd_of {h e : En} (hn : ¬ h = noE) : byd h e = decide (0 < cmpE e h) := by
  unfold byd
  exact decide_eq_decide.2 ⟨fun k => cmpE_pos.2 k.2, fun k => ⟨hn, cmpE_pos.1 k⟩⟩
theorem blw_of {h e : En} (hn : ¬ h = noE) : blw h e = decide (cmpE e h < 0) := by
  unfold blw
  refine decide_eq_decide.2 ⟨fun k => ?_, fun k => .inr (cmpE_neg.1 k)⟩
  rcases k with k | k
  · exact absurd k hn
  · exact cmpE_neg.2 k
set_option maxHeartbeats 1600000 in
theorem isBeyond_any (w : World) (a1 a2 : Option Addr) (n1 n2 c1 c2 : Nat) (h e : En) :
    Calls Try.prog 50 #[cvv (.slice a1 n1 c1) (.slice a2 n2 c2) h, e.agg] w fun x w' => x = .returned (.bool (byd h e)) ∧ Only (fun _ => False) w w' := by
  have HL : Hid (∀ W, Calls Try.prog 66 #[h.agg] W fun x w' => x = .returned (.bool (decide (h = noE))) ∧ Only (fun _ => False) W w') := fun W => isLeast_any h W
  have HM : Hid (∀ W, Calls Try.prog 17 #[e.agg, h.agg] W fun x w' => x = .returned (.int .i64 (cmpE e h)) ∧ Only (fun _ => False) W w') := fun W => compare_any e h W
  have HCV := hide ((Cv.new w (.slice a1 n1 c1) (.slice a2 n2 c2) h).more (onlyA _ (.cells #[.string e.key, .int .i64 e.page, .int .i64 e.slot] 23)))
  have HEV := hide (Ev.new (w.alloc (.cells #[.slice a1 n1 c1, .slice a2 n2 c2, .string h.key, .int .i64 h.page, .int .i64 h.slot] 78)) e)
  rw [World.size_alloc] at HEV
  have HO := hide (o2 (onlyA w (.cells #[.slice a1 n1 c1, .slice a2 n2 c2, .string h.key, .int .i64 h.page, .int .i64 h.slot] 78)) (onlyA _ (.cells #[.string e.key, .int .i64 e.page, .int .i64 e.slot] 23)))
  by_cases hn : h = noE
  · have hd : decide (h = noE) = true := decide_eq_true hn
    have hb : byd h e = false := by rw [hn, byd_noE]
    rw [hd] at HL
    rw [hb]
    clear hn hd hb
    obtain ⟨k, p, s⟩ := h
    obtain ⟨k', p', s'⟩ := e
    unfold cvv
    unfold En.agg at HL HM ⊢
    simp only [] at HL HM HCV HEV HO ⊢
    go_enter Try.func50, Try.ntmps50
    obtain ⟨W0, hW0⟩ : ∃ x, (w.alloc (.cells #[.slice a1 n1 c1, .slice a2 n2 c2, .string k, .int .i64 p, .int .i64 s] 78)).alloc (.cells #[.string k', .int .i64 p', .int .i64 s'] 23) = x := ⟨_, rfl⟩
    rw [hW0] at HCV HEV HO
    go_upto_region 1 with fail
    clear hW0
    have c2 := HCV.out.c2
    have c3 := HCV.out.c3
    have c4 := HCV.out.c4
    simp only [] at c2 c3 c4
    go_wp2_with fail
    refine (HL.out _).mono ?_
    rintro x w1 ⟨rfl, ho⟩
    have HO1 := hide (o2 HO.out ho)
    clear ho c2 c3 c4
    go_wp2_with fail
    go_ret
    exact ⟨rfl, HO1.out⟩
  · have hd : decide (h = noE) = false := decide_eq_false hn
    rw [hd] at HL
    rw [byd_of hn]
    clear hn hd
    obtain ⟨c, hc⟩ : ∃ c, cmpE e h = c := ⟨_, rfl⟩
    rw [hc] at HM ⊢
    clear hc
    obtain ⟨k, p, s⟩ := h
    obtain ⟨k', p', s'⟩ := e
    unfold cvv
    unfold En.agg at HL HM ⊢
    simp only [] at HL HM HCV HEV HO ⊢
    go_enter Try.func50, Try.ntmps50
    obtain ⟨W0, hW0⟩ : ∃ x, (w.alloc (.cells #[.slice a1 n1 c1, .slice a2 n2 c2, .string k, .int .i64 p, .int .i64 s] 78)).alloc (.cells #[.string k', .int .i64 p', .int .i64 s'] 23) = x := ⟨_, rfl⟩
    rw [hW0] at HCV HEV HO
    go_upto_region 1 with fail
    clear hW0
    have c2 := HCV.out.c2
    have c3 := HCV.out.c3
    have c4 := HCV.out.c4
    simp only [] at c2 c3 c4
    go_wp2_with fail
    refine (HL.out _).mono ?_
    rintro x w1 ⟨rfl, ho⟩
    have HO1 := hide (o2 HO.out ho)
    have HC1 := hide (HCV.out.more ho)
    have HE1 := hide (HEV.out.more ho)
    clear ho c2 c3 c4
    have c2 := HC1.out.c2
    have c3 := HC1.out.c3
    have c4 := HC1.out.c4
    have d0 := HE1.out.c0
    have d1 := HE1.out.c1
    have d2 := HE1.out.c2
    simp only [] at c2 c3 c4 d0 d1 d2
    go_wp2_with fail
    refine (HM.out _).mono ?_
    rintro x w2 ⟨rfl, ho⟩
    have HO2 := hide (o2 HO1.out ho)
    clear ho
    go_wp2_with fail
    go_ret
    exact ⟨rfl, HO2.out⟩
set_option maxHeartbeats 1600000 in
theorem isBelow_any (w : World) (a1 a2 : Option Addr) (n1 n2 c1 c2 : Nat) (h e : En) :
    Calls Try.prog 58 #[cvv (.slice a1 n1 c1) (.slice a2 n2 c2) h, e.agg] w fun x w' => x = .returned (.bool (blw h e)) ∧ Only (fun _ => False) w w' := by
  have HL : Hid (∀ W, Calls Try.prog 66 #[h.agg] W fun x w' => x = .returned (.bool (decide (h = noE))) ∧ Only (fun _ => False) W w') := fun W => isLeast_any h W
  have HM : Hid (∀ W, Calls Try.prog 17 #[e.agg, h.agg] W fun x w' => x = .returned (.int .i64 (cmpE e h)) ∧ Only (fun _ => False) W w') := fun W => compare_any e h W
  have HCV := hide ((Cv.new w (.slice a1 n1 c1) (.slice a2 n2 c2) h).more (onlyA _ (.cells #[.string e.key, .int .i64 e.page, .int .i64 e.slot] 23)))
  have HEV := hide (Ev.new (w.alloc (.cells #[.slice a1 n1 c1, .slice a2 n2 c2, .string h.key, .int .i64 h.page, .int .i64 h.slot] 78)) e)
  rw [World.size_alloc] at HEV
  have HO := hide (o2 (onlyA w (.cells #[.slice a1 n1 c1, .slice a2 n2 c2, .string h.key, .int .i64 h.page, .int .i64 h.slot] 78)) (onlyA _ (.cells #[.string e.key, .int .i64 e.page, .int .i64 e.slot] 23)))
  by_cases hn : h = noE
  · have hd : decide (h = noE) = true := decide_eq_true hn
    have hb : blw h e = true := by unfold blw; simp [hn]
    rw [hd] at HL
    rw [hb]
    clear hn hd hb
    obtain ⟨k, p, s⟩ := h
    obtain ⟨k', p', s'⟩ := e
    unfold cvv
    unfold En.agg at HL HM ⊢
    simp only [] at HL HM HCV HEV HO ⊢
    go_enter Try.func58, Try.ntmps58
    obtain ⟨W0, hW0⟩ : ∃ x, (w.alloc (.cells #[.slice a1 n1 c1, .slice a2 n2 c2, .string k, .int .i64 p, .int .i64 s] 78)).alloc (.cells #[.string k', .int .i64 p', .int .i64 s'] 23) = x := ⟨_, rfl⟩
    rw [hW0] at HCV HEV HO
    go_upto_region 1 with fail
    clear hW0
    have c2 := HCV.out.c2
    have c3 := HCV.out.c3
    have c4 := HCV.out.c4
    simp only [] at c2 c3 c4
    go_wp2_with fail
    refine (HL.out _).mono ?_
    rintro x w1 ⟨rfl, ho⟩
    have HO1 := hide (o2 HO.out ho)
    clear ho c2 c3 c4
    go_wp2_with fail
    go_ret
    exact ⟨rfl, HO1.out⟩
  · have hd : decide (h = noE) = false := decide_eq_false hn
    rw [hd] at HL
    rw [blw_of hn]
    clear hn hd
    obtain ⟨c, hc⟩ : ∃ c, cmpE e h = c := ⟨_, rfl⟩
    rw [hc] at HM ⊢
    clear hc
    obtain ⟨k, p, s⟩ := h
    obtain ⟨k', p', s'⟩ := e
    unfold cvv
    unfold En.agg at HL HM ⊢
    simp only [] at HL HM HCV HEV HO ⊢
    go_enter Try.func58, Try.ntmps58
    obtain ⟨W0, hW0⟩ : ∃ x, (w.alloc (.cells #[.slice a1 n1 c1, .slice a2 n2 c2, .string k, .int .i64 p, .int .i64 s] 78)).alloc (.cells #[.string k', .int .i64 p', .int .i64 s'] 23) = x := ⟨_, rfl⟩
    rw [hW0] at HCV HEV HO
    go_upto_region 1 with fail
    clear hW0
    have c2 := HCV.out.c2
    have c3 := HCV.out.c3
    have c4 := HCV.out.c4
    simp only [] at c2 c3 c4
    go_wp2_with fail
    refine (HL.out _).mono ?_
    rintro x w1 ⟨rfl, ho⟩
    have HO1 := hide (o2 HO.out ho)
    have HC1 := hide (HCV.out.more ho)
    have HE1 := hide (HEV.out.more ho)
    clear ho c2 c3 c4
    have c2 := HC1.out.c2
    have c3 := HC1.out.c3
    have c4 := HC1.out.c4
    have d0 := HE1.out.c0
    have d1 := HE1.out.c1
    have d2 := HE1.out.c2
    simp only [] at c2 c3 c4 d0 d1 d2
    go_wp2_with fail
    refine (HM.out _).mono ?_
    rintro x w2 ⟨rfl, ho⟩
    have HO2 := hide (o2 HO1.out ho)
    clear ho
    go_wp2_with fail
    go_ret
    exact ⟨rfl, HO2.out⟩
/-- A High is that of hi. -/
def HiIs (h : ByteArray) (hi : En) : Prop := (h = ⟨#[]⟩ ∧ hi = noE) ∨ (h = hi.enc ∧ hi.ok = true)
end Go.Proofs.Ythhlmhghiknnkaa
