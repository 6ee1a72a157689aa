/- Parts. -/
import Derived.Test.YtpnbhddmdfcjdaaGreatK09
import Derived.Test.YtpnbhddmdfcjdaaGreatK08
import Derived.Deep.RegionHeld3
import Derived.Deep.Draws
import Derived.Deep.DeepCutAuto
set_option maxRecDepth 100000
namespace Go.Proofs.YtpnbhddmdfcjdaaGreat
open Go.RowKit
/-- An entry as a value. -/
def En.agg (e : En) : Value := .agg #[.string e.key, .int .i64 e.page, .int .i64 e.slot]
/-- A number of pages and slots. -/
def nm (n : Int) : Bool := decide (0 ≤ n ∧ n ≤ 65535)
theorem nm_eq (n : Int) : nm n = (decide (0 ≤ n) && decide (n ≤ 65535)) := by unfold nm; rw [Bool.eq_iff_iff]; simp
theorem okC_eq (n : Int) : okC n = (decide (1 ≤ n) && decide (n ≤ 65535)) := by unfold okC; rw [Bool.eq_iff_iff]; simp
theorem En.ok_eq (e : En) : e.ok = (decide ((1 : Int) ≤ e.key.size) && decide ((e.key.size : Int) ≤ 24) && nm e.page && nm e.slot) := by
  unfold En.ok nm
  rw [Bool.eq_iff_iff]
  simp only [Bool.and_eq_true, decide_eq_true_eq]
  omega
theorem isNumber_any (n : Int) (w : World) : Calls Tryz.prog 192 #[.int .i64 n] w fun e w' => e = .returned (.bool (nm n)) ∧ w' = w := by
  rw [nm_eq]
  by_cases h1 : (0 : Int) ≤ n
  · go_enter Tryz.func192, Tryz.ntmps192
    go_wp2
    go_ret
    exact ⟨by simp [h1], rfl⟩
  · go_enter Tryz.func192, Tryz.ntmps192
    go_wp2
    go_ret
    exact ⟨by simp; omega, rfl⟩
theorem isChild_any (n : Int) (w : World) : Calls Tryz.prog 173 #[.int .i64 n] w fun e w' => e = .returned (.bool (okC n)) ∧ w' = w := by
  rw [okC_eq]
  by_cases h1 : (1 : Int) ≤ n
  · go_enter Tryz.func173, Tryz.ntmps173
    go_wp2
    go_ret
    exact ⟨by simp [h1], rfl⟩
  · go_enter Tryz.func173, Tryz.ntmps173
    go_wp2
    go_ret
    exact ⟨by simp; omega, rfl⟩
set_option maxHeartbeats 800000 in
theorem isEntry_any (e : En) (w : World) : Calls Tryz.prog 167 #[e.agg] w fun x w' => x = .returned (.bool e.ok) ∧ Only (fun _ => False) w w' := by
  rw [En.ok_eq]
  obtain ⟨k, p, s⟩ := e
  unfold En.agg
  simp only []
  have HO := hide (onlyA w (.cells #[.string k, .int .i64 p, .int .i64 s] 74))
  obtain ⟨bp, hbp⟩ : ∃ b, nm p = b := ⟨_, rfl⟩
  obtain ⟨bs, hbs⟩ : ∃ b, nm s = b := ⟨_, rfl⟩
  have HP : Hid (∀ W, Calls Tryz.prog 192 #[.int .i64 p] W fun e w' => e = .returned (.bool bp) ∧ w' = W) := fun W => by have := isNumber_any p W; rwa [hbp] at this
  have HS : Hid (∀ W, Calls Tryz.prog 192 #[.int .i64 s] W fun e w' => e = .returned (.bool bs) ∧ w' = W) := fun W => by have := isNumber_any s W; rwa [hbs] at this
  rw [hbp, hbs]
  clear hbp hbs
  by_cases h1 : (1 : Int) ≤ k.size
  · by_cases h2 : (k.size : Int) ≤ 24
    · go_enter Tryz.func167, Tryz.ntmps167
      go_wp2_with fail
      refine (HP.out _).mono ?_
      rintro e w1 ⟨rfl, h⟩
      obtain rfl := h.symm
      cases bp with
      | true =>
        go_wp2_with fail
        refine (HS.out _).mono ?_
        rintro e w1 ⟨rfl, h⟩
        obtain rfl := h.symm
        go_wp2_with fail
        go_ret
        exact ⟨by simp [h1, h2], HO.out⟩
      | false =>
        go_wp2_with fail
        go_ret
        exact ⟨by simp, HO.out⟩
    · go_enter Tryz.func167, Tryz.ntmps167
      go_wp2_with fail
      go_ret
      exact ⟨by simp; intros; omega, HO.out⟩
  · go_enter Tryz.func167, Tryz.ntmps167
    go_wp2_with fail
    go_ret
    exact ⟨by simp; intros; omega, HO.out⟩
theorem ba_eqN {s t : ByteArray} (h : s = t) : (s.toList == t.toList) = true := by simp [h]
theorem ba_neN {s t : ByteArray} (h : ¬ s = t) : (s.toList == t.toList) = false := by
  cases e : (s.toList == t.toList) with
  | false => rfl
  | true =>
    refine absurd ?_ h
    have e' : s.toList = t.toList := by simpa using e
    rw [ByteArray.toList_eq, ByteArray.toList_eq] at e'
    exact bl_injN e'
theorem eqE_run (a b : En) (w : World) : (binOp .eql 74 (.agg #[.string a.key, .int .i64 a.page, .int .i64 a.slot]) (.agg #[.string b.key, .int .i64 b.page, .int .i64 b.slot])).run Tryz.prog w = .ok (.bool (decide (a = b))) w := by
  obtain ⟨k, p, s⟩ := a
  obtain ⟨k', p', s'⟩ := b
  by_cases h1 : k = k'
  · by_cases h2 : p = p'
    · by_cases h3 : s = s'
      · subst h1 h2 h3
        simp [go_sem]
      · simp [go_sem, h1, h2, h3]
    · simp [go_sem, h1, h2]
  · have h4 := ba_neN h1
    have h5 : ¬ k.toList = k'.toList := by simpa using h4
    simp [go_sem, h1, h5]
theorem isLeast_any (e : En) (w : World) : Calls Tryz.prog 195 #[e.agg] w fun x w' => x = .returned (.bool (decide (e = noE))) ∧ Only (fun _ => False) w w' := by
  have he : ∀ W, (binOp .eql 74 (.agg #[.string e.key, .int .i64 e.page, .int .i64 e.slot]) (.agg #[.string ⟨#[]⟩, .int .i64 0, .int .i64 0])).run Tryz.prog W = .ok (.bool (decide (e = noE))) W := fun W => eqE_run e noE W
  obtain ⟨b, hb⟩ : ∃ b, decide (e = noE) = b := ⟨_, rfl⟩
  rw [hb] at he ⊢
  clear hb
  obtain ⟨k, p, s⟩ := e
  unfold En.agg
  simp only [] at he ⊢
  have HO := hide (onlyA w (.cells #[.string k, .int .i64 p, .int .i64 s] 74))
  go_enter Tryz.func195, Tryz.ntmps195
  go_wp2_with fail
  go_ret
  exact ⟨rfl, HO.out⟩
theorem separates_any (e : En) (w : World) : Calls Tryz.prog 172 #[e.agg] w fun x w' => x = .returned (.bool e.sp) ∧ Only (fun _ => False) w w' := by
  have HL : Hid (∀ W, Calls Tryz.prog 195 #[e.agg] W fun x w' => x = .returned (.bool (decide (e = noE))) ∧ Only (fun _ => False) W w') := fun W => isLeast_any e W
  have HE : Hid (∀ W, Calls Tryz.prog 167 #[e.agg] W fun x w' => x = .returned (.bool e.ok) ∧ Only (fun _ => False) W w') := fun W => isEntry_any e W
  unfold En.sp
  obtain ⟨b, hb⟩ : ∃ b, decide (e = noE) = b := ⟨_, rfl⟩
  obtain ⟨c, hc⟩ : ∃ c, e.ok = c := ⟨_, rfl⟩
  rw [hb] at HL ⊢
  rw [hc] at HE ⊢
  clear hb hc
  obtain ⟨k, p, s⟩ := e
  unfold En.agg at HL HE ⊢
  simp only [] at HL HE ⊢
  have HO := hide (onlyA w (.cells #[.string k, .int .i64 p, .int .i64 s] 74))
  cases b with
  | true =>
    go_enter Tryz.func172, Tryz.ntmps172
    go_wp2_with fail
    refine (HL.out _).mono ?_
    rintro x w1 ⟨rfl, ho⟩
    have HO1 := hide (o2 HO.out ho)
    clear ho
    go_wp2_with fail
    go_ret
    exact ⟨rfl, HO1.out⟩
  | false =>
    have c0 : (w.alloc (.cells #[.string k, .int .i64 p, .int .i64 s] 74)).cell? ⟨w.heap.size, 0, none⟩ = some (.string k) := by simp
    have c1 : (w.alloc (.cells #[.string k, .int .i64 p, .int .i64 s] 74)).cell? ⟨w.heap.size, 1, none⟩ = some (.int .i64 p) := by simp
    have c2 : (w.alloc (.cells #[.string k, .int .i64 p, .int .i64 s] 74)).cell? ⟨w.heap.size, 2, none⟩ = some (.int .i64 s) := by simp
    have hz : w.heap.size < (w.alloc (.cells #[.string k, .int .i64 p, .int .i64 s] 74)).heap.size := by simp
    have HC := hide (And.intro c0 (And.intro c1 (And.intro c2 hz)))
    clear c0 c1 c2 hz
    go_enter Tryz.func172, Tryz.ntmps172
    go_wp2_with fail
    refine (HL.out _).mono ?_
    rintro x w1 ⟨rfl, ho⟩
    have HO1 := hide (o2 HO.out ho)
    have d0 := (ho.cell (p := ⟨w.heap.size, 0, none⟩) HC.out.2.2.2 (fun h => h)).trans HC.out.1
    have d1 := (ho.cell (p := ⟨w.heap.size, 1, none⟩) HC.out.2.2.2 (fun h => h)).trans HC.out.2.1
    have d2 := (ho.cell (p := ⟨w.heap.size, 2, none⟩) HC.out.2.2.2 (fun h => h)).trans HC.out.2.2.1
    clear ho
    go_wp2_with fail
    refine (HE.out _).mono ?_
    rintro x w2 ⟨rfl, ho⟩
    have HO2 := hide (o2 HO1.out ho)
    clear ho
    go_wp2_with fail
    go_ret
    exact ⟨by simp, HO2.out⟩
theorem bless_lt {a b : ByteArray} : Op.bytesLess a.toList b.toList = decide (bl a < bl b) := by
  rw [bytesLess_eq, ByteArray.toList_eq, ByteArray.toList_eq]
set_option maxHeartbeats 800000 in
theorem isAhead_any (a b : En) (w : World) : Calls Tryz.prog 199 #[a.agg, b.agg] w fun x w' => x = .returned (.bool (decide (a.lt b))) ∧ Only (fun _ => False) w w' := by
  obtain ⟨k, p, s⟩ := a
  obtain ⟨k', p', s'⟩ := b
  unfold En.agg En.lt
  simp only []
  have HO := hide (o2 (onlyA w (.cells #[.string k, .int .i64 p, .int .i64 s] 74)) (onlyA _ (.cells #[.string k', .int .i64 p', .int .i64 s'] 74)))
  obtain ⟨B, hB⟩ : ∃ B, decide (if k = k' then (if p = p' then s < s' else p < p') else bl k < bl k') = B := ⟨_, rfl⟩
  rw [hB]
  have HB := hide hB
  clear hB
  by_cases h1 : k = k'
  · have e1 := ba_eqN h1
    have H1 := hide h1
    clear h1
    by_cases h2 : p = p'
    · have e2 : (p == p') = true := by simpa using h2
      have H2 := hide h2
      clear h2
      go_enter Tryz.func199, Tryz.ntmps199
      go_wp2_with fail
      go_ret
      exact ⟨ret_bool (by rw [← HB.out]; exact decide_eq_decide.2 (by rw [if_pos H1.out, if_pos H2.out])), HO.out⟩
    · have e2 : (p == p') = false := by simpa using h2
      have H2 := hide h2
      clear h2
      go_enter Tryz.func199, Tryz.ntmps199
      go_wp2_with fail
      go_ret
      exact ⟨ret_bool (by rw [← HB.out]; exact decide_eq_decide.2 (by rw [if_pos H1.out, if_neg H2.out])), HO.out⟩
  · have e1 := ba_neN h1
    have H1 := hide h1
    clear h1
    go_enter Tryz.func199, Tryz.ntmps199
    go_wp2_with fail
    go_ret
    exact ⟨ret_bool (by rw [← HB.out, bless_lt]; exact decide_eq_decide.2 (by rw [if_neg H1.out])), HO.out⟩
/-- An entry in a block. -/
structure Eb (w : World) (b o : Nat) (e : En) : Prop where
  c0 : w.cell? ⟨b, o, none⟩ = some (.string e.key)
  c1 : w.cell? ⟨b, o + 1, none⟩ = some (.int .i64 e.page)
  c2 : w.cell? ⟨b, o + 2, none⟩ = some (.int .i64 e.slot)
  lt : b < w.heap.size
theorem Eb.kept {S : Nat → Prop} {w w' : World} {b o : Nat} {e : En} (h : Eb w b o e) (ho : Only S w w') (hS : ¬ S b) : Eb w' b o e :=
  ⟨(ho.cell (p := ⟨b, o, none⟩) h.lt hS).trans h.c0, (ho.cell (p := ⟨b, o + 1, none⟩) h.lt hS).trans h.c1, (ho.cell (p := ⟨b, o + 2, none⟩) h.lt hS).trans h.c2, Nat.lt_of_lt_of_le h.lt ho.size⟩
theorem Eb.more {w w' : World} {b o : Nat} {e : En} (h : Eb w b o e) (ho : Only (fun _ => False) w w') : Eb w' b o e := h.kept ho (fun h => h)
theorem Eb.new (w : World) (e : En) : Eb (w.alloc (.cells #[.string e.key, .int .i64 e.page, .int .i64 e.slot] 74)) w.heap.size 0 e := ⟨by simp, by simp, by simp, by simp⟩
set_option maxHeartbeats 800000 in
theorem compare_any (a b : En) (w : World) : Calls Tryz.prog 194 #[a.agg, b.agg] w fun x w' => x = .returned (.int .i64 (cmpE a b)) ∧ Only (fun _ => False) w w' := by
  have he := eqE_run a b
  have HA : Hid (∀ W, Calls Tryz.prog 199 #[a.agg, b.agg] W fun x w' => x = .returned (.bool (decide (a.lt b))) ∧ Only (fun _ => False) W w') := fun W => isAhead_any a b W
  have HO := hide (o2 (onlyA w (.cells #[.string a.key, .int .i64 a.page, .int .i64 a.slot] 74)) (onlyA _ (.cells #[.string b.key, .int .i64 b.page, .int .i64 b.slot] 74)))
  by_cases h : a = b
  · have hz : cmpE a b = 0 := cmpE_zero.2 h
    have hd : decide (a = b) = true := decide_eq_true h
    rw [hd] at he
    rw [hz]
    clear h hd hz HA
    obtain ⟨k, p, s⟩ := a
    obtain ⟨k', p', s'⟩ := b
    unfold En.agg
    simp only [] at he HO ⊢
    go_enter Tryz.func194, Tryz.ntmps194
    go_wp2_with fail
    go_ret
    exact ⟨rfl, HO.out⟩
  · have hd : decide (a = b) = false := decide_eq_false h
    rw [hd] at he
    have hz : cmpE a b = if a.lt b then -1 else 1 := by unfold cmpE; rw [if_neg h]
    rw [hz]
    clear h hd hz
    by_cases h : a.lt b
    · have hd : decide (a.lt b) = true := decide_eq_true h
      rw [hd] at HA
      rw [if_pos h]
      clear h hd
      obtain ⟨k, p, s⟩ := a
      obtain ⟨k', p', s'⟩ := b
      unfold En.agg at HA ⊢
      simp only [] at he HO HA ⊢
      go_enter Tryz.func194, Tryz.ntmps194
      go_wp2_with fail
      refine (HA.out _).mono ?_
      rintro x w1 ⟨rfl, ho⟩
      have HO1 := hide (o2 HO.out ho)
      clear ho
      go_wp2_with fail
      go_ret
      exact ⟨rfl, HO1.out⟩
    · have hd : decide (a.lt b) = false := decide_eq_false h
      rw [hd] at HA
      rw [if_neg h]
      clear h hd
      obtain ⟨k, p, s⟩ := a
      obtain ⟨k', p', s'⟩ := b
      unfold En.agg at HA ⊢
      simp only [] at he HO HA ⊢
      go_enter Tryz.func194, Tryz.ntmps194
      go_wp2_with fail
      refine (HA.out _).mono ?_
      rintro x w1 ⟨rfl, ho⟩
      have HO1 := hide (o2 HO.out ho)
      clear ho
      go_wp2_with fail
      go_ret
      exact ⟨rfl, HO1.out⟩
theorem nums_two (a b : Int) : nums [a, b] = sev a.toNat ++ sev b.toNat := by simp [nums]
theorem nums_one (a : Int) : nums [a] = sev a.toNat := by simp [nums]
theorem Wr.only {w W W' : World} {b : Nat} {row row' : Option Nat} {l : List UInt8} (h : Wr W b row l) (hb : w.heap.size ≤ b) (ho : Only (fun _ => False) w W) (hg : WGro W W' b row row') : Only (fun _ => False) w W' := by
  refine ho.trans hg.only ?_
  rintro i hi (e | e)
  · omega
  · have := (h.rowLt i e.symm).1
    omega
/-- Numbers that a slice of a block has. -/
def Nms (w : World) (ao : Option Addr) (zs : List Int) : Prop := zs = [] ∨ ∃ g o, ao = some ⟨g, o, none⟩ ∧ g < w.heap.size ∧ ∀ k, k < zs.length → w.cell? ⟨g, o + k, none⟩ = some (.int .i64 (zs.getD k 0))
theorem wnum_nms (w W : World) (b : Nat) (row : Option Nat) (l : List UInt8) (ao : Option Addr) (cap : Nat) (zs : List Int) (hW : Wr W b row l) (hN : Nms w ao zs) (ho : Only (fun _ => False) w W) (hb : w.heap.size ≤ b) (hz : ∀ k, k < zs.length → zs.getD k 0 < 9223372036854775808) (hl : l.length + 10 * zs.length + 10 ≤ 158329674399744) :
    Calls Tryz.prog 83 #[.pointer (some ⟨b, 0, none⟩), .slice ao zs.length cap] W fun e w' => e = .returned (.tuple #[]) ∧ ∃ row', Wr w' b row' (l ++ nums zs) ∧ WGro W w' b row row' := by
  rcases hN with rfl | ⟨g, o, rfl, hg, hc⟩
  · refine (wnum_none W b ao cap).mono ?_
    rintro e w1 ⟨rfl, rfl⟩
    exact ⟨rfl, row, by simpa [nums] using hW, WGro.refl _ _ _⟩
  · refine wnum_any W b row l zs g o cap hW (fun k hk => (ho.cell (p := ⟨g, o + k, none⟩) hg (fun h => h)).trans (hc k hk)) hz (by omega) ?_ (Nat.lt_of_lt_of_le hg ho.size) hl
    intro e
    have := (hW.rowLt g e.symm).1
    omega
theorem wnum_two (w : World) (b : Nat) (row : Option Nat) (l : List UInt8) (y z : Int) (hW : Wr w b row l) (hy : y < 9223372036854775808) (hz : z < 9223372036854775808) (hl : l.length + 40 ≤ 158329674399744) :
    Calls Tryz.prog 83 #[.pointer (some ⟨b, 0, none⟩), .slice (some ⟨w.heap.size, 0, none⟩) 2 2] (w.alloc (.cells #[.int .i64 y, .int .i64 z] 3)) fun e w' => e = .returned (.tuple #[]) ∧ ∃ row', Wr w' b row' (l ++ nums [y, z]) ∧ WGro w w' b row row' := by
  have hW1 : Wr (w.alloc (.cells #[.int .i64 y, .int .i64 z] 3)) b row l := hW.kept (Only.alloc (fun _ => False) w _) (fun h => h) (fun _ _ h => h)
  have hb := hW.lt
  have h := wnum_any (w.alloc (.cells #[.int .i64 y, .int .i64 z] 3)) b row l [y, z] w.heap.size 0 2 hW1
    (by intro k hk
        match k, hk with
        | 0, _ => simp
        | 1, _ => simp)
    (by intro k hk
        match k, hk with
        | 0, _ => simpa using hy
        | 1, _ => simpa using hz)
    (by omega) (by intro e; have := (hW.rowLt _ e.symm).2; omega) (by simp) (by simp; omega)
  refine Calls.mono h ?_
  rintro e w' ⟨he, row', h1, h2⟩
  exact ⟨he, row', h1, (WGro.alloc w _ b row).trans h2⟩
set_option maxHeartbeats 800000 in
theorem laid_any (e : En) (w : World) (ao : Option Addr) (cap : Nat) (zs : List Int) (hf : e.few) (hN : Nms w ao zs) (hl : zs.length ≤ 1) (hz : ∀ k, k < zs.length → zs.getD k 0 < 9223372036854775808) :
    Calls Tryz.prog 171 #[e.agg, .slice ao zs.length cap] w fun x w' => x = .returned (.string (str (e.lay ++ nums zs))) ∧ Only (fun _ => False) w w' := by
  have HN := hide hN
  have HZ := hide hz
  have HO := hide (onlyA w (.cells #[.string e.key, .int .i64 e.page, .int .i64 e.slot] 74))
  have HL : Hid (e.lay = (sev e.key.size ++ e.key.data.toList) ++ nums [e.page, e.slot]) := by
    unfold Hid
    rw [nums_two]
    rfl
  have HK : Hid (e.key.size ≤ 24) := hf.1
  have HP : Hid (e.page < 9223372036854775808 ∧ e.slot < 9223372036854775808) := ⟨by have := hf.2; omega, by have := hf.2; omega⟩
  have HEb := hide (Eb.new w e)
  have HLL : Hid (e.lay.length + 10 * zs.length ≤ 55) := by
    have := lay_len hf.1
    unfold Hid
    omega
  obtain ⟨L, hL⟩ : ∃ L, e.lay = L := ⟨_, rfl⟩
  rw [hL] at HL HLL ⊢
  clear hN hz hf hL
  obtain ⟨k, p, s⟩ := e
  unfold En.agg
  simp only [] at HO HL HK HP HEb ⊢
  obtain ⟨W0, hW0⟩ : ∃ W, w.alloc (.cells #[.string k, .int .i64 p, .int .i64 s] 74) = W := ⟨_, rfl⟩
  go_enter Tryz.func171, Tryz.ntmps171
  rw [hW0] at HO HEb
  go_wp2_with fail
  refine (new_any _).mono ?_
  rintro x w1 ⟨rfl, hw1⟩
  have HW1 := hide (Wr.new W0)
  have HO1 := hide (o2 HO.out (onlyA W0 (.cells #[.slice none 0 0] 166)))
  have HE1 := hide (HEb.out.more (onlyA W0 (.cells #[.slice none 0 0] 166)))
  have hs0 : w.heap.size < W0.heap.size := HEb.out.lt
  have HS0 := hide hs0
  rw [← hw1] at HW1 HO1 HE1
  clear hw1 hs0 hW0 HO HEb
  have c0 := HE1.out.c0
  go_wp2_with fail
  refine (wtext_any w1 W0.heap.size none [] k HW1.out (by have := HK.out; simp; omega)).mono ?_
  rintro x w2 ⟨rfl, row2, hW2, hg2⟩
  have HO2 := hide (HW1.out.only (Nat.le_of_lt HS0.out) HO1.out hg2)
  have HE2 := hide (HE1.out.kept hg2.only (by rintro (h | h)
                                              · have := HS0.out; omega
                                              · cases h))
  have HW2 := hide hW2
  rw [List.nil_append] at HW2
  clear hW2 hg2 c0 HE1 HO1 HW1
  have c1 := HE2.out.c1
  have c2 := HE2.out.c2
  simp only [Nat.zero_add] at c1 c2
  go_wp2_with fail
  refine (wnum_two w2 W0.heap.size row2 _ p s HW2.out HP.out.1 HP.out.2 (by have := HK.out; have h1 := sev_le k.size; have h2 := bl_len k; unfold bl at h2; simp only [List.length_append]; omega)).mono ?_
  rintro x w3 ⟨rfl, row3, hW3, hg3⟩
  rw [← HL.out] at hW3
  have HO3 := hide (HW2.out.only (Nat.le_of_lt HS0.out) HO2.out hg3)
  have HW3 := hide hW3
  clear hW3 hg3 c1 c2 HE2 HO2 HW2
  go_wp2_with fail
  refine (wnum_nms w w3 W0.heap.size row3 _ ao cap zs HW3.out HN.out HO3.out (Nat.le_of_lt HS0.out) HZ.out (by have := HLL.out; omega)).mono ?_
  rintro x w4 ⟨rfl, row4, hW4, hg4⟩
  have HO4 := hide (HW3.out.only (Nat.le_of_lt HS0.out) HO3.out hg4)
  have HW4 := hide hW4
  clear hW4 hg4 HO3 HW3
  go_wp2_with fail
  refine (wbytes_any w4 W0.heap.size row4 _ HW4.out).mono ?_
  rintro x w5 ⟨rfl, rfl⟩
  go_wp2_with fail
  go_ret
  exact ⟨rfl, HO4.out⟩
theorem laid_one (e : En) (w : World) (hf : e.few) : Calls Tryz.prog 171 #[e.agg, .slice none 0 0] w fun x w' => x = .returned (.string e.enc) ∧ Only (fun _ => False) w w' := by
  have h := laid_any e w none 0 [] hf (.inl rfl) (by simp) (fun k hk => by simp at hk)
  have e0 : e.lay ++ nums [] = e.lay := by simp [nums]
  rw [e0] at h
  exact h
theorem laid_two (e : En) (w W : World) (c : Int) (hf : e.few) (hc : c < 9223372036854775808) (hW : Only (fun _ => False) (w.alloc (.cells #[.int .i64 c] 3)) W) : Calls Tryz.prog 171 #[e.agg, .slice (some ⟨w.heap.size, 0, none⟩) 1 1] W fun x w' => x = .returned (.string (e.encS c)) ∧ Only (fun _ => False) W w' := by
  have h := laid_any e W (some ⟨w.heap.size, 0, none⟩) 1 [c] hf (.inr ⟨w.heap.size, 0, rfl, Nat.lt_of_lt_of_le (by simp) hW.size, fun k hk => by
    have : k = 0 := by simpa using hk
    subst this
    rw [hW.cell (p := ⟨w.heap.size, 0 + 0, none⟩) (by simp) (fun h => h)]
    simp⟩) (by simp) (fun k hk => by
    have : k = 0 := by simpa using hk
    subst this
    simpa using hc)
  rw [nums_one] at h
  exact h
/-- An entry that a variable holds. -/
structure Ev (w : World) (b : Nat) (e : En) : Prop where
  c0 : w.cell? ⟨b, 0, none⟩ = some (.string e.key)
  c1 : w.cell? ⟨b, 1, none⟩ = some (.int .i64 e.page)
  c2 : w.cell? ⟨b, 2, none⟩ = some (.int .i64 e.slot)
  f0 : w.frozen? ⟨b, 0, none⟩ = false
  f1 : w.frozen? ⟨b, 1, none⟩ = false
  f2 : w.frozen? ⟨b, 2, none⟩ = false
  lt : b < w.heap.size
theorem Ev.kept {S : Nat → Prop} {w w' : World} {b : Nat} {e : En} (h : Ev w b e) (ho : Only S w w') (hS : ¬ S b) : Ev w' b e :=
  ⟨(ho.cell (p := ⟨b, 0, none⟩) h.lt hS).trans h.c0, (ho.cell (p := ⟨b, 1, none⟩) h.lt hS).trans h.c1, (ho.cell (p := ⟨b, 2, none⟩) h.lt hS).trans h.c2, (ho.frozen (p := ⟨b, 0, none⟩) h.lt hS).trans h.f0, (ho.frozen (p := ⟨b, 1, none⟩) h.lt hS).trans h.f1, (ho.frozen (p := ⟨b, 2, none⟩) h.lt hS).trans h.f2, Nat.lt_of_lt_of_le h.lt ho.size⟩
theorem Ev.more {w w' : World} {b : Nat} {e : En} (h : Ev w b e) (ho : Only (fun _ => False) w w') : Ev w' b e := h.kept ho (fun h => h)
theorem Ev.new (w : World) (e : En) : Ev (w.alloc (.cells #[.string e.key, .int .i64 e.page, .int .i64 e.slot] 74)) w.heap.size e := ⟨by simp, by simp, by simp, by simp, by simp, by simp, by simp⟩
theorem Ev.zero (w : World) : Ev (w.alloc (.cells #[.string ⟨#[]⟩, .int .i64 0, .int .i64 0] 74)) w.heap.size noE := Ev.new w noE
theorem othN (W : World) (b i j : Nat) (v x : Value) (hij : i ≠ j) (hx : W.cell? ⟨b, j, none⟩ = some x) : (W.setCell ⟨b, i, none⟩ v).cell? ⟨b, j, none⟩ = some x :=
  (World.cell?_setCell_other _ _ _ _ (by intro e; injection e; omega)).trans hx
theorem Ev.s0 {w : World} {b : Nat} {e : En} (h : Ev w b e) (x : ByteArray) : Ev (w.setCell ⟨b, 0, none⟩ (.string x)) b ⟨x, e.page, e.slot⟩ :=
  ⟨World.cell?_setCell_same _ _ _ h.c0, othN _ _ _ _ _ _ (by omega) h.c1, othN _ _ _ _ _ _ (by omega) h.c2, by simpa using h.f0, by simpa using h.f1, by simpa using h.f2, by simpa using h.lt⟩
theorem Ev.s1 {w : World} {b : Nat} {e : En} (h : Ev w b e) (x : Int) : Ev (w.setCell ⟨b, 1, none⟩ (.int .i64 x)) b ⟨e.key, x, e.slot⟩ :=
  ⟨othN _ _ _ _ _ _ (by omega) h.c0, World.cell?_setCell_same _ _ _ h.c1, othN _ _ _ _ _ _ (by omega) h.c2, by simpa using h.f0, by simpa using h.f1, by simpa using h.f2, by simpa using h.lt⟩
theorem Ev.s2 {w : World} {b : Nat} {e : En} (h : Ev w b e) (x : Int) : Ev (w.setCell ⟨b, 2, none⟩ (.int .i64 x)) b ⟨e.key, e.page, x⟩ :=
  ⟨othN _ _ _ _ _ _ (by omega) h.c0, othN _ _ _ _ _ _ (by omega) h.c1, World.cell?_setCell_same _ _ _ h.c2, by simpa using h.f0, by simpa using h.f1, by simpa using h.f2, by simpa using h.lt⟩
theorem Ev.all {w : World} {b : Nat} {u : En} (h : Ev w b u) (e : En) : Ev (((w.setCell ⟨b, 0, none⟩ (.string e.key)).setCell ⟨b, 1, none⟩ (.int .i64 e.page)).setCell ⟨b, 2, none⟩ (.int .i64 e.slot)) b e := ((h.s0 e.key).s1 e.page).s2 e.slot
theorem Only.three (w : World) (b : Nat) (v0 v1 v2 : Value) : Only (fun k => k = b) w (((w.setCell ⟨b, 0, none⟩ v0).setCell ⟨b, 1, none⟩ v1).setCell ⟨b, 2, none⟩ v2) := by
  have st : ∀ (W : World) (i : Nat) (v : Value), Only (fun k => k = b) W (W.setCell ⟨b, i, none⟩ v) := fun W i v => Only.setCell W ⟨b, i, none⟩ v rfl
  exact ((st _ 0 _).trans (st _ 1 _) (fun _ _ h => h)).trans (st _ 2 _) (fun _ _ h => h)
theorem load_ev {w : World} {b : Nat} {e : En} (h : Ev w b e) : (loadVar 74 ⟨b, 0, none⟩).run Tryz.prog w = .ok e.agg w := by
  have c0 := h.c0
  have c1 := h.c1
  have c2 := h.c2
  simp [loadVar, go_sem, c0, c1, c2, En.agg]
theorem results_ev1 {fn : Func} {p : Tmp} (h : fn.results = #[.cell p 74]) {tmps : Array Value} {w : World} {b : Nat} {e : En} (hp : tmps.getD p undef = .pointer (some ⟨b, 0, none⟩)) (hP : Ev w b e) :
    (results fn tmps).run Tryz.prog w = .ok e.agg w := by
  have e : (asAddr (.pointer (some ⟨b, 0, none⟩))).run Tryz.prog w = .ok ⟨b, 0, none⟩ w := rfl
  have hp' : tmps[p]?.getD undef = .pointer (some ⟨b, 0, none⟩) := by simpa using hp
  simp only [results, h]
  simp [Sem.run_bind, Result.andThen, hp', e, load_ev hP]
theorem results_ev {fn : Func} {p u : Tmp} (h : fn.results = #[.cell p 74, .tmp u]) {tmps : Array Value} {w : World} {b : Nat} {t : En} (hp : tmps.getD p undef = .pointer (some ⟨b, 0, none⟩)) (hP : Ev w b t) :
    (results fn tmps).run Tryz.prog w = .ok (.tuple #[t.agg, tmps.getD u undef]) w := by
  have e : (asAddr (.pointer (some ⟨b, 0, none⟩))).run Tryz.prog w = .ok ⟨b, 0, none⟩ w := rfl
  rw [results_cell_tmp h, hp, e]
  simp only [Result.andThen, load_ev hP]
theorem results_ev3 {fn : Func} {p u y : Tmp} (h : fn.results = #[.cell p 74, .tmp u, .tmp y]) {tmps : Array Value} {w : World} {b : Nat} {t : En} (hp : tmps.getD p undef = .pointer (some ⟨b, 0, none⟩)) (hP : Ev w b t) :
    (results fn tmps).run Tryz.prog w = .ok (.tuple #[t.agg, tmps.getD u undef, tmps.getD y undef]) w := by
  have e : (asAddr (.pointer (some ⟨b, 0, none⟩))).run Tryz.prog w = .ok ⟨b, 0, none⟩ w := rfl
  have hp' : tmps[p]?.getD undef = .pointer (some ⟨b, 0, none⟩) := by simpa using hp
  simp only [results, h]
  simp [Sem.run_bind, Result.andThen, hp', e, load_ev hP]
/-- A text, a number taken, if nothing was wrong before. -/
theorem rtext_stN (w : World) (r : Nat) (s : ByteArray) (z : Int) (hR : Rd w r s 0) :
    Calls Tryz.prog 99 #[.pointer (some ⟨r, 0, none⟩), .int .i64 z] w fun e w' => e = .returned (.string (str (rdT z (bl s)).1)) ∧ Rd w' r (str (rdT z (bl s)).2.1) (rdT z (bl s)).2.2 ∧ Only (fun k => k = r) w w' := rtext_any w r s z hR
theorem rnum_st (w : World) (r : Nat) (l : List UInt8) (x z : Int) (hR : Rd w r (str l) x) :
    Calls Tryz.prog 140 #[.pointer (some ⟨r, 0, none⟩), .int .i64 z] w fun e w' => e = .returned (.int .i64 (rnS (l, x) z).1) ∧ Rd w' r (str (rnS (l, x) z).2.1) (rnS (l, x) z).2.2 ∧ Only (fun k => k = r) w w' := by
  unfold rnS
  by_cases hx : x = 0
  · subst hx
    rw [if_pos rfl]
    exact rnum_any w r (str l) z hR
  · rw [if_neg hx]
    refine (rnum_err w r x z hR.c1 (by simpa using hx)).mono ?_
    rintro e w' ⟨he, rfl⟩
    exact ⟨he, hR, Only.refl _ _⟩
theorem rend_stN (w : World) (r : Nat) (l : List UInt8) (x : Int) (hR : Rd w r (str l) x) :
    Calls Tryz.prog 100 #[.pointer (some ⟨r, 0, none⟩)] w fun e w' => e = .returned (.int .i64 (endE l x)) ∧ w' = w := by
  unfold endE
  by_cases hx : x = 0
  · subst hx
    rw [if_pos rfl]
    have h := rend_ok w r (str l) hR.c1 hR.c0
    rw [str_size] at h
    exact h
  · rw [if_neg hx]
    exact rend_err w r x hR.c1 (by simpa using hx)
/-- Variables of taken: what it answers, and the entry that it fills. -/
structure Tk (w W : World) (r : Nat) (l : List UInt8) (x : Int) (e : En) : Prop where
  res : Ev W w.heap.size noE
  ent : Ev W (w.heap.size + 1) e
  rd : Rd W r (str l) x
  only : Only (fun k => k = r) w W
  lt : r < w.heap.size
theorem Tk.set {w W : World} {r : Nat} {l : List UInt8} {x : Int} {e e' : En} (h : Tk w W r l x e) (i : Nat) (v : Value) (ht : Ev (W.setCell ⟨w.heap.size + 1, i, none⟩ v) (w.heap.size + 1) e') : Tk w (W.setCell ⟨w.heap.size + 1, i, none⟩ v) r l x e' := by
  have ho : Only (fun k => k = w.heap.size + 1) W (W.setCell ⟨w.heap.size + 1, i, none⟩ v) := Only.setCell W _ v rfl
  have := h.lt
  exact ⟨h.res.kept ho (by omega), ht, h.rd.kept ho (by omega), h.only.trans ho (fun j hj e => by omega), h.lt⟩
theorem Tk.take {w W W' : World} {r : Nat} {l l' : List UInt8} {x x' : Int} {e : En} (h : Tk w W r l x e) (hr : Rd W' r (str l') x') (ho : Only (fun k => k = r) W W') : Tk w W' r l' x' e := by
  have := h.lt
  exact ⟨h.res.kept ho (by omega), h.ent.kept ho (by omega), hr, h.only.trans ho (fun j hj e => e), h.lt⟩
set_option maxHeartbeats 800000 in
theorem taken_any (w : World) (r : Nat) (s : ByteArray) (hR : Rd w r s 0) (hr : r < w.heap.size) :
    Calls Tryz.prog 166 #[.pointer (some ⟨r, 0, none⟩)] w fun e w' => e = .returned (takeE (bl s)).1.agg ∧ Rd w' r (str (takeE (bl s)).2.1) (takeE (bl s)).2.2 ∧ Only (fun k => k = r) w w' := by
  have H0 : Hid (Tk w ((w.alloc (.cells #[.string ⟨#[]⟩, .int .i64 0, .int .i64 0] 74)).alloc (.cells #[.string ⟨#[]⟩, .int .i64 0, .int .i64 0] 74)) r (bl s) 0 noE) := by
    have e1 := Ev.zero (w.alloc (.cells #[.string ⟨#[]⟩, .int .i64 0, .int .i64 0] 74))
    rw [World.size_alloc] at e1
    refine ⟨(Ev.zero w).more (onlyA _ _), e1, ?_, (o2 (onlyA _ _) (onlyA _ _)).mono (fun _ _ h => h.elim), hr⟩
    rw [str_bl]
    exact (hR.alloc _).alloc _
  obtain ⟨P, hP⟩ : ∃ P, rdT 24 (bl s) = P := ⟨_, rfl⟩
  obtain ⟨A, hA⟩ : ∃ A, rnS P.2 65535 = A := ⟨_, rfl⟩
  obtain ⟨C, hC⟩ : ∃ C, rnS A.2 65535 = C := ⟨_, rfl⟩
  have HT : Hid (takeE (bl s) = (⟨str P.1, A.1, C.1⟩, C.2)) := by
    unfold Hid takeE
    rw [hP, hA, hC]
  have HP := hide hP
  have HA := hide hA
  have HC := hide hC
  rw [HT.out]
  clear hP hA hC hR hr
  obtain ⟨K, hK⟩ : ∃ K, str P.1 = K := ⟨_, rfl⟩
  have HK := hide hK
  clear hK
  go_enter Tryz.func166, Tryz.ntmps166
  go_upto_region 2 with fail
  obtain ⟨W0, hW0⟩ : ∃ x, (w.alloc (.cells #[.string ⟨#[]⟩, .int .i64 0, .int .i64 0] 74)).alloc (.cells #[.string ⟨#[]⟩, .int .i64 0, .int .i64 0] 74) = x := ⟨_, rfl⟩
  rw [hW0] at H0 ⊢
  clear hW0
  go_wp2_with fail
  have h1 := H0.out.rd
  rw [str_bl] at h1
  refine (rtext_stN W0 r s 24 h1).mono ?_
  clear h1
  rintro e W1 ⟨rfl, hr1, ho1⟩
  rw [HP.out] at hr1 ⊢
  rw [HK.out]
  have H1 := hide (H0.out.take hr1 ho1)
  clear hr1 ho1 H0
  have c0 := H1.out.ent.c0
  have f0 := H1.out.ent.f0
  go_wp2_with fail
  have H2 := hide (H1.out.set 0 _ (H1.out.ent.s0 K))
  clear c0 f0 H1
  obtain ⟨W2, hW2⟩ : ∃ x, W1.setCell ⟨w.heap.size + 1, 0, none⟩ (.string K) = x := ⟨_, rfl⟩
  rw [hW2] at H2 ⊢
  clear hW2
  refine (rnum_st W2 r P.2.1 P.2.2 65535 H2.out.rd).mono ?_
  rintro e W3 ⟨rfl, hr3, ho3⟩
  rw [HA.out] at hr3 ⊢
  have H3 := hide (H2.out.take hr3 ho3)
  clear hr3 ho3 H2
  have c1 := H3.out.ent.c1
  have f1 := H3.out.ent.f1
  go_wp2_with fail
  have H4 := hide (H3.out.set 1 _ (H3.out.ent.s1 A.1))
  clear c1 f1 H3
  obtain ⟨W4, hW4⟩ : ∃ x, W3.setCell ⟨w.heap.size + 1, 1, none⟩ (.int .i64 A.1) = x := ⟨_, rfl⟩
  rw [hW4] at H4 ⊢
  clear hW4
  refine (rnum_st W4 r A.2.1 A.2.2 65535 H4.out.rd).mono ?_
  rintro e W5 ⟨rfl, hr5, ho5⟩
  rw [HC.out] at hr5 ⊢
  have H5 := hide (H4.out.take hr5 ho5)
  clear hr5 ho5 H4
  have c2 := H5.out.ent.c2
  have f2 := H5.out.ent.f2
  go_upto_region 5 with fail
  have H6 := hide (H5.out.set 2 _ (H5.out.ent.s2 C.1))
  clear c2 f2 H5
  obtain ⟨W6, hW6⟩ : ∃ x, W5.setCell ⟨w.heap.size + 1, 2, none⟩ (.int .i64 C.1) = x := ⟨_, rfl⟩
  rw [hW6] at H6 ⊢
  clear hW6
  have c0 := H6.out.ent.c0
  have c1 := H6.out.ent.c1
  have c2 := H6.out.ent.c2
  simp only [] at c0 c1 c2
  have r0 := H6.out.res.c0
  have r1 := H6.out.res.c1
  have r2 := H6.out.res.c2
  have g0 := H6.out.res.f0
  have g1 := H6.out.res.f1
  have g2 := H6.out.res.f2
  go_wp2_with fail
  refine bodyPost_ret (results_ev1 rfl rfl (H6.out.res.all ⟨K, A.1, C.1⟩)) rfl ?_
  have ho := Only.three W6 w.heap.size (.string K) (.int .i64 A.1) (.int .i64 C.1)
  have := H6.out.lt
  exact ⟨by rw [HK.out], H6.out.rd.kept ho (by omega), H6.out.only.trans ho (fun j hj e => by omega)⟩
/-- What Decode answers. -/
def outE (o : Option En) : Value := .tuple #[(o.getD noE).agg, .int .i64 (if o.isSome then 0 else 140)]
/-- Variables of Decode: what it answers, its reader, the entry. -/
structure Dc (w W : World) (l : List UInt8) (x : Int) : Prop where
  res : Ev W w.heap.size noE
  rd : Rd W (w.heap.size + 1) (str l) x
  only : Only (fun _ => False) w W
theorem Dc.take {w W W' : World} {l l' : List UInt8} {x x' : Int} (h : Dc w W l x) (hr : Rd W' (w.heap.size + 1) (str l') x') (ho : Only (fun k => k = w.heap.size + 1) W W') : Dc w W' l' x' :=
  ⟨h.res.kept ho (by omega), hr, h.only.trans ho (fun i hi e => by omega)⟩
theorem Dc.more {w W W' : World} {l : List UInt8} {x : Int} (h : Dc w W l x) (ho : Only (fun _ => False) W W') : Dc w W' l x :=
  ⟨h.res.more ho, h.rd.kept ho (fun h => h), o2 h.only ho⟩
set_option maxHeartbeats 800000 in
theorem decode_any (s : ByteArray) (w : World) :
    Calls Tryz.prog 120 #[.string s] w fun e w' => e = .returned (outE (decE (bl s))) ∧ Only (fun _ => False) w w' := by
  have H0 : Hid (Dc w ((w.alloc (.cells #[.string ⟨#[]⟩, .int .i64 0, .int .i64 0] 74)).alloc (.cells #[.string s, .int .i64 0] 179)) (bl s) 0) := by
    have e1 := Rd.new (w.alloc (.cells #[.string ⟨#[]⟩, .int .i64 0, .int .i64 0] 74)) s
    rw [World.size_alloc] at e1
    refine ⟨(Ev.zero w).more (onlyA _ _), by rw [str_bl]; exact e1, o2 (onlyA _ _) (onlyA _ _)⟩
  go_enter Tryz.func120, Tryz.ntmps120
  go_wp2_with fail
  refine (read_any s _).mono ?_
  rintro e w2 ⟨rfl, rfl⟩
  go_upto_region 2 with fail
  obtain ⟨W0, hW0⟩ : ∃ x, (w.alloc (.cells #[.string ⟨#[]⟩, .int .i64 0, .int .i64 0] 74)).alloc (.cells #[.string s, .int .i64 0] 179) = x := ⟨_, rfl⟩
  rw [hW0] at H0 ⊢
  clear hW0
  have h1 := H0.out.rd
  rw [str_bl] at h1
  have HTK := hide (taken_any W0 (w.heap.size + 1) s h1 h1.lt)
  clear h1
  obtain ⟨T, hT⟩ : ∃ T, takeE (bl s) = T := ⟨_, rfl⟩
  have HD : Hid (decE (bl s) = if endE T.2.1 T.2.2 = 0 ∧ T.1.ok = true then some T.1 else none) := by
    unfold Hid decE
    rw [hT]
  rw [hT] at HTK
  clear hT
  obtain ⟨e, l, x⟩ := T
  obtain ⟨k, p, q⟩ := e
  unfold En.agg at HTK
  simp only [] at HTK HD
  go_wp2_with fail
  refine HTK.out.mono ?_
  rintro e W1 ⟨rfl, hr1, ho1⟩
  go_upto_region 3 with fail
  have H1 := hide (H0.out.take hr1 ho1)
  have HV := hide (Ev.new W1 ⟨k, p, q⟩)
  have HA := hide (onlyA W1 (.cells #[.string k, .int .i64 p, .int .i64 q] 74))
  have HS : Hid (w.heap.size + 1 < W1.heap.size) := H1.out.rd.lt
  simp only [] at HV
  clear hr1 ho1 H0 HTK
  obtain ⟨W2, hW2⟩ : ∃ x, W1.alloc (.cells #[.string k, .int .i64 p, .int .i64 q] 74) = x := ⟨_, rfl⟩
  rw [hW2] at HV HA ⊢
  clear hW2
  have H2 := hide (H1.out.more HA.out)
  clear HA H1
  have HIE : Hid (∀ W, Calls Tryz.prog 167 #[.agg #[.string k, .int .i64 p, .int .i64 q]] W fun x w' => x = .returned (.bool (En.ok ⟨k, p, q⟩)) ∧ Only (fun _ => False) W w') := fun W => isEntry_any ⟨k, p, q⟩ W
  obtain ⟨O, hO⟩ : ∃ O, En.ok ⟨k, p, q⟩ = O := ⟨_, rfl⟩
  rw [hO] at HIE HD
  clear hO
  have HRE : Hid (Calls Tryz.prog 100 #[.pointer (some ⟨w.heap.size + 1, 0, none⟩)] W2 fun e w' => e = .returned (.int .i64 (endE l x)) ∧ w' = W2) := rend_stN W2 _ l x H2.out.rd
  obtain ⟨E, hE⟩ : ∃ E, endE l x = E := ⟨_, rfl⟩
  rw [hE] at HRE HD
  clear hE
  by_cases he : E = 0
  · subst he
    have HDX : Hid (decE (bl s) = if O = true then some ⟨k, p, q⟩ else none) := by unfold Hid; rw [HD.out]; simp
    clear HD
    have c0 := HV.out.c0
    have c1 := HV.out.c1
    have c2 := HV.out.c2
    simp only [] at c0 c1 c2
    go_wp2_with fail
    refine HRE.out.mono ?_
    rintro e W3 ⟨rfl, h3⟩
    obtain rfl := h3.symm
    go_wp2_with fail
    refine (HIE.out _).mono ?_
    rintro e W4 ⟨rfl, ho4⟩
    have H4 := hide (H2.out.more ho4)
    have HV4 := hide (HV.out.more ho4)
    clear ho4 c0 c1 c2
    have c0 := HV4.out.c0
    have c1 := HV4.out.c1
    have c2 := HV4.out.c2
    simp only [] at c0 c1 c2
    have r0 := H4.out.res.c0
    have r1 := H4.out.res.c1
    have r2 := H4.out.res.c2
    have g0 := H4.out.res.f0
    have g1 := H4.out.res.f1
    have g2 := H4.out.res.f2
    cases O
    · go_wp2_with fail
      refine bodyPost_ret (results_ev rfl rfl (H4.out.res.all noE)) rfl ?_
      exact ⟨by rw [HDX.out]; rfl, H4.out.only.trans (Only.three _ _ _ _ _) (fun i hi e => by omega)⟩
    · go_wp2_with fail
      refine bodyPost_ret (results_ev rfl rfl (H4.out.res.all ⟨k, p, q⟩)) rfl ?_
      exact ⟨by rw [HDX.out]; rfl, H4.out.only.trans (Only.three _ _ _ _ _) (fun i hi e => by omega)⟩
  · have he' : (E != 0) = true := by simpa using he
    have HDX : Hid (decE (bl s) = none) := by unfold Hid; rw [HD.out, if_neg (fun h => he h.1)]
    clear he HD
    have r0 := H2.out.res.c0
    have r1 := H2.out.res.c1
    have r2 := H2.out.res.c2
    have g0 := H2.out.res.f0
    have g1 := H2.out.res.f1
    have g2 := H2.out.res.f2
    go_wp2_with fail
    refine HRE.out.mono ?_
    rintro e W3 ⟨rfl, h3⟩
    obtain rfl := h3.symm
    go_wp2_with fail
    refine bodyPost_ret (results_ev rfl rfl (H2.out.res.all noE)) rfl ?_
    exact ⟨by rw [HDX.out]; rfl, H2.out.only.trans (Only.three _ _ _ _ _) (fun i hi e => by omega)⟩
/-- What Unsep answers. -/
def outS (o : Option (En × Int)) : Value := .tuple #[(o.getD (noE, 0)).1.agg, .int .i64 (o.getD (noE, 0)).2, .int .i64 (if o.isSome then 0 else 140)]
set_option maxHeartbeats 800000 in
theorem unsep_any (s : ByteArray) (w : World) :
    Calls Tryz.prog 122 #[.string s] w fun e w' => e = .returned (outS (decS (bl s))) ∧ Only (fun _ => False) w w' := by
  have H0 : Hid (Dc w ((w.alloc (.cells #[.string ⟨#[]⟩, .int .i64 0, .int .i64 0] 74)).alloc (.cells #[.string s, .int .i64 0] 179)) (bl s) 0) := by
    have e1 := Rd.new (w.alloc (.cells #[.string ⟨#[]⟩, .int .i64 0, .int .i64 0] 74)) s
    rw [World.size_alloc] at e1
    refine ⟨(Ev.zero w).more (onlyA _ _), by rw [str_bl]; exact e1, o2 (onlyA _ _) (onlyA _ _)⟩
  go_enter Tryz.func122, Tryz.ntmps122
  go_wp2_with fail
  refine (read_any s _).mono ?_
  rintro e w2 ⟨rfl, rfl⟩
  go_upto_region 2 with fail
  obtain ⟨W0, hW0⟩ : ∃ x, (w.alloc (.cells #[.string ⟨#[]⟩, .int .i64 0, .int .i64 0] 74)).alloc (.cells #[.string s, .int .i64 0] 179) = x := ⟨_, rfl⟩
  rw [hW0] at H0 ⊢
  clear hW0
  have h1 := H0.out.rd
  rw [str_bl] at h1
  have HTK := hide (taken_any W0 (w.heap.size + 1) s h1 h1.lt)
  clear h1
  obtain ⟨T, hT⟩ : ∃ T, takeE (bl s) = T := ⟨_, rfl⟩
  obtain ⟨C, hC⟩ : ∃ C, rnS T.2 65535 = C := ⟨_, rfl⟩
  have HD : Hid (decS (bl s) = if endE C.2.1 C.2.2 = 0 ∧ T.1.sp = true ∧ okC C.1 = true then some (T.1, C.1) else none) := by
    unfold Hid decS takeS
    rw [hT, hC]
  have HC := hide hC
  rw [hT] at HTK
  clear hT hC
  obtain ⟨e, l, x⟩ := T
  obtain ⟨k, p, q⟩ := e
  obtain ⟨c, l2, x2⟩ := C
  unfold En.agg at HTK
  simp only [] at HTK HD HC
  go_wp2_with fail
  refine HTK.out.mono ?_
  rintro e W1 ⟨rfl, hr1, ho1⟩
  go_upto_region 3 with fail
  have H1 := hide (H0.out.take hr1 ho1)
  have HV := hide (Ev.new W1 ⟨k, p, q⟩)
  have HA := hide (onlyA W1 (.cells #[.string k, .int .i64 p, .int .i64 q] 74))
  have HS : Hid (w.heap.size + 1 < W1.heap.size) := H1.out.rd.lt
  obtain ⟨b, hb⟩ : ∃ b, W1.heap.size = b := ⟨_, rfl⟩
  rw [hb] at HV HS ⊢
  clear hb
  simp only [] at HV
  clear hr1 ho1 H0 HTK
  obtain ⟨W2, hW2⟩ : ∃ x, W1.alloc (.cells #[.string k, .int .i64 p, .int .i64 q] 74) = x := ⟨_, rfl⟩
  rw [hW2] at HV HA ⊢
  clear hW2
  have H2 := hide (H1.out.more HA.out)
  clear HA H1
  go_wp2_with fail
  refine (rnum_st W2 _ l x 65535 H2.out.rd).mono ?_
  rintro e W3 ⟨rfl, hr3, ho3⟩
  rw [HC.out] at hr3 ⊢
  have H3 := hide (H2.out.take hr3 ho3)
  have HV3 := hide (HV.out.kept ho3 (by have := HS.out; omega))
  clear hr3 ho3 H2 HV
  simp only [] at H3
  have HIE : Hid (∀ W, Calls Tryz.prog 172 #[.agg #[.string k, .int .i64 p, .int .i64 q]] W fun x w' => x = .returned (.bool (En.sp ⟨k, p, q⟩)) ∧ Only (fun _ => False) W w') := fun W => separates_any ⟨k, p, q⟩ W
  have HIC : Hid (∀ W, Calls Tryz.prog 173 #[.int .i64 c] W fun x w' => x = .returned (.bool (okC c)) ∧ w' = W) := fun W => isChild_any c W
  obtain ⟨O, hO⟩ : ∃ O, En.sp ⟨k, p, q⟩ = O := ⟨_, rfl⟩
  obtain ⟨U, hU⟩ : ∃ U, okC c = U := ⟨_, rfl⟩
  rw [hO] at HIE HD
  rw [hU] at HIC HD
  clear hO hU
  have HRE : Hid (Calls Tryz.prog 100 #[.pointer (some ⟨w.heap.size + 1, 0, none⟩)] W3 fun e w' => e = .returned (.int .i64 (endE l2 x2)) ∧ w' = W3) := rend_stN W3 _ l2 x2 H3.out.rd
  obtain ⟨E, hE⟩ : ∃ E, endE l2 x2 = E := ⟨_, rfl⟩
  rw [hE] at HRE HD
  clear hE
  by_cases he : E = 0
  · subst he
    have HDX : Hid (decS (bl s) = if O = true ∧ U = true then some (⟨k, p, q⟩, c) else none) := by unfold Hid; rw [HD.out]; simp
    clear HD
    have c0 := HV3.out.c0
    have c1 := HV3.out.c1
    have c2 := HV3.out.c2
    simp only [] at c0 c1 c2
    go_wp2_with fail
    refine HRE.out.mono ?_
    rintro e W4 ⟨rfl, h4⟩
    obtain rfl := h4.symm
    go_wp2_with fail
    refine (HIE.out _).mono ?_
    rintro e W5 ⟨rfl, ho5⟩
    have H5 := hide (H3.out.more ho5)
    have HV5 := hide (HV3.out.more ho5)
    clear ho5 c0 c1 c2
    have c0 := HV5.out.c0
    have c1 := HV5.out.c1
    have c2 := HV5.out.c2
    simp only [] at c0 c1 c2
    have r0 := H5.out.res.c0
    have r1 := H5.out.res.c1
    have r2 := H5.out.res.c2
    have g0 := H5.out.res.f0
    have g1 := H5.out.res.f1
    have g2 := H5.out.res.f2
    cases O
    · go_wp2_with fail
      refine bodyPost_ret (results_ev3 rfl rfl (H5.out.res.all noE)) rfl ?_
      exact ⟨by rw [HDX.out]; rfl, H5.out.only.trans (Only.three _ _ _ _ _) (fun i hi e => by omega)⟩
    · go_wp2_with fail
      refine (HIC.out _).mono ?_
      rintro e W6 ⟨rfl, h6⟩
      obtain rfl := h6.symm
      cases U
      · go_wp2_with fail
        refine bodyPost_ret (results_ev3 rfl rfl (H5.out.res.all noE)) rfl ?_
        exact ⟨by rw [HDX.out]; rfl, H5.out.only.trans (Only.three _ _ _ _ _) (fun i hi e => by omega)⟩
      · go_wp2_with fail
        refine bodyPost_ret (results_ev3 rfl rfl (H5.out.res.all ⟨k, p, q⟩)) rfl ?_
        exact ⟨by rw [HDX.out]; rfl, H5.out.only.trans (Only.three _ _ _ _ _) (fun i hi e => by omega)⟩
  · have he' : (E != 0) = true := by simpa using he
    have HDX : Hid (decS (bl s) = none) := by unfold Hid; rw [HD.out, if_neg (fun h => he h.1)]
    clear he HD
    have r0 := H3.out.res.c0
    have r1 := H3.out.res.c1
    have r2 := H3.out.res.c2
    have g0 := H3.out.res.f0
    have g1 := H3.out.res.f1
    have g2 := H3.out.res.f2
    go_wp2_with fail
    refine HRE.out.mono ?_
    rintro e W4 ⟨rfl, h4⟩
    obtain rfl := h4.symm
    go_wp2_with fail
    refine bodyPost_ret (results_ev3 rfl rfl (H3.out.res.all noE)) rfl ?_
    exact ⟨by rw [HDX.out]; rfl, H3.out.only.trans (Only.three _ _ _ _ _) (fun i hi e => by omega)⟩
/-- What a node says, in a block. -/
structure Cv (w : World) (b : Nat) (es ks : Value) (h : En) : Prop where
  c0 : w.cell? ⟨b, 0, none⟩ = some es
  c1 : w.cell? ⟨b, 1, none⟩ = some ks
  c2 : w.cell? ⟨b, 2, none⟩ = some (.string h.key)
  c3 : w.cell? ⟨b, 3, none⟩ = some (.int .i64 h.page)
  c4 : w.cell? ⟨b, 4, none⟩ = some (.int .i64 h.slot)
  f0 : w.frozen? ⟨b, 0, none⟩ = false
  f1 : w.frozen? ⟨b, 1, none⟩ = false
  f2 : w.frozen? ⟨b, 2, none⟩ = false
  f3 : w.frozen? ⟨b, 3, none⟩ = false
  f4 : w.frozen? ⟨b, 4, none⟩ = false
  lt : b < w.heap.size
theorem Cv.kept {S : Nat → Prop} {w w' : World} {b : Nat} {es ks : Value} {h : En} (x : Cv w b es ks h) (ho : Only S w w') (hS : ¬ S b) : Cv w' b es ks h :=
  ⟨(ho.cell (p := ⟨b, 0, none⟩) x.lt hS).trans x.c0, (ho.cell (p := ⟨b, 1, none⟩) x.lt hS).trans x.c1, (ho.cell (p := ⟨b, 2, none⟩) x.lt hS).trans x.c2, (ho.cell (p := ⟨b, 3, none⟩) x.lt hS).trans x.c3, (ho.cell (p := ⟨b, 4, none⟩) x.lt hS).trans x.c4,
   (ho.frozen (p := ⟨b, 0, none⟩) x.lt hS).trans x.f0, (ho.frozen (p := ⟨b, 1, none⟩) x.lt hS).trans x.f1, (ho.frozen (p := ⟨b, 2, none⟩) x.lt hS).trans x.f2, (ho.frozen (p := ⟨b, 3, none⟩) x.lt hS).trans x.f3, (ho.frozen (p := ⟨b, 4, none⟩) x.lt hS).trans x.f4, Nat.lt_of_lt_of_le x.lt ho.size⟩
theorem Cv.more {w w' : World} {b : Nat} {es ks : Value} {h : En} (x : Cv w b es ks h) (ho : Only (fun _ => False) w w') : Cv w' b es ks h := x.kept ho (fun h => h)
theorem Cv.new (w : World) (es ks : Value) (h : En) : Cv (w.alloc (.cells #[es, ks, .string h.key, .int .i64 h.page, .int .i64 h.slot] 200)) w.heap.size es ks h :=
  ⟨by simp, by simp, by simp, by simp, by simp, by simp, by simp, by simp, by simp, by simp, by simp⟩
/-- What a node says, as a value. -/
def cvv (es ks : Value) (h : En) : Value := .agg #[es, ks, .string h.key, .int .i64 h.page, .int .i64 h.slot]
theorem load_cv {w : World} {b : Nat} {a1 a2 : Option Addr} {n1 n2 c1 c2 : Nat} {h : En} (x : Cv w b (.slice a1 n1 c1) (.slice a2 n2 c2) h) : (loadVar 200 ⟨b, 0, none⟩).run Tryz.prog w = .ok (cvv (.slice a1 n1 c1) (.slice a2 n2 c2) h) w := by
  have c0 := x.c0
  have c1 := x.c1
  have c2 := x.c2
  have c3 := x.c3
  have c4 := x.c4
  simp [loadVar, go_sem, c0, c1, c2, c3, c4, cvv]
theorem results_cv {fn : Func} {p u : Tmp} (h : fn.results = #[.cell p 200, .tmp u]) {tmps : Array Value} {w : World} {b : Nat} {a1 a2 : Option Addr} {n1 n2 c1 c2 : Nat} {hi : En} (hp : tmps.getD p undef = .pointer (some ⟨b, 0, none⟩)) (hP : Cv w b (.slice a1 n1 c1) (.slice a2 n2 c2) hi) :
    (results fn tmps).run Tryz.prog w = .ok (.tuple #[cvv (.slice a1 n1 c1) (.slice a2 n2 c2) hi, tmps.getD u undef]) w := by
  have e : (asAddr (.pointer (some ⟨b, 0, none⟩))).run Tryz.prog w = .ok ⟨b, 0, none⟩ w := rfl
  rw [results_cell_tmp h, hp, e]
  simp only [Result.andThen, load_cv hP]
theorem Cv.s0 {w : World} {b : Nat} {es ks : Value} {h : En} (x : Cv w b es ks h) (v : Value) : Cv (w.setCell ⟨b, 0, none⟩ v) b v ks h :=
  ⟨World.cell?_setCell_same _ _ _ x.c0, othN _ _ _ _ _ _ (by omega) x.c1, othN _ _ _ _ _ _ (by omega) x.c2, othN _ _ _ _ _ _ (by omega) x.c3, othN _ _ _ _ _ _ (by omega) x.c4, by simpa using x.f0, by simpa using x.f1, by simpa using x.f2, by simpa using x.f3, by simpa using x.f4, by simpa using x.lt⟩
theorem Cv.s1 {w : World} {b : Nat} {es ks : Value} {h : En} (x : Cv w b es ks h) (v : Value) : Cv (w.setCell ⟨b, 1, none⟩ v) b es v h :=
  ⟨othN _ _ _ _ _ _ (by omega) x.c0, World.cell?_setCell_same _ _ _ x.c1, othN _ _ _ _ _ _ (by omega) x.c2, othN _ _ _ _ _ _ (by omega) x.c3, othN _ _ _ _ _ _ (by omega) x.c4, by simpa using x.f0, by simpa using x.f1, by simpa using x.f2, by simpa using x.f3, by simpa using x.f4, by simpa using x.lt⟩
theorem Cv.s2 {w : World} {b : Nat} {es ks : Value} {h : En} (x : Cv w b es ks h) (v : ByteArray) : Cv (w.setCell ⟨b, 2, none⟩ (.string v)) b es ks ⟨v, h.page, h.slot⟩ :=
  ⟨othN _ _ _ _ _ _ (by omega) x.c0, othN _ _ _ _ _ _ (by omega) x.c1, World.cell?_setCell_same _ _ _ x.c2, othN _ _ _ _ _ _ (by omega) x.c3, othN _ _ _ _ _ _ (by omega) x.c4, by simpa using x.f0, by simpa using x.f1, by simpa using x.f2, by simpa using x.f3, by simpa using x.f4, by simpa using x.lt⟩
theorem Cv.s3 {w : World} {b : Nat} {es ks : Value} {h : En} (x : Cv w b es ks h) (v : Int) : Cv (w.setCell ⟨b, 3, none⟩ (.int .i64 v)) b es ks ⟨h.key, v, h.slot⟩ :=
  ⟨othN _ _ _ _ _ _ (by omega) x.c0, othN _ _ _ _ _ _ (by omega) x.c1, othN _ _ _ _ _ _ (by omega) x.c2, World.cell?_setCell_same _ _ _ x.c3, othN _ _ _ _ _ _ (by omega) x.c4, by simpa using x.f0, by simpa using x.f1, by simpa using x.f2, by simpa using x.f3, by simpa using x.f4, by simpa using x.lt⟩
theorem Cv.s4 {w : World} {b : Nat} {es ks : Value} {h : En} (x : Cv w b es ks h) (v : Int) : Cv (w.setCell ⟨b, 4, none⟩ (.int .i64 v)) b es ks ⟨h.key, h.page, v⟩ :=
  ⟨othN _ _ _ _ _ _ (by omega) x.c0, othN _ _ _ _ _ _ (by omega) x.c1, othN _ _ _ _ _ _ (by omega) x.c2, othN _ _ _ _ _ _ (by omega) x.c3, World.cell?_setCell_same _ _ _ x.c4, by simpa using x.f0, by simpa using x.f1, by simpa using x.f2, by simpa using x.f3, by simpa using x.f4, by simpa using x.lt⟩
theorem Cv.all {w : World} {b : Nat} {u v : Value} {g : En} (x : Cv w b u v g) (es ks : Value) (h : En) : Cv (((((w.setCell ⟨b, 0, none⟩ es).setCell ⟨b, 1, none⟩ ks).setCell ⟨b, 2, none⟩ (.string h.key)).setCell ⟨b, 3, none⟩ (.int .i64 h.page)).setCell ⟨b, 4, none⟩ (.int .i64 h.slot)) b es ks h :=
  ((((x.s0 es).s1 ks).s2 h.key).s3 h.page).s4 h.slot
theorem Only.five (w : World) (b : Nat) (v0 v1 v2 v3 v4 : Value) : Only (fun k => k = b) w (((((w.setCell ⟨b, 0, none⟩ v0).setCell ⟨b, 1, none⟩ v1).setCell ⟨b, 2, none⟩ v2).setCell ⟨b, 3, none⟩ v3).setCell ⟨b, 4, none⟩ v4) := by
  have st : ∀ (W : World) (i : Nat) (v : Value), Only (fun k => k = b) W (W.setCell ⟨b, i, none⟩ v) := fun W i v => Only.setCell W ⟨b, i, none⟩ v rfl
  exact ((((st _ 0 _).trans (st _ 1 _) (fun _ _ h => h)).trans (st _ 2 _) (fun _ _ h => h)).trans (st _ 3 _) (fun _ _ h => h)).trans (st _ 4 _) (fun _ _ h => h)
theorem byd_of {h e : En} (hn : ¬ h = noE) : byd h e = decide (0 < cmpE e h) := by
  unfold byd
  exact decide_eq_decide.2 ⟨fun k => cmpE_pos.2 k.2, fun k => ⟨hn, cmpE_pos.1 k⟩⟩
theorem blw_of {h e : En} (hn : ¬ h = noE) : blw h e = decide (cmpE e h < 0) := by
  unfold blw
  refine decide_eq_decide.2 ⟨fun k => ?_, fun k => .inr (cmpE_neg.1 k)⟩
  rcases k with k | k
  · exact absurd k hn
  · exact cmpE_neg.2 k
set_option maxHeartbeats 1600000 in
theorem isBeyond_any (w : World) (a1 a2 : Option Addr) (n1 n2 c1 c2 : Nat) (h e : En) :
    Calls Tryz.prog 169 #[cvv (.slice a1 n1 c1) (.slice a2 n2 c2) h, e.agg] w fun x w' => x = .returned (.bool (byd h e)) ∧ Only (fun _ => False) w w' := by
  have HL : Hid (∀ W, Calls Tryz.prog 195 #[h.agg] W fun x w' => x = .returned (.bool (decide (h = noE))) ∧ Only (fun _ => False) W w') := fun W => isLeast_any h W
  have HM : Hid (∀ W, Calls Tryz.prog 194 #[e.agg, h.agg] W fun x w' => x = .returned (.int .i64 (cmpE e h)) ∧ Only (fun _ => False) W w') := fun W => compare_any e h W
  have HCV := hide ((Cv.new w (.slice a1 n1 c1) (.slice a2 n2 c2) h).more (onlyA _ (.cells #[.string e.key, .int .i64 e.page, .int .i64 e.slot] 74)))
  have HEV := hide (Ev.new (w.alloc (.cells #[.slice a1 n1 c1, .slice a2 n2 c2, .string h.key, .int .i64 h.page, .int .i64 h.slot] 200)) e)
  rw [World.size_alloc] at HEV
  have HO := hide (o2 (onlyA w (.cells #[.slice a1 n1 c1, .slice a2 n2 c2, .string h.key, .int .i64 h.page, .int .i64 h.slot] 200)) (onlyA _ (.cells #[.string e.key, .int .i64 e.page, .int .i64 e.slot] 74)))
  by_cases hn : h = noE
  · have hd : decide (h = noE) = true := decide_eq_true hn
    have hb : byd h e = false := by rw [hn, byd_noE]
    rw [hd] at HL
    rw [hb]
    clear hn hd hb
    obtain ⟨k, p, s⟩ := h
    obtain ⟨k', p', s'⟩ := e
    unfold cvv
    unfold En.agg at HL HM ⊢
    simp only [] at HL HM HCV HEV HO ⊢
    go_enter Tryz.func169, Tryz.ntmps169
    obtain ⟨W0, hW0⟩ : ∃ x, (w.alloc (.cells #[.slice a1 n1 c1, .slice a2 n2 c2, .string k, .int .i64 p, .int .i64 s] 200)).alloc (.cells #[.string k', .int .i64 p', .int .i64 s'] 74) = x := ⟨_, rfl⟩
    rw [hW0] at HCV HEV HO
    go_upto_region 1 with fail
    clear hW0
    have c2 := HCV.out.c2
    have c3 := HCV.out.c3
    have c4 := HCV.out.c4
    simp only [] at c2 c3 c4
    go_wp2_with fail
    refine (HL.out _).mono ?_
    rintro x w1 ⟨rfl, ho⟩
    have HO1 := hide (o2 HO.out ho)
    clear ho c2 c3 c4
    go_wp2_with fail
    go_ret
    exact ⟨rfl, HO1.out⟩
  · have hd : decide (h = noE) = false := decide_eq_false hn
    rw [hd] at HL
    rw [byd_of hn]
    clear hn hd
    obtain ⟨c, hc⟩ : ∃ c, cmpE e h = c := ⟨_, rfl⟩
    rw [hc] at HM ⊢
    clear hc
    obtain ⟨k, p, s⟩ := h
    obtain ⟨k', p', s'⟩ := e
    unfold cvv
    unfold En.agg at HL HM ⊢
    simp only [] at HL HM HCV HEV HO ⊢
    go_enter Tryz.func169, Tryz.ntmps169
    obtain ⟨W0, hW0⟩ : ∃ x, (w.alloc (.cells #[.slice a1 n1 c1, .slice a2 n2 c2, .string k, .int .i64 p, .int .i64 s] 200)).alloc (.cells #[.string k', .int .i64 p', .int .i64 s'] 74) = x := ⟨_, rfl⟩
    rw [hW0] at HCV HEV HO
    go_upto_region 1 with fail
    clear hW0
    have c2 := HCV.out.c2
    have c3 := HCV.out.c3
    have c4 := HCV.out.c4
    simp only [] at c2 c3 c4
    go_wp2_with fail
    refine (HL.out _).mono ?_
    rintro x w1 ⟨rfl, ho⟩
    have HO1 := hide (o2 HO.out ho)
    have HC1 := hide (HCV.out.more ho)
    have HE1 := hide (HEV.out.more ho)
    clear ho c2 c3 c4
    have c2 := HC1.out.c2
    have c3 := HC1.out.c3
    have c4 := HC1.out.c4
    have d0 := HE1.out.c0
    have d1 := HE1.out.c1
    have d2 := HE1.out.c2
    simp only [] at c2 c3 c4 d0 d1 d2
    go_wp2_with fail
    refine (HM.out _).mono ?_
    rintro x w2 ⟨rfl, ho⟩
    have HO2 := hide (o2 HO1.out ho)
    clear ho
    go_wp2_with fail
    go_ret
    exact ⟨rfl, HO2.out⟩
set_option maxHeartbeats 1600000 in
theorem isBelow_any (w : World) (a1 a2 : Option Addr) (n1 n2 c1 c2 : Nat) (h e : En) :
    Calls Tryz.prog 175 #[cvv (.slice a1 n1 c1) (.slice a2 n2 c2) h, e.agg] w fun x w' => x = .returned (.bool (blw h e)) ∧ Only (fun _ => False) w w' := by
  have HL : Hid (∀ W, Calls Tryz.prog 195 #[h.agg] W fun x w' => x = .returned (.bool (decide (h = noE))) ∧ Only (fun _ => False) W w') := fun W => isLeast_any h W
  have HM : Hid (∀ W, Calls Tryz.prog 194 #[e.agg, h.agg] W fun x w' => x = .returned (.int .i64 (cmpE e h)) ∧ Only (fun _ => False) W w') := fun W => compare_any e h W
  have HCV := hide ((Cv.new w (.slice a1 n1 c1) (.slice a2 n2 c2) h).more (onlyA _ (.cells #[.string e.key, .int .i64 e.page, .int .i64 e.slot] 74)))
  have HEV := hide (Ev.new (w.alloc (.cells #[.slice a1 n1 c1, .slice a2 n2 c2, .string h.key, .int .i64 h.page, .int .i64 h.slot] 200)) e)
  rw [World.size_alloc] at HEV
  have HO := hide (o2 (onlyA w (.cells #[.slice a1 n1 c1, .slice a2 n2 c2, .string h.key, .int .i64 h.page, .int .i64 h.slot] 200)) (onlyA _ (.cells #[.string e.key, .int .i64 e.page, .int .i64 e.slot] 74)))
  by_cases hn : h = noE
  · have hd : decide (h = noE) = true := decide_eq_true hn
    have hb : blw h e = true := by unfold blw; simp [hn]
    rw [hd] at HL
    rw [hb]
    clear hn hd hb
    obtain ⟨k, p, s⟩ := h
    obtain ⟨k', p', s'⟩ := e
    unfold cvv
    unfold En.agg at HL HM ⊢
    simp only [] at HL HM HCV HEV HO ⊢
    go_enter Tryz.func175, Tryz.ntmps175
    obtain ⟨W0, hW0⟩ : ∃ x, (w.alloc (.cells #[.slice a1 n1 c1, .slice a2 n2 c2, .string k, .int .i64 p, .int .i64 s] 200)).alloc (.cells #[.string k', .int .i64 p', .int .i64 s'] 74) = x := ⟨_, rfl⟩
    rw [hW0] at HCV HEV HO
    go_upto_region 1 with fail
    clear hW0
    have c2 := HCV.out.c2
    have c3 := HCV.out.c3
    have c4 := HCV.out.c4
    simp only [] at c2 c3 c4
    go_wp2_with fail
    refine (HL.out _).mono ?_
    rintro x w1 ⟨rfl, ho⟩
    have HO1 := hide (o2 HO.out ho)
    clear ho c2 c3 c4
    go_wp2_with fail
    go_ret
    exact ⟨rfl, HO1.out⟩
  · have hd : decide (h = noE) = false := decide_eq_false hn
    rw [hd] at HL
    rw [blw_of hn]
    clear hn hd
    obtain ⟨c, hc⟩ : ∃ c, cmpE e h = c := ⟨_, rfl⟩
    rw [hc] at HM ⊢
    clear hc
    obtain ⟨k, p, s⟩ := h
    obtain ⟨k', p', s'⟩ := e
    unfold cvv
    unfold En.agg at HL HM ⊢
    simp only [] at HL HM HCV HEV HO ⊢
    go_enter Tryz.func175, Tryz.ntmps175
    obtain ⟨W0, hW0⟩ : ∃ x, (w.alloc (.cells #[.slice a1 n1 c1, .slice a2 n2 c2, .string k, .int .i64 p, .int .i64 s] 200)).alloc (.cells #[.string k', .int .i64 p', .int .i64 s'] 74) = x := ⟨_, rfl⟩
    rw [hW0] at HCV HEV HO
    go_upto_region 1 with fail
    clear hW0
    have c2 := HCV.out.c2
    have c3 := HCV.out.c3
    have c4 := HCV.out.c4
    simp only [] at c2 c3 c4
    go_wp2_with fail
    refine (HL.out _).mono ?_
    rintro x w1 ⟨rfl, ho⟩
    have HO1 := hide (o2 HO.out ho)
    have HC1 := hide (HCV.out.more ho)
    have HE1 := hide (HEV.out.more ho)
    clear ho c2 c3 c4
    have c2 := HC1.out.c2
    have c3 := HC1.out.c3
    have c4 := HC1.out.c4
    have d0 := HE1.out.c0
    have d1 := HE1.out.c1
    have d2 := HE1.out.c2
    simp only [] at c2 c3 c4 d0 d1 d2
    go_wp2_with fail
    refine (HM.out _).mono ?_
    rintro x w2 ⟨rfl, ho⟩
    have HO2 := hide (o2 HO1.out ho)
    clear ho
    go_wp2_with fail
    go_ret
    exact ⟨rfl, HO2.out⟩
/-- A High is that of hi. -/
def HiIs (h : ByteArray) (hi : En) : Prop := (h = ⟨#[]⟩ ∧ hi = noE) ∨ (h = hi.enc ∧ hi.ok = true)
end Go.Proofs.YtpnbhddmdfcjdaaGreat
