/- The law's own examples: awake. -/
import Derived.Test.YthhlmhghiknnkaaNFew
import Derived.Test.YthhlmhghiknnkaaNRoot
import Derived.BigQuiet
namespace Go.Proofs.Ythhlmhghiknnkaa
open Go.RowKit

/-- Insert of an entry that goes in, and fits. -/
def InsR (w w' : World) (x : Ending) (a r : Int) (h : ByteArray) (hi : En) (l : List ByteArray) (es : List En) (e : En) : Prop :=
  ∃ B ao cp, x = .returned (.tuple #[.agg #[.int .i64 a, .int .i64 3, .int .i64 0, .int .i64 r, .string h, .slice ao (insI l es e).length cp], .int .i64 0]) ∧ Lp w' r h hi B ao (insI l es e) (insE es e) ∧ Fit ao (insI l es e).length cp ∧ Only (fun _ => False) w w' ∧ w.heap.size ≤ B
theorem insI_len (l : List ByteArray) (es : List En) (e : En) : (insI l es e).length = l.length + 1 := by
  unfold insI
  simp only [List.length_append, List.length_cons, List.length_take, List.length_drop]
  omega
theorem InsQ.fits {w w' : World} {x : Ending} {a r : Int} {h : ByteArray} {hi e : En} {l : List ByteArray} {es : List En} {B : Nat} {ao : Option Addr} (q : InsQ w w' x a r h hi e l es) (hP : Lp w r h hi B ao l es) (ho : e.ok = true) (hb : byd hi e = false) (hn : e ∉ es) (hf : ¬ (255 < (insI l es e).length ∨ 512 < 20 + h.size + isz (insI l es e))) : InsR w w' x a r h hi l es e := by
  obtain ⟨B5, ao5, cp5, rfl, hS5, hF5, ho5, hB5⟩ := (q.good ho hb hn).2 hf
  have hl := insI_len l es e
  refine ⟨B5, ao5, cp5, rfl, ⟨hS5, hP.right, hP.high, hP.lf.ins ho hb hn, by omega⟩, hF5, ho5, hB5 (by show 0 < (insI l es e).length; omega)⟩
def eA : En := ⟨⟨#[97]⟩, 2, 0⟩
def eA1 : En := ⟨⟨#[97]⟩, 2, 1⟩
def eB : En := ⟨⟨#[98]⟩, 1, 0⟩
def eK : En := ⟨⟨#[107]⟩, 300, 2⟩
theorem eA_ok : eA.ok = true := by decide
theorem eA1_ok : eA1.ok = true := by decide
theorem eB_ok : eB.ok = true := by decide
theorem eK_ok : eK.ok = true := by decide
theorem eK_enc : eK.enc = ⟨#[1, 107, 172, 2, 2]⟩ := by decide +kernel
theorem ins_B : insI [] [] eB = [eB.enc] := rfl
theorem insE_B : insE [] eB = [eB] := rfl
theorem A_lt_B : eA.lt eB := by decide +kernel
theorem A_lt_A1 : eA.lt eA1 := by decide +kernel
theorem pl_A : plE [eB] eA = 0 := by decide +kernel
theorem ins_A : insI [eB.enc] [eB] eA = [eA.enc, eB.enc] := by unfold insI; rw [pl_A]; rfl
theorem insE_A : insE [eB] eA = [eA, eB] := by unfold insE; rw [pl_A]; rfl
theorem A_ne_B : eA ∉ [eB] := by
  intro h
  have : eA = eB := by simpa using h
  exact En.lt_ne A_lt_B this
theorem fits_B : ¬ (255 < ([eB.enc] : List ByteArray).length ∨ 512 < 20 + (⟨#[]⟩ : ByteArray).size + isz [eB.enc]) := by decide +kernel
theorem fits_A : ¬ (255 < ([eA.enc, eB.enc] : List ByteArray).length ∨ 512 < 20 + (⟨#[]⟩ : ByteArray).size + isz [eA.enc, eB.enc]) := by decide +kernel
theorem lp_none (w : World) : Lp w 0 ⟨#[]⟩ noE 0 none [] [] := ⟨Strs.nil _ _ _, by decide, .inl ⟨rfl, rfl⟩, ⟨rfl, List.Pairwise.nil, (fun _ h => by cases h), (fun _ h => by cases h)⟩, by simp⟩
theorem in_root {c d : Int} {e : En} (hc : okC c = true) (hd : okC d = true) (he : e.ok = true) : InIs noE [noE.encS c, e.encS d] [(noE, c), (e, d)] := by
  refine ⟨rfl, ?_, ⟨c, _, rfl⟩, ?_, ?_⟩
  · exact List.pairwise_cons.2 ⟨fun x hx => by
      have : x = e := by simpa using hx
      rw [this]
      exact noE_lt he, List.pairwise_cons.2 ⟨(fun _ h => by cases h), List.Pairwise.nil⟩⟩
  · intro k hk
    have : k = (e, d) := by simpa using hk
    rw [this]
    exact ⟨he, by unfold blw; simp⟩
  · intro k hk
    rcases List.mem_cons.1 hk with rfl | hk
    · exact hc
    · have : k = (e, d) := by simpa using hk
      rw [this]
      exact hd
theorem ip_root {w : World} {c d : Int} {e : En} {B : Nat} {ao : Option Addr} (hS : Strs w B ao [noE.encS c, e.encS d]) (hc : okC c = true) (hd : okC d = true) (he : e.ok = true) : Ip w 1 0 ⟨#[]⟩ noE B ao [noE.encS c, e.encS d] [(noE, c), (e, d)] :=
  ⟨hS, by decide, by decide, .inl ⟨rfl, rfl⟩, in_root hc hd he, by simp⟩
theorem ch_A : chV [(noE, 5), (eA, 7)] noE eA = .tuple #[.int .i64 5, .int .i64 0] := by
  have h : plE ([(noE, (5 : Int)), (eA, 7)].map Prod.fst) eA = 1 := by decide +kernel
  unfold chV chE
  rw [if_pos ⟨eA_ok, byd_noE _⟩, h]
  rfl
theorem ch_A1 : chV [(noE, 5), (eA, 7)] noE eA1 = .tuple #[.int .i64 7, .int .i64 0] := by
  have h : plE ([(noE, (5 : Int)), (eA, 7)].map Prod.fst) eA1 = 2 := by decide +kernel
  unfold chV chE
  rw [if_pos ⟨eA1_ok, byd_noE _⟩, h]
  rfl
/-- Both halves and what separates them in new variables. -/
theorem sp_new (w : World) (v0 v1 v2 v3 v4 v5 u0 u1 u2 u3 u4 u5 : Value) (e : En) : Pag (((w.alloc (.cells #[v0, v1, v2, v3, v4, v5] 38)).alloc (.cells #[u0, u1, u2, u3, u4, u5] 38)).alloc (.cells #[.string e.key, .int .i64 e.page, .int .i64 e.slot] 23)) w.heap.size v0 v1 v2 v3 v4 v5 ∧ Pag (((w.alloc (.cells #[v0, v1, v2, v3, v4, v5] 38)).alloc (.cells #[u0, u1, u2, u3, u4, u5] 38)).alloc (.cells #[.string e.key, .int .i64 e.page, .int .i64 e.slot] 23)) (w.heap.size + 1) u0 u1 u2 u3 u4 u5 ∧ Ev (((w.alloc (.cells #[v0, v1, v2, v3, v4, v5] 38)).alloc (.cells #[u0, u1, u2, u3, u4, u5] 38)).alloc (.cells #[.string e.key, .int .i64 e.page, .int .i64 e.slot] 23)) (w.heap.size + 1 + 1) e ∧ Only (fun _ => False) w (((w.alloc (.cells #[v0, v1, v2, v3, v4, v5] 38)).alloc (.cells #[u0, u1, u2, u3, u4, u5] 38)).alloc (.cells #[.string e.key, .int .i64 e.page, .int .i64 e.slot] 23)) := by
  have e1 := Pag.new (w.alloc (.cells #[v0, v1, v2, v3, v4, v5] 38)) u0 u1 u2 u3 u4 u5
  rw [World.size_alloc] at e1
  have e2 := Ev.new ((w.alloc (.cells #[v0, v1, v2, v3, v4, v5] 38)).alloc (.cells #[u0, u1, u2, u3, u4, u5] 38)) e
  rw [World.size_alloc, World.size_alloc] at e2
  exact ⟨(Pag.new w _ _ _ _ _ _).more (o2 (onlyA _ _) (onlyA _ _)), e1.more (onlyA _ _), e2, o2 (o2 (onlyA _ _) (onlyA _ _)) (onlyA _ _)⟩
/-- A page that a variable holds. -/
structure Pv (w : World) (b : Nat) (a k v r : Int) (h : ByteArray) (B : Nat) (ao : Option Addr) (l : List ByteArray) (n cp : Nat) : Prop where
  pag : Pag w b (.int .i64 a) (.int .i64 k) (.int .i64 v) (.int .i64 r) (.string h) (.slice ao n cp)
  strs : Strs w B ao l
theorem Pv.more {w w' : World} {b : Nat} {a k v r : Int} {h : ByteArray} {B : Nat} {ao : Option Addr} {l : List ByteArray} {n cp : Nat} (x : Pv w b a k v r h B ao l n cp) (ho : Only (fun _ => False) w w') : Pv w' b a k v r h B ao l n cp := ⟨x.pag.more ho, x.strs.more ho⟩
set_option maxRecDepth 100000 in
set_option maxHeartbeats 6400000 in
theorem nawake_any (w : World) : Calls Try.prog 19 #[] w fun e w' => e = .returned (.bool true) ∧ Only (fun _ => False) w w' := by
  have HI1 : Hid (∀ W, Calls Try.prog 22 #[.agg #[.int .i64 0, .int .i64 3, .int .i64 0, .int .i64 0, .string ⟨#[]⟩, .slice none 0 0], .agg #[.string ⟨#[98]⟩, .int .i64 1, .int .i64 0]] W fun x w' => ∃ B ao cp, x = .returned (.tuple #[.agg #[.int .i64 0, .int .i64 3, .int .i64 0, .int .i64 0, .string ⟨#[]⟩, .slice ao 1 cp], .int .i64 0]) ∧ Lp w' 0 ⟨#[]⟩ noE B ao [eB.enc] [eB] ∧ Fit ao 1 cp ∧ Only (fun _ => False) W w' ∧ W.heap.size ≤ B) := fun W =>
    (insert_ok W 0 0 ⟨#[]⟩ noE eB 0 0 none [] [] (lp_none W) ⟨fun _ => rfl, by simp, by simp⟩).mono (fun x w' q => q.fits (lp_none W) eB_ok (byd_noE _) (by simp) fits_B)
  have HI2 : Hid (∀ W B ao cp, Lp W 0 ⟨#[]⟩ noE B ao [eB.enc] [eB] → Fit ao 1 cp → Calls Try.prog 22 #[.agg #[.int .i64 0, .int .i64 3, .int .i64 0, .int .i64 0, .string ⟨#[]⟩, .slice ao 1 cp], .agg #[.string ⟨#[97]⟩, .int .i64 2, .int .i64 0]] W fun x w' => ∃ B ao cp, x = .returned (.tuple #[.agg #[.int .i64 0, .int .i64 3, .int .i64 0, .int .i64 0, .string ⟨#[]⟩, .slice ao 2 cp], .int .i64 0]) ∧ Lp w' 0 ⟨#[]⟩ noE B ao [eA.enc, eB.enc] [eA, eB] ∧ Fit ao 2 cp ∧ Only (fun _ => False) W w' ∧ W.heap.size ≤ B) := fun W B ao cp hP hF =>
    (insert_ok W 0 0 ⟨#[]⟩ noE eA B cp ao [eB.enc] [eB] hP hF).mono (fun x w' q => by
      have := q.fits hP eA_ok (byd_noE _) A_ne_B (by rw [ins_A]; exact fits_A)
      unfold InsR at this
      rw [ins_A, insE_A] at this
      exact this)
  have HSP : Hid (∀ W B ao cp, Lp W 0 ⟨#[]⟩ noE B ao [eA.enc, eB.enc] [eA, eB] → Fit ao 2 cp → Calls Try.prog 25 #[.agg #[.int .i64 0, .int .i64 3, .int .i64 0, .int .i64 0, .string ⟨#[]⟩, .slice ao 2 cp], .int .i64 7] W fun x w' => ∃ B1 ao1 cp1 B2 ao2 cp2, x = .returned (.tuple #[.agg #[.int .i64 0, .int .i64 3, .int .i64 0, .int .i64 7, .string eA.enc, .slice ao1 1 cp1], .agg #[.int .i64 0, .int .i64 3, .int .i64 0, .int .i64 0, .string ⟨#[]⟩, .slice ao2 1 cp2], .agg #[.string ⟨#[97]⟩, .int .i64 2, .int .i64 0], .int .i64 0]) ∧ Strs w' B1 ao1 [eA.enc] ∧ Strs w' B2 ao2 [eB.enc] ∧ Only (fun _ => False) W w') := fun W B ao cp hP hF => split_ok W 0 0 ⟨#[]⟩ noE 7 B cp ao [eA.enc, eB.enc] [eA, eB] hP hF (by decide) (by decide)
  have HRT : Hid (∀ W, Calls Try.prog 27 #[.int .i64 1, .int .i64 5, .agg #[.string ⟨#[97]⟩, .int .i64 2, .int .i64 0], .int .i64 7] W fun x w' => ∃ B ao cp, x = .returned (.tuple #[.agg #[.int .i64 0, .int .i64 3, .int .i64 1, .int .i64 0, .string ⟨#[]⟩, .slice ao 2 cp], .int .i64 0]) ∧ Ip w' 1 0 ⟨#[]⟩ noE B ao [noE.encS 5, eA.encS 7] [(noE, 5), (eA, 7)] ∧ Only (fun _ => False) W w') := fun W =>
    (root_ok W 1 5 7 eA (by decide) (by decide) (by decide) eA_ok).mono (fun x w' q => by
      obtain ⟨B, ao, cp, rfl, hS, hF, ho, _⟩ := q
      exact ⟨B, ao, cp, rfl, ip_root hS (by decide) (by decide) eA_ok, ho⟩)
  have HC1 : Hid (∀ W B ao cp, Ip W 1 0 ⟨#[]⟩ noE B ao [noE.encS 5, eA.encS 7] [(noE, 5), (eA, 7)] → Calls Try.prog 29 #[.agg #[.int .i64 0, .int .i64 3, .int .i64 1, .int .i64 0, .string ⟨#[]⟩, .slice ao 2 cp], .agg #[.string ⟨#[97]⟩, .int .i64 2, .int .i64 0]] W fun x w' => x = .returned (.tuple #[.int .i64 5, .int .i64 0]) ∧ Only (fun _ => False) W w') := fun W B ao cp hP => by
    have := child_ok W 0 1 0 ⟨#[]⟩ noE eA B cp ao _ _ hP
    rw [ch_A] at this
    exact this
  have HC2 : Hid (∀ W B ao cp, Ip W 1 0 ⟨#[]⟩ noE B ao [noE.encS 5, eA.encS 7] [(noE, 5), (eA, 7)] → Calls Try.prog 29 #[.agg #[.int .i64 0, .int .i64 3, .int .i64 1, .int .i64 0, .string ⟨#[]⟩, .slice ao 2 cp], .agg #[.string ⟨#[97]⟩, .int .i64 2, .int .i64 1]] W fun x w' => x = .returned (.tuple #[.int .i64 7, .int .i64 0]) ∧ Only (fun _ => False) W w') := fun W B ao cp hP => by
    have := child_ok W 0 1 0 ⟨#[]⟩ noE eA1 B cp ao _ _ hP
    rw [ch_A1] at this
    exact this
  have HEN : Hid (∀ W, Calls Try.prog 9 #[.agg #[.string ⟨#[107]⟩, .int .i64 300, .int .i64 2]] W fun x w' => x = .returned (.tuple #[.string ⟨#[1, 107, 172, 2, 2]⟩, .int .i64 0]) ∧ Only (fun _ => False) W w') := fun W => by
    have := encode_any eK W
    unfold outC at this
    rw [eK_ok, eK_enc] at this
    exact this
  have HEQ : ∀ W, (binOp .eql 23 (.agg #[.string ⟨#[97]⟩, .int .i64 2, .int .i64 0]) (.agg #[.string ⟨#[97]⟩, .int .i64 2, .int .i64 0])).run Try.prog W = .ok (.bool true) W := fun W => by
    have := eqE_run eA eA W
    rw [decide_eq_true rfl] at this
    exact this
  obtain ⟨SA, hSA⟩ : ∃ s, eA.enc = s := ⟨_, rfl⟩
  rw [hSA] at HI2 HSP
  clear hSA
  go_enter Try.func19, Try.ntmps19
  go_wp2_with fail
  refine (leaf_any w).mono ?_
  rintro x w1 ⟨rfl, ho⟩
  have HO := hide ho
  clear ho
  go_wp2_with fail
  refine (HI1.out _).mono ?_
  rintro x w2 ⟨B2, ao2, cp2, rfl, hp, hf, ho, _⟩
  have HO2 := hide (o2 HO.out ho)
  have HP2 := hide hp
  have HF2 := hide hf
  clear hp hf ho HO HI1
  go_upto_region 2 with fail
  have HA := hide (onlyA w2 (.cells #[.int .i64 0, .int .i64 3, .int .i64 0, .int .i64 0, .string ⟨#[]⟩, .slice ao2 1 cp2] 38))
  have HG2 := hide (Pag.new w2 (.int .i64 0) (.int .i64 3) (.int .i64 0) (.int .i64 0) (.string ⟨#[]⟩) (.slice ao2 1 cp2))
  obtain ⟨b2, hb2⟩ : ∃ b, w2.heap.size = b := ⟨_, rfl⟩
  rw [hb2] at HG2 ⊢
  clear hb2
  obtain ⟨w3, hw3⟩ : ∃ x, w2.alloc (.cells #[.int .i64 0, .int .i64 3, .int .i64 0, .int .i64 0, .string ⟨#[]⟩, .slice ao2 1 cp2] 38) = x := ⟨_, rfl⟩
  rw [hw3] at HA HG2 ⊢
  clear hw3
  have HP3 := hide (HP2.out.more HA.out)
  have HO3 := hide (o2 HO2.out HA.out)
  clear HA HP2 HO2
  obtain ⟨p0, p1, p2, p3, p4, p5, _⟩ := HG2.out
  go_wp2_with fail
  refine (HI2.out _ _ _ _ HP3.out HF2.out).mono ?_
  rintro x w4 ⟨B4, ao4, cp4, rfl, hp, hf, ho, _⟩
  have HO4 := hide (o2 HO3.out ho)
  have HP4 := hide hp
  have HF4 := hide hf
  clear hp hf ho HO3 HI2 HP3 HF2 HG2 p0 p1 p2 p3 p4 p5
  go_upto_region 3 with fail
  have HA := hide (onlyA w4 (.cells #[.int .i64 0, .int .i64 3, .int .i64 0, .int .i64 0, .string ⟨#[]⟩, .slice ao4 2 cp4] 38))
  have HG4 := hide (Pag.new w4 (.int .i64 0) (.int .i64 3) (.int .i64 0) (.int .i64 0) (.string ⟨#[]⟩) (.slice ao4 2 cp4))
  obtain ⟨b4, hb4⟩ : ∃ b, w4.heap.size = b := ⟨_, rfl⟩
  rw [hb4] at HG4 ⊢
  clear hb4
  obtain ⟨w5, hw5⟩ : ∃ x, w4.alloc (.cells #[.int .i64 0, .int .i64 3, .int .i64 0, .int .i64 0, .string ⟨#[]⟩, .slice ao4 2 cp4] 38) = x := ⟨_, rfl⟩
  rw [hw5] at HA HG4 ⊢
  clear hw5
  have HP5 := hide (HP4.out.more HA.out)
  have HO5 := hide (o2 HO4.out HA.out)
  clear HA HP4 HO4
  obtain ⟨p0, p1, p2, p3, p4, p5, _⟩ := HG4.out
  go_wp2_with fail
  refine (HSP.out _ _ _ _ HP5.out HF4.out).mono ?_
  rintro x w6 ⟨B6, ao6, cp6, B7, ao7, cp7, rfl, hs6, hs7, ho⟩
  have HO6 := hide (o2 HO5.out ho)
  have HS6 := hide hs6
  have HS7 := hide hs7
  clear hs6 hs7 ho HO5 HSP HP5 HF4 HG4 p0 p1 p2 p3 p4 p5
  go_upto_region 4 with fail
  have HN := hide (sp_new w6 (.int .i64 0) (.int .i64 3) (.int .i64 0) (.int .i64 7) (.string SA) (.slice ao6 1 cp6) (.int .i64 0) (.int .i64 3) (.int .i64 0) (.int .i64 0) (.string ⟨#[]⟩) (.slice ao7 1 cp7) eA)
  unfold eA at HN
  simp only [] at HN
  obtain ⟨b6, hb6⟩ : ∃ b, w6.heap.size = b := ⟨_, rfl⟩
  rw [hb6] at HN ⊢
  clear hb6
  obtain ⟨w7, hw7⟩ : ∃ x, ((w6.alloc (.cells #[.int .i64 0, .int .i64 3, .int .i64 0, .int .i64 7, .string SA, .slice ao6 1 cp6] 38)).alloc (.cells #[.int .i64 0, .int .i64 3, .int .i64 0, .int .i64 0, .string ⟨#[]⟩, .slice ao7 1 cp7] 38)).alloc (.cells #[.string ⟨#[97]⟩, .int .i64 2, .int .i64 0] 23) = x := ⟨_, rfl⟩
  rw [hw7] at HN ⊢
  clear hw7
  have HS8 := hide (HS6.out.more HN.out.2.2.2)
  have HO8 := hide (o2 HO6.out HN.out.2.2.2)
  clear HS6 HS7 HO6
  obtain ⟨d0, d1, d2, _⟩ := HN.out.2.2.1
  simp only [] at d0 d1 d2
  go_wp2_with fail
  refine (HRT.out _).mono ?_
  rintro x w8 ⟨B9, ao9, cp9, rfl, hp, ho⟩
  have HL9 := hide (HN.out.1.more ho)
  have HM9 := hide (HN.out.2.1.more ho)
  have HV9 := hide (HN.out.2.2.1.more ho)
  have HS9 := hide (HS8.out.more ho)
  have HO9 := hide (o2 HO8.out ho)
  have HP9 := hide hp
  clear hp ho d0 d1 d2 HN HS8 HO8 HRT
  go_upto_region 5 with fail
  have HA := hide (onlyA w8 (.cells #[.int .i64 0, .int .i64 3, .int .i64 1, .int .i64 0, .string ⟨#[]⟩, .slice ao9 2 cp9] 38))
  have HG := hide (Pag.new w8 (.int .i64 0) (.int .i64 3) (.int .i64 1) (.int .i64 0) (.string ⟨#[]⟩) (.slice ao9 2 cp9))
  obtain ⟨b8, hb8⟩ : ∃ b, w8.heap.size = b := ⟨_, rfl⟩
  rw [hb8] at HG ⊢
  clear hb8
  obtain ⟨w9, hw9⟩ : ∃ x, w8.alloc (.cells #[.int .i64 0, .int .i64 3, .int .i64 1, .int .i64 0, .string ⟨#[]⟩, .slice ao9 2 cp9] 38) = x := ⟨_, rfl⟩
  rw [hw9] at HA HG ⊢
  clear hw9
  have HL10 := hide (HL9.out.more HA.out)
  have HM10 := hide (HM9.out.more HA.out)
  have HV10 := hide (HV9.out.more HA.out)
  have HS10 := hide (HS9.out.more HA.out)
  have HO10 := hide (o2 HO9.out HA.out)
  have HP10 := hide (HP9.out.more HA.out)
  clear HA HL9 HM9 HV9 HS9 HO9 HP9
  obtain ⟨p0, p1, p2, p3, p4, p5, _⟩ := HG.out
  go_wp2_with fail
  refine (HC1.out _ _ _ _ HP10.out).mono ?_
  rintro x w10 ⟨rfl, ho⟩
  have HL11 := hide (HL10.out.more ho)
  have HM11 := hide (HM10.out.more ho)
  have HV11 := hide (HV10.out.more ho)
  have HS11 := hide (HS10.out.more ho)
  have HO11 := hide (o2 HO10.out ho)
  have HP11 := hide (HP10.out.more ho)
  have HG11 := hide (HG.out.more ho)
  clear ho p0 p1 p2 p3 p4 p5 HL10 HM10 HV10 HS10 HO10 HP10 HG HC1
  obtain ⟨p0, p1, p2, p3, p4, p5, _⟩ := HG11.out
  go_wp2_with fail
  refine (HC2.out _ _ _ _ HP11.out).mono ?_
  rintro x w11 ⟨rfl, ho⟩
  have HL12 := hide (HL11.out.more ho)
  have HM12 := hide (HM11.out.more ho)
  have HV12 := hide (HV11.out.more ho)
  have HS12 := hide (HS11.out.more ho)
  have HO12 := hide (o2 HO11.out ho)
  clear ho p0 p1 p2 p3 p4 p5 HL11 HM11 HV11 HS11 HO11 HP11 HG11 HC2
  go_wp2_with fail
  refine (HEN.out _).mono ?_
  rintro x w12 ⟨rfl, ho⟩
  have HL13 := hide (HL12.out.more ho)
  have HM13 := hide (HM12.out.more ho)
  have HV13 := hide (HV12.out.more ho)
  have HS13 := hide (HS12.out.more ho)
  have HO13 := hide (o2 HO12.out ho)
  clear ho HL12 HM12 HV12 HS12 HO12 HEN
  obtain ⟨o, rfl, hc⟩ := HS13.out.at_ (by simp)
  have i0 := hc 0 (by simp)
  simp only [List.getElem_cons_zero, Nat.add_zero] at i0
  clear hc
  obtain ⟨l0, l1, l2, l3, l4, l5, _⟩ := HL13.out
  have m5 := HM13.out.c5
  obtain ⟨d0, d1, d2, _⟩ := HV13.out
  simp only [] at d0 d1 d2
  go_upto_region 8 with fail
  go_quiet (fail)
  go_wp2_with fail
  go_ret
  exact ⟨rfl, by first | exact o2 HO13.out (Only.drew _ _) | exact o2 HO13.out (onlyN _ _) | exact HO13.out⟩
end Go.Proofs.Ythhlmhghiknnkaa
