/- A page of statuses as plain numbers: its limit, its bytes, what is set and cut in them. -/
import Derived.Test.YtphofhicehncgaaGreatK32
import Derived.Test.YtphofhicehncgaaGreatK33
import Derived.Test.YtphofhicehncgaaGreatK01
import Derived.Test.YtphofhicehncgaaGreatK02
import Derived.Test.YtphofhicehncgaaGreatK07
namespace Go.Proofs.YtphofhicehncgaaGreat
open Go.RowKit

set_option maxRecDepth 100000 in
set_option maxHeartbeats 1600000 in
theorem minsert_no (w : World) (a k v r : Int) (h : ByteArray) (e : En) (ao : Option Addr) (n cp : Nat) (hR : ∀ W, Only (fun _ => False) w W → Calls Tryz.prog 76 #[.agg #[.int .i64 a, .int .i64 k, .int .i64 v, .int .i64 r, .string h, .slice ao n cp]] W fun e w' => CvR e false ∧ Only (fun _ => False) W w') :
    Calls Tryz.prog 43 #[.agg #[.int .i64 a, .int .i64 k, .int .i64 v, .int .i64 r, .string h, .slice ao n cp], e.agg] w fun x w' => Res w w' x .none 140 := by
  have HX := hide (ins_new w (.int .i64 a) (.int .i64 k) (.int .i64 v) (.int .i64 r) (.string h) (.slice ao n cp) e)
  have HR := hide hR
  clear hR
  unfold En.agg
  go_enter Tryz.func43, Tryz.ntmps43
  go_upto_region 1 with fail
  obtain ⟨W0, hW0⟩ : ∃ x, ((w.alloc (.cells #[.int .i64 a, .int .i64 k, .int .i64 v, .int .i64 r, .string h, .slice ao n cp] 25)).alloc (.cells #[.string e.key, .int .i64 e.page, .int .i64 e.slot] 83)).alloc (.cells #[.int .i64 0, .int .i64 0, .int .i64 0, .int .i64 0, .string ⟨#[]⟩, .slice none 0 0] 25) = x := ⟨_, rfl⟩
  rw [hW0] at HX ⊢
  clear hW0
  obtain ⟨p0, p1, p2, p3, p4, p5, _⟩ := HX.out.1
  go_wp2_with fail
  refine (HR.out _ HX.out.2.2.2).mono ?_
  rintro x w1 ⟨⟨a1, n1, c1, a2, n2, c2, H, rfl⟩, ho⟩
  unfold cvv
  have HA := hide (onlyA w1 (.cells #[.slice a1 n1 c1, .slice a2 n2 c2, .string H.key, .int .i64 H.page, .int .i64 H.slot] 118))
  have HQ := hide ((HX.out.2.2.1.more ho).more HA.out)
  have HO := hide (o2 (o2 HX.out.2.2.2 ho) HA.out)
  clear ho p0 p1 p2 p3 p4 p5 HR HX HA
  go_upto_region 2 with fail
  obtain ⟨w2, hw2⟩ : ∃ x, w1.alloc (.cells #[.slice a1 n1 c1, .slice a2 n2 c2, .string H.key, .int .i64 H.page, .int .i64 H.slot] 118) = x := ⟨_, rfl⟩
  rw [hw2] at HQ HO ⊢
  clear hw2
  obtain ⟨q0, q1, q2, q3, q4, q5, g0, g1, g2, g3, g4, g5, ql⟩ := HQ.out
  go_wp2_with fail
  refine bodyPost_ret (results_page rfl rfl (Pag.six HQ.out _ _ _ _ _ _)) rfl ?_
  exact resErr _ HO.out (by omega)
set_option maxRecDepth 100000 in
set_option maxHeartbeats 1600000 in
theorem mremove_no (w : World) (a k v r : Int) (h : ByteArray) (e : En) (ao : Option Addr) (n cp : Nat) (hR : ∀ W, Only (fun _ => False) w W → Calls Tryz.prog 76 #[.agg #[.int .i64 a, .int .i64 k, .int .i64 v, .int .i64 r, .string h, .slice ao n cp]] W fun e w' => CvR e false ∧ Only (fun _ => False) W w') :
    Calls Tryz.prog 46 #[.agg #[.int .i64 a, .int .i64 k, .int .i64 v, .int .i64 r, .string h, .slice ao n cp], e.agg] w fun x w' => Res w w' x .none 140 := by
  have HX := hide (ins_new w (.int .i64 a) (.int .i64 k) (.int .i64 v) (.int .i64 r) (.string h) (.slice ao n cp) e)
  have HR := hide hR
  clear hR
  unfold En.agg
  go_enter Tryz.func46, Tryz.ntmps46
  go_upto_region 1 with fail
  obtain ⟨W0, hW0⟩ : ∃ x, ((w.alloc (.cells #[.int .i64 a, .int .i64 k, .int .i64 v, .int .i64 r, .string h, .slice ao n cp] 25)).alloc (.cells #[.string e.key, .int .i64 e.page, .int .i64 e.slot] 83)).alloc (.cells #[.int .i64 0, .int .i64 0, .int .i64 0, .int .i64 0, .string ⟨#[]⟩, .slice none 0 0] 25) = x := ⟨_, rfl⟩
  rw [hW0] at HX ⊢
  clear hW0
  obtain ⟨p0, p1, p2, p3, p4, p5, _⟩ := HX.out.1
  go_wp2_with fail
  refine (HR.out _ HX.out.2.2.2).mono ?_
  rintro x w1 ⟨⟨a1, n1, c1, a2, n2, c2, H, rfl⟩, ho⟩
  unfold cvv
  have HA := hide (onlyA w1 (.cells #[.slice a1 n1 c1, .slice a2 n2 c2, .string H.key, .int .i64 H.page, .int .i64 H.slot] 118))
  have HQ := hide ((HX.out.2.2.1.more ho).more HA.out)
  have HO := hide (o2 (o2 HX.out.2.2.2 ho) HA.out)
  clear ho p0 p1 p2 p3 p4 p5 HR HX HA
  go_upto_region 2 with fail
  obtain ⟨w2, hw2⟩ : ∃ x, w1.alloc (.cells #[.slice a1 n1 c1, .slice a2 n2 c2, .string H.key, .int .i64 H.page, .int .i64 H.slot] 118) = x := ⟨_, rfl⟩
  rw [hw2] at HQ HO ⊢
  clear hw2
  obtain ⟨q0, q1, q2, q3, q4, q5, g0, g1, g2, g3, g4, g5, ql⟩ := HQ.out
  go_wp2_with fail
  refine bodyPost_ret (results_page rfl rfl (Pag.six HQ.out _ _ _ _ _ _)) rfl ?_
  exact resErr _ HO.out (by omega)
set_option maxRecDepth 100000 in
set_option maxHeartbeats 1600000 in
theorem mpost_no (w : World) (a k v r : Int) (h : ByteArray) (e : En) (c : Int) (ao : Option Addr) (n cp : Nat) (hR : ∀ W, Only (fun _ => False) w W → Calls Tryz.prog 83 #[.agg #[.int .i64 a, .int .i64 k, .int .i64 v, .int .i64 r, .string h, .slice ao n cp]] W fun e w' => CvR e false ∧ Only (fun _ => False) W w') :
    Calls Tryz.prog 45 #[.agg #[.int .i64 a, .int .i64 k, .int .i64 v, .int .i64 r, .string h, .slice ao n cp], e.agg, .int .i64 c] w fun x w' => Res w w' x .none 140 := by
  have HX := hide (ins_new w (.int .i64 a) (.int .i64 k) (.int .i64 v) (.int .i64 r) (.string h) (.slice ao n cp) e)
  have HR := hide hR
  clear hR
  unfold En.agg
  go_enter Tryz.func45, Tryz.ntmps45
  go_upto_region 1 with fail
  obtain ⟨W0, hW0⟩ : ∃ x, ((w.alloc (.cells #[.int .i64 a, .int .i64 k, .int .i64 v, .int .i64 r, .string h, .slice ao n cp] 25)).alloc (.cells #[.string e.key, .int .i64 e.page, .int .i64 e.slot] 83)).alloc (.cells #[.int .i64 0, .int .i64 0, .int .i64 0, .int .i64 0, .string ⟨#[]⟩, .slice none 0 0] 25) = x := ⟨_, rfl⟩
  rw [hW0] at HX ⊢
  clear hW0
  obtain ⟨p0, p1, p2, p3, p4, p5, _⟩ := HX.out.1
  go_wp2_with fail
  refine (HR.out _ HX.out.2.2.2).mono ?_
  rintro x w1 ⟨⟨a1, n1, c1, a2, n2, c2, H, rfl⟩, ho⟩
  unfold cvv
  have HA := hide (onlyA w1 (.cells #[.slice a1 n1 c1, .slice a2 n2 c2, .string H.key, .int .i64 H.page, .int .i64 H.slot] 118))
  have HQ := hide ((HX.out.2.2.1.more ho).more HA.out)
  have HO := hide (o2 (o2 HX.out.2.2.2 ho) HA.out)
  clear ho p0 p1 p2 p3 p4 p5 HR HX HA
  go_upto_region 2 with fail
  obtain ⟨w2, hw2⟩ : ∃ x, w1.alloc (.cells #[.slice a1 n1 c1, .slice a2 n2 c2, .string H.key, .int .i64 H.page, .int .i64 H.slot] 118) = x := ⟨_, rfl⟩
  rw [hw2] at HQ HO ⊢
  clear hw2
  obtain ⟨q0, q1, q2, q3, q4, q5, g0, g1, g2, g3, g4, g5, ql⟩ := HQ.out
  go_wp2_with fail
  refine bodyPost_ret (results_page rfl rfl (Pag.six HQ.out _ _ _ _ _ _)) rfl ?_
  exact resErr _ HO.out (by omega)
theorem hdO_is {k v r : Int} {h : ByteArray} {hi : En} (q : hdO k v r h = some hi) : HiIs h hi := by
  obtain ⟨rfl, q1⟩ := hdO_kind q
  unfold hdO at q
  rw [if_pos ⟨rfl, q1⟩] at q
  by_cases hh : h = ⟨#[]⟩
  · rw [if_pos hh] at q
    cases q
    exact .inl ⟨hh, rfl⟩
  · rw [if_neg hh] at q
    obtain ⟨h1, h2⟩ := decE_some q
    exact .inr ⟨by rw [← str_bl h, h2]; rfl, h1⟩
theorem rdI_tail {hi : En} : ∀ {l : List ByteArray} {x : En} {ks : List (En × Int)}, rdI hi (some x) l = some ks → (x = noE ∨ x.ok = true) → l = ks.map (fun k => k.1.encS k.2) ∧ Rise (ks.map Prod.fst) ∧ (∀ k ∈ ks, k.1.ok = true ∧ blw hi k.1 = true ∧ okC k.2 = true ∧ x.lt k.1)
  | [], x, ks, h, _ => by
    rw [rdI] at h
    cases h
    exact ⟨rfl, List.Pairwise.nil, fun _ h => by cases h⟩
  | s :: l, x, ks, h, hx => by
    rw [rdI] at h
    cases hd : decS (bl s) with
    | none => rw [hd] at h; cases h
    | some kk =>
      obtain ⟨e, c⟩ := kk
      rw [hd] at h
      simp only [] at h
      split at h
      · rename_i hc
        cases hr : rdI hi (some e) l with
        | none => rw [hr] at h; cases h
        | some fs =>
          rw [hr] at h
          cases h
          obtain ⟨o1, o2, o3⟩ := decS_some hd
          have hc' : x.lt e ∧ blw hi e = true := by
            unfold okI at hc
            simpa using hc
          have ho : e.ok = true := by
            rcases En.sp_iff.1 o1 with z | z
            · rw [z] at hc'
              exact absurd hc'.1 (not_lt_noE (En.sp_iff.2 hx))
            · exact z
          obtain ⟨k1, k2, k3⟩ := rdI_tail hr (.inr ho)
          refine ⟨?_, ?_, ?_⟩
          · rw [List.map_cons, ← k1, show s = e.encS c by unfold En.encS; rw [← o3, str_bl]]
          · rw [List.map_cons]
            refine List.pairwise_cons.2 ⟨fun y hy => ?_, k2⟩
            obtain ⟨k, hk, rfl⟩ := List.mem_map.1 hy
            exact (k3 k hk).2.2.2
          · intro k hk
            rcases List.mem_cons.1 hk with rfl | hk
            · exact ⟨ho, hc'.2, o2, hc'.1⟩
            · obtain ⟨q1, q2, q3, q4⟩ := k3 k hk
              exact ⟨q1, q2, q3, En.lt_trans hc'.1 q4⟩
      · cases h
theorem rdI_some {hi : En} {l : List ByteArray} {ks : List (En × Int)} (h : rdI hi none l = some ks) (hl : ¬ l = []) : InIs hi l ks ∧ ∀ k ∈ ks.tail, noE.lt k.1 := by
  cases l with
  | nil => exact absurd rfl hl
  | cons s l =>
    rw [rdI] at h
    cases hd : decS (bl s) with
    | none => rw [hd] at h; cases h
    | some kk =>
      obtain ⟨e, c⟩ := kk
      rw [hd] at h
      simp only [] at h
      split at h
      · rename_i hc
        cases hr : rdI hi (some e) l with
        | none => rw [hr] at h; cases h
        | some fs =>
          rw [hr] at h
          cases h
          obtain ⟨o1, o2, o3⟩ := decS_some hd
          have he : e = noE := by
            unfold okI at hc
            simpa using hc
          subst he
          obtain ⟨k1, k2, k3⟩ := rdI_tail hr (.inl rfl)
          refine ⟨⟨?_, ?_, ⟨c, fs, rfl⟩, fun k hk => ⟨(k3 k hk).1, (k3 k hk).2.1⟩, ?_⟩, fun k hk => (k3 k hk).2.2.2⟩
          · rw [List.map_cons, ← k1, show s = noE.encS c by unfold En.encS; rw [← o3, str_bl]]
          · rw [List.map_cons]
            refine List.pairwise_cons.2 ⟨fun y hy => ?_, k2⟩
            obtain ⟨k, hk, rfl⟩ := List.mem_map.1 hy
            exact (k3 k hk).2.2.2
          · intro k hk
            rcases List.mem_cons.1 hk with rfl | hk
            · exact o2
            · exact (k3 k hk).2.2.1
      · cases h
/-- What node.Insert makes of a page. -/
def nIns (p : Pg) (e : En) : Pg × Int := match hdO p.kind p.level p.right p.high with
  | none => (.none, 140)
  | some hi => if p.level = 0 then match rdL hi noE p.items with
      | none => (.none, 140)
      | some es => if e.ok = true ∧ byd hi e = false ∧ e ∉ es then fitP ⟨p.lsn, p.kind, p.level, p.right, p.high, insI p.items es e⟩ else (.none, 140)
    else (.none, 140)
/-- What node.Remove makes of a page. -/
def nRem (p : Pg) (e : En) : Pg × Int := match hdO p.kind p.level p.right p.high with
  | none => (.none, 140)
  | some hi => if p.level = 0 then match rdL hi noE p.items with
      | none => (.none, 140)
      | some es => if e ∈ es then (⟨p.lsn, p.kind, p.level, p.right, p.high, p.items.take (plE es e) ++ p.items.drop (plE es e + 1)⟩, 0) else (.none, 140)
    else (.none, 140)
/-- What node.Post makes of a page. -/
def nPos (p : Pg) (e : En) (c : Int) : Pg × Int := match hdO p.kind p.level p.right p.high with
  | none => (.none, 140)
  | some hi => if p.level = 0 ∨ p.items = [] then (.none, 140) else match rdI hi none p.items with
      | none => (.none, 140)
      | some ks => if e.ok = true ∧ blw hi e = true ∧ okC c = true ∧ e ∉ ks.map Prod.fst then fitP ⟨p.lsn, p.kind, p.level, p.right, p.high, posI p.items ks e c⟩ else (.none, 140)
theorem minsert_any (w : World) (a k v r : Int) (h : ByteArray) (e : En) (B cp : Nat) (ao : Option Addr) (l : List ByteArray) (hS : Strs w B ao l) (hF : Fit ao l.length cp) (hl : l.length ≤ 8796093021952) :
    Calls Tryz.prog 43 #[.agg #[.int .i64 a, .int .i64 k, .int .i64 v, .int .i64 r, .string h, .slice ao l.length cp], e.agg] w fun x w' => Res w w' x (nIns ⟨a, k, v, r, h, l⟩ e).1 (nIns ⟨a, k, v, r, h, l⟩ e).2 := by
  unfold nIns
  dsimp only
  cases hH : hdO k v r h with
  | none => exact minsert_no w a k v r h e ao l.length cp (fun W _ => readLeaf_no W a k v r h ao l.length cp (.inl hH))
  | some hi =>
    by_cases hv : v = 0
    · obtain ⟨rfl, _⟩ := hdO_kind hH
      subst hv
      dsimp only
      rw [if_pos rfl]
      cases hes : rdL hi noE l with
      | none =>
        exact minsert_no w a 3 0 r h e ao l.length cp (fun W ho => by
          have q := readLeaf_all W a r h hi B cp ao l (hS.more ho) hH hl
          rw [hes] at q
          exact q)
      | some es =>
        have q := insert_big w a r h hi e B cp ao l es ⟨hS, hH, hdO_is hH, (rdL_some hes).1, hl⟩ hF
        refine q.mono ?_
        intro x w' hq
        dsimp only
        by_cases hc : e.ok = true ∧ byd hi e = false ∧ e ∉ es
        · rw [if_pos hc]
          exact Or3.fit (p := ⟨a, 3, 0, r, h, insI l es e⟩) (hq.good hc.1 hc.2.1 hc.2.2)
        · rw [if_neg hc]
          refine hq.bad ?_
          cases h1 : e.ok with
          | false => exact .inl rfl
          | true =>
            cases h2 : byd hi e with
            | true => exact .inr (.inl rfl)
            | false => exact .inr (.inr (Classical.byContradiction fun h3 => hc ⟨h1, h2, h3⟩))
    · dsimp only
      rw [if_neg hv]
      exact minsert_no w a k v r h e ao l.length cp (fun W _ => readLeaf_no W a k v r h ao l.length cp (.inr hv))
theorem mremove_any (w : World) (a k v r : Int) (h : ByteArray) (e : En) (B cp : Nat) (ao : Option Addr) (l : List ByteArray) (hS : Strs w B ao l) (hF : Fit ao l.length cp) (hl : l.length ≤ 8796093021952) :
    Calls Tryz.prog 46 #[.agg #[.int .i64 a, .int .i64 k, .int .i64 v, .int .i64 r, .string h, .slice ao l.length cp], e.agg] w fun x w' => Res w w' x (nRem ⟨a, k, v, r, h, l⟩ e).1 (nRem ⟨a, k, v, r, h, l⟩ e).2 := by
  unfold nRem
  dsimp only
  cases hH : hdO k v r h with
  | none => exact mremove_no w a k v r h e ao l.length cp (fun W _ => readLeaf_no W a k v r h ao l.length cp (.inl hH))
  | some hi =>
    by_cases hv : v = 0
    · obtain ⟨rfl, _⟩ := hdO_kind hH
      subst hv
      dsimp only
      rw [if_pos rfl]
      cases hes : rdL hi noE l with
      | none =>
        exact mremove_no w a 3 0 r h e ao l.length cp (fun W ho => by
          have q := readLeaf_all W a r h hi B cp ao l (hS.more ho) hH hl
          rw [hes] at q
          exact q)
      | some es =>
        have q := remove_big w a r h hi e B cp ao l es ⟨hS, hH, hdO_is hH, (rdL_some hes).1, hl⟩ hF
        refine q.mono ?_
        intro x w' hq
        dsimp only
        by_cases hc : e ∈ es
        · rw [if_pos hc]
          exact hq.good hc
        · rw [if_neg hc]
          exact hq.bad hc
    · dsimp only
      rw [if_neg hv]
      exact mremove_no w a k v r h e ao l.length cp (fun W _ => readLeaf_no W a k v r h ao l.length cp (.inr hv))
theorem mpost_any (w : World) (a k v r : Int) (h : ByteArray) (e : En) (c : Int) (B cp : Nat) (ao : Option Addr) (l : List ByteArray) (hS : Strs w B ao l) (hF : Fit ao l.length cp) (hl : l.length ≤ 8796093021952) :
    Calls Tryz.prog 45 #[.agg #[.int .i64 a, .int .i64 k, .int .i64 v, .int .i64 r, .string h, .slice ao l.length cp], e.agg, .int .i64 c] w fun x w' => Res w w' x (nPos ⟨a, k, v, r, h, l⟩ e c).1 (nPos ⟨a, k, v, r, h, l⟩ e c).2 := by
  unfold nPos
  dsimp only
  cases hH : hdO k v r h with
  | none => exact mpost_no w a k v r h e c ao l.length cp (fun W _ => readInner_no W a k v r h ao l.length cp (.inl hH))
  | some hi =>
    dsimp only
    by_cases hv : v = 0 ∨ l = []
    · rw [if_pos hv]
      exact mpost_no w a k v r h e c ao l.length cp (fun W _ => readInner_no W a k v r h ao l.length cp (.inr (hv.imp id (fun e => by rw [e]; rfl))))
    · rw [if_neg hv]
      obtain ⟨rfl, _⟩ := hdO_kind hH
      have hv0 : ¬ v = 0 := fun q => hv (.inl q)
      have hl0 : ¬ l = [] := fun q => hv (.inr q)
      cases hes : rdI hi none l with
      | none =>
        exact mpost_no w a 3 v r h e c ao l.length cp (fun W ho => by
          have q := readInner_all W a v r h hi B cp ao l (hS.more ho) hv0 hH hl (List.length_pos_iff.2 hl0)
          rw [hes] at q
          exact q)
      | some ks =>
        have q := post_big w a v r h hi e c B cp ao l ks ⟨hS, hv0, hH, hdO_is hH, (rdI_some hes hl0).1, hl⟩ hF
        refine q.mono ?_
        intro x w' hq
        dsimp only
        by_cases hc : e.ok = true ∧ blw hi e = true ∧ okC c = true ∧ e ∉ ks.map Prod.fst
        · rw [if_pos hc]
          exact Or3.fit (p := ⟨a, 3, v, r, h, posI l ks e c⟩) (hq.good hc.1 hc.2.1 hc.2.2.1 hc.2.2.2)
        · rw [if_neg hc]
          refine hq.bad ?_
          cases h1 : e.ok with
          | false => exact .inl rfl
          | true =>
            cases h2 : blw hi e with
            | false => exact .inr (.inl rfl)
            | true =>
              cases h3 : okC c with
              | false => exact .inr (.inr (.inl rfl))
              | true => exact .inr (.inr (.inr (Classical.byContradiction fun h4 => hc ⟨h1, h2, h3, h4⟩)))
end Go.Proofs.YtphofhicehncgaaGreat

namespace Go.Proofs.YtphofhicehncgaaGreat
open Go.RowKit

/-- A modulus. -/
def Md (m : Int) : Prop := 16 ≤ m ∧ m ≤ 1024 ∧ m % 2 = 0
instance (m : Int) : Decidable (Md m) := by unfold Md; infer_instance
/-- An id of the modulus m. -/
def Idd (m x : Int) : Prop := Md m ∧ 1 ≤ x ∧ x ≤ m
instance (m x : Int) : Decidable (Idd m x) := by unfold Idd; infer_instance
def xadd (m x n : Int) : Int := if Idd m x then (x - 1 + n) % m + 1 else 0
def xgap (m a b : Int) : Int := if Idd m a ∧ Idd m b then (b - a) % m else 0
def xbef (m a b : Int) : Bool := decide (1 ≤ xgap m a b ∧ xgap m a b ≤ m / 2 - 1)
/-- A number that an int may be. -/
def I64 (n : Int) : Prop := -9223372036854775808 ≤ n ∧ n < 9223372036854775808

theorem tmod2 {m : Int} (h : 0 ≤ m) : m.tmod 2 = m % 2 := Int.tmod_eq_emod_of_nonneg h
theorem emod_bd {m n : Int} (h : 16 ≤ m) : 0 ≤ n % m ∧ n % m < m := ⟨Int.emod_nonneg n (by omega), Int.emod_lt_of_pos n (by omega)⟩
theorem tmod_two {m n : Int} (h : 16 ≤ m) : n.tmod m = n % m ∨ (n.tmod m = n % m - m ∧ 0 < n % m) := by
  have h1 : n.tmod m = n % m - ↑(if 0 ≤ n ∨ m ∣ n then 0 else m.natAbs) := Int.tmod_eq_emod
  by_cases hc : 0 ≤ n ∨ m ∣ n
  · rw [if_pos hc] at h1
    exact .inl (by omega)
  · rw [if_neg hc] at h1
    have h2 := emod_bd (n := n) h
    have h3 : ¬ n % m = 0 := fun e => hc (.inr (Int.dvd_of_emod_eq_zero e))
    exact .inr ⟨by omega, by omega⟩
theorem tmod_bd {m n : Int} (h : 16 ≤ m) : -m < n.tmod m ∧ n.tmod m < m := by
  have h2 := emod_bd (n := n) h
  rcases tmod_two (n := n) h with e | ⟨e, _⟩ <;> rw [e] <;> omega
theorem around_is {m n : Int} (h : 16 ≤ m) : (n.tmod m + m).tmod m = n % m := by
  have h2 := emod_bd (n := n) h
  have h4 := tmod_bd (n := n) h
  rw [Int.tmod_eq_emod_of_nonneg (show 0 ≤ n.tmod m + m by omega)]
  rcases tmod_two (n := n) h with e | ⟨e, _⟩ <;> rw [e]
  · rw [Int.add_emod_right]; exact Int.emod_eq_of_lt h2.1 h2.2
  · rw [Int.sub_add_cancel]; exact Int.emod_eq_of_lt h2.1 h2.2
theorem plus_mod (y n m : Int) : (y + n % m) % m = (y + n) % m := by
  rw [Int.add_emod, Int.emod_emod_of_dvd _ (Int.dvd_refl m), ← Int.add_emod]
theorem add_is {m y n : Int} (h : 16 ≤ m) : (y + n.tmod m) % m = (y + n) % m := by
  rcases tmod_two (n := n) h with e | ⟨e, _⟩ <;> rw [e]
  · exact plus_mod y n m
  · rw [show y + (n % m - m) = y + n % m - m from by omega, Int.sub_emod_right]; exact plus_mod y n m
theorem xgap_bd {m a b : Int} : 0 ≤ xgap m a b ∧ xgap m a b < 1024 := by
  unfold xgap
  split
  · rename_i h
    have := emod_bd (m := m) (n := b - a) h.1.1.1
    have := h.1.1.2.1
    omega
  · omega
theorem xadd_id {m x n : Int} (h : Idd m x) : Idd m (xadd m x n) := by
  unfold xadd
  rw [if_pos h]
  have := emod_bd (m := m) (n := x - 1 + n) h.1.1
  exact ⟨h.1, by omega, by omega⟩
theorem xadd_bd {m x n : Int} : 0 ≤ xadd m x n ∧ xadd m x n ≤ 1024 := by
  by_cases h : Idd m x
  · have h1 := xadd_id (n := n) h
    have := h1.1.2.1
    have := h1.2
    omega
  · unfold xadd; rw [if_neg h]; omega
theorem mod_near {m y : Int} (h0 : 0 ≤ y) (h1 : y < 2 * m) : y % m = if y < m then y else y - m := by
  split
  · exact Int.emod_eq_of_lt h0 (by omega)
  · have e : y = (y - m) + m := by omega
    rw [e, Int.add_emod_right, Int.emod_eq_of_lt (by omega) (by omega)]
    omega
theorem mod_back {m y : Int} (h0 : -m ≤ y) (h1 : y < m) : y % m = if 0 ≤ y then y else y + m := by
  split
  · exact Int.emod_eq_of_lt (by omega) (by omega)
  · have e : y = (y + m) - m := by omega
    rw [e, Int.sub_emod_right, Int.emod_eq_of_lt (by omega) (by omega)]
    omega
/-- Some steps on, in plain words. -/
theorem ring_on {m a n : Int} (h : Idd m a) (h0 : 0 ≤ n) (h1 : n < m) : xadd m a n = if a + n ≤ m then a + n else a + n - m := by
  have hm := h.1.1
  have h2 := h.2
  unfold xadd
  rw [if_pos h, mod_near (by omega) (by omega)]
  split <;> split <;> omega
theorem ring_back {m a n : Int} (h : Idd m a) (h0 : 0 ≤ n) (h1 : n < m) : xadd m a (-n) = if 1 ≤ a - n then a - n else a - n + m := by
  have hm := h.1.1
  have h2 := h.2
  unfold xadd
  rw [if_pos h, mod_back (by omega) (by omega)]
  split <;> split <;> omega
theorem ring_gap {m a b : Int} (h : Idd m a) (h' : Idd m b) : xgap m a b = if a ≤ b then b - a else b - a + m := by
  have hm := h.1.1
  have h2 := h.2
  have h3 := h'.2
  unfold xgap
  rw [if_pos ⟨h, h'⟩, mod_back (by omega) (by omega)]
  split <;> split <;> omega
theorem xadd_mod {m x n : Int} : xadd m x (n % m) = xadd m x n := by
  unfold xadd
  split
  · rw [plus_mod]
  · rfl
theorem xgap_lt {m a b : Int} (h : Idd m a) (h' : Idd m b) : 0 ≤ xgap m a b ∧ xgap m a b < m := by
  have := h.2
  have := h'.2
  rw [ring_gap h h']
  split <;> omega
/-- Up to the gap only the gap itself leads there. -/
theorem gap_first {m a b n : Int} (h : Idd m a) (h' : Idd m b) (h0 : 0 ≤ n) (h1 : n ≤ xgap m a b) : (xadd m a n = b ↔ n = xgap m a b) := by
  have := xgap_lt h h'
  have := h.2
  have := h'.2
  rw [ring_on h h0 (by omega)]
  rw [ring_gap h h'] at *
  split at * <;> split at * <;> omega
end Go.Proofs.YtphofhicehncgaaGreat

namespace Go.Proofs.YtphofhicehncgaaGreat
open Go.RowKit

def dig (b k : Nat) : Nat := b / 4 ^ k % 4
def put4 (b k v : Nat) : Nat := b - dig b k * 4 ^ k + v * 4 ^ k
theorem k4 {k : Nat} (h : k < 4) : k = 0 ∨ k = 1 ∨ k = 2 ∨ k = 3 := by omega
theorem put4_lt {b k v : Nat} (hb : b < 256) (hk : k < 4) (hv : v < 4) : put4 b k v < 256 := by
  rcases k4 hk with rfl | rfl | rfl | rfl <;> simp only [put4, dig, Nat.reducePow] <;> omega
theorem dig_put {b k v : Nat} (hk : k < 4) (hv : v < 4) : dig (put4 b k v) k = v := by
  rcases k4 hk with rfl | rfl | rfl | rfl <;> simp only [put4, dig, Nat.reducePow] <;> omega
theorem dig_other {b k j v : Nat} (hk : k < 4) (hj : j < 4) (hv : v < 4) (h : j ≠ k) : dig (put4 b k v) j = dig b j := by
  rcases k4 hk with rfl | rfl | rfl | rfl <;> rcases k4 hj with rfl | rfl | rfl | rfl <;> simp only [put4, dig, Nat.reducePow] <;> omega
theorem dig_ext {b c : Nat} (hb : b < 256) (hc : c < 256) (h : ∀ k, k < 4 → dig b k = dig c k) : b = c := by
  have h0 := h 0 (by omega)
  have h1 := h 1 (by omega)
  have h2 := h 2 (by omega)
  have h3 := h 3 (by omega)
  simp only [dig, Nat.reducePow] at h0 h1 h2 h3
  omega
theorem dig_lt (b k : Nat) : dig b k < 4 := Nat.mod_lt _ (by decide)

def byt (l : List UInt8) (j : Nat) : Nat := (l.getD j 0).toNat
theorem byt_lt (l : List UInt8) (j : Nat) : byt l j < 256 := UInt8.toNat_lt _
def stAt (l : List UInt8) (i : Nat) : Nat := dig (byt l (i / 4)) (i % 4)
def stSet (l : List UInt8) (i v : Nat) : List UInt8 := l.set (i / 4) (UInt8.ofNat (put4 (byt l (i / 4)) (i % 4) v))
theorem stSet_len (l : List UInt8) (i v : Nat) : (stSet l i v).length = l.length := by simp [stSet]
theorem stAt_lt (l : List UInt8) (i : Nat) : stAt l i < 4 := dig_lt _ _
theorem byt_set {l : List UInt8} {j n : Nat} (hj : j < l.length) (hn : n < 256) (k : Nat) : byt (l.set j (UInt8.ofNat n)) k = if k = j then n else byt l k := by
  unfold byt
  split
  · rename_i e
    subst e
    rw [List.getD_eq_getElem?_getD, List.getElem?_set_self hj]
    exact UInt8.toNat_ofNat_of_lt' hn
  · rename_i e
    rw [List.getD_eq_getElem?_getD, List.getElem?_set_ne (by omega), ← List.getD_eq_getElem?_getD]
theorem stAt_set {l : List UInt8} {i v : Nat} (hi : i / 4 < l.length) (hv : v < 4) (j : Nat) : stAt (stSet l i v) j = if j = i then v else stAt l j := by
  have h4 : i % 4 < 4 := Nat.mod_lt _ (by decide)
  have hp := put4_lt (byt_lt l (i / 4)) h4 hv
  unfold stAt stSet
  rw [byt_set hi hp]
  by_cases e : j / 4 = i / 4
  · rw [if_pos e]
    by_cases e2 : j = i
    · subst e2
      rw [if_pos rfl]
      exact dig_put h4 hv
    · rw [if_neg e2, e]
      exact dig_other h4 (Nat.mod_lt _ (by decide)) hv (by omega)
  · rw [if_neg e, if_neg (by intro h; exact e (by rw [h]))]
theorem st_ext {l l' : List UInt8} (hl : l.length = l'.length) (h : ∀ i, i < 4 * l.length → stAt l i = stAt l' i) : l = l' := by
  refine List.ext_getElem hl (fun j h1 h2 => ?_)
  have hb : byt l j = byt l' j := by
    refine dig_ext (byt_lt _ _) (byt_lt _ _) (fun k hk => ?_)
    have := h (4 * j + k) (by omega)
    unfold stAt at this
    rw [show (4 * j + k) / 4 = j by omega, show (4 * j + k) % 4 = k by omega] at this
    exact this
  unfold byt at hb
  rw [List.getD_eq_getElem?_getD, List.getD_eq_getElem?_getD, List.getElem?_eq_getElem h1, List.getElem?_eq_getElem h2] at hb
  exact UInt8.toNat_inj.1 hb

/-- How many bytes the statuses of the modulus m take. -/
def nb (m : Int) : Nat := ((m + 3) / 4).toNat
/-- The limit whose bytes these are, 0 if they are none's. -/
def lim (m : Int) (s : ByteArray) : Int := if (rdN m (bl s)).2.2 = 0 ∧ (rdN m (bl s)).2.1 = [] then (rdN m (bl s)).1 else 0
theorem lim_bd {m : Int} (hm : 0 ≤ m) (s : ByteArray) : 0 ≤ lim m s ∧ lim m s ≤ m := by
  unfold lim
  split
  · rename_i h
    have h1 := (rdN_facts m (bl s)).1
    refine ⟨h1, ?_⟩
    unfold rdN at h ⊢
    split at h
    · rename_i h2
      rw [if_pos h2]
      split at h
      · simp at h
      · rename_i h3
        rw [if_neg h3]
        show (rd 0 0 (bl s)).1 ≤ m
        omega
    · simp at h; rename_i h2; exact absurd h h2
  · omega
theorem lim_canon {m : Int} {s : ByteArray} (h : lim m s ≠ 0) : s = str (sev (lim m s).toNat) := by
  have hq : (rdN m (bl s)).2.2 = 0 ∧ (rdN m (bl s)).2.1 = [] := by
    apply Classical.byContradiction
    intro hn
    exact h (by unfold lim; rw [if_neg hn])
  have e : lim m s = (rdN m (bl s)).1 := by unfold lim; rw [if_pos hq]
  have hc := rdN_canon m (bl s) hq.1
  rw [hq.2, List.append_nil, ← e] at hc
  rw [← hc, str_bl]
theorem lim_sev {m f : Int} (h0 : 0 ≤ f) (h1 : f ≤ m) (h2 : m ≤ 1024) : lim m (str (sev f.toNat)) = f := by
  have hr := rd_sev 9 0 f.toNat 0 [] rfl (by have : (128 : Nat) ^ 9 = 9223372036854775808 := by decide
                                             omega) (by omega) (by omega)
  rw [List.append_nil] at hr
  have e : rdN m (sev f.toNat) = (f, [], 0) := by
    have hf : (0 : Int) + (f.toNat : Int) * 128 ^ 0 = f := by simp; omega
    have hq : rd 0 0 (sev f.toNat) = (f, ((sev f.toNat).length : Int), 0) := by
      have := hr
      rw [hf, Nat.zero_add] at this
      exact this
    unfold rdN
    rw [hq]
    simp only [if_true]
    rw [if_neg (by omega)]
    simp
  unfold lim
  rw [bl_str, e]
  simp

def it0 (p : Pg) : ByteArray := p.items.getD 0 ⟨#[]⟩
def it1 (p : Pg) : ByteArray := p.items.getD 1 ⟨#[]⟩
/-- The last byte has nothing behind the last id. -/
def topOk (m : Int) (s : ByteArray) : Prop := byt (bl s) ((m - 1) / 4).toNat / 4 ^ ((m - 1) % 4).toNat ≤ 3
/-- A page of statuses. -/
structure OkP (m : Int) (p : Pg) : Prop where
  kind : p.kind = 1
  lsn : 0 ≤ p.lsn
  level : p.level = 0
  right : p.right = 0
  high : p.high = ⟨#[]⟩
  two : p.items.length = 2
  lm : lim m (it0 p) ≠ 0
  size : (it1 p).size = nb m
  top : topOk m (it1 p)
theorem OkP.items {m : Int} {p : Pg} (h : OkP m p) : p.items = [it0 p, it1 p] := by
  obtain ⟨a, k, v, r, hh, l⟩ := p
  have := h.two
  match l, this with
  | [x, y], _ => rfl
theorem OkP.is {m : Int} {p : Pg} (h : OkP m p) : p = ⟨p.lsn, 1, 0, 0, ⟨#[]⟩, [it0 p, it1 p]⟩ := by
  have e := h.items
  have h1 := h.kind
  have h2 := h.level
  have h3 := h.right
  have h4 := h.high
  obtain ⟨a, k, v, r, hh, l⟩ := p
  simp only at h1 h2 h3 h4
  subst h1
  subst h2
  subst h3
  subst h4
  exact congrArg (fun l => (⟨a, 1, 0, 0, ⟨#[]⟩, l⟩ : Pg)) e
open Classical in
/-- What Check answers. -/
noncomputable def chk (m : Int) (p : Pg) : Int := if Md m then (if OkP m p then 0 else 31) else 1
theorem chk_mod {m : Int} {p : Pg} (h : ¬ Md m) : chk m p = 1 := by unfold chk; rw [if_neg h]
theorem chk_ok {m : Int} {p : Pg} (h : Md m) (k : OkP m p) : chk m p = 0 := by unfold chk; rw [if_pos h, if_pos k]
theorem chk_bad {m : Int} {p : Pg} (h : Md m) (k : ¬ OkP m p) : chk m p = 31 := by unfold chk; rw [if_pos h, if_neg k]
theorem nb_bd {m : Int} (h : Md m) : 4 ≤ nb m ∧ nb m ≤ 256 ∧ m ≤ 4 * (nb m : Int) ∧ 4 * (nb m : Int) ≤ m + 2 := by
  obtain ⟨h1, h2, h3⟩ := h
  unfold nb
  omega
/-- Behind the last id there is nothing. -/
theorem top_iff {m : Int} (h : Md m) {s : ByteArray} : topOk m s ↔ ∀ i : Nat, m ≤ (i : Int) → i < 4 * nb m → stAt (bl s) i = 0 := by
  have hn := nb_bd h
  obtain ⟨h1, h2, h3⟩ := h
  unfold topOk
  have hb := byt_lt (bl s) ((m - 1) / 4).toNat
  have hq : (m - 1) % 4 = 1 ∨ (m - 1) % 4 = 3 := by omega
  rcases hq with hq | hq
  · rw [hq]
    constructor
    · intro hle i hi hi2
      have e : i / 4 = ((m - 1) / 4).toNat := by omega
      have hk : i % 4 = 2 ∨ i % 4 = 3 := by omega
      unfold stAt dig
      rw [e]
      simp only [Int.reduceToNat, Nat.pow_one] at hle
      rcases hk with hk | hk <;> rw [hk] <;> simp only [Nat.reducePow] <;> omega
    · intro ha
      have a1 := ha m.toNat (by omega) (by omega)
      have a2 := ha (m.toNat + 1) (by omega) (by omega)
      unfold stAt dig at a1 a2
      rw [show m.toNat / 4 = ((m - 1) / 4).toNat by omega, show m.toNat % 4 = 2 by omega] at a1
      rw [show (m.toNat + 1) / 4 = ((m - 1) / 4).toNat by omega, show (m.toNat + 1) % 4 = 3 by omega] at a2
      simp only [Nat.reducePow] at a1 a2
      simp only [Int.reduceToNat, Nat.pow_one]
      omega
  · rw [hq]
    constructor
    · intro _ i hi hi2
      omega
    · intro _
      simp only [Int.reduceToNat, Nat.reducePow]
      omega

/-- The page with another status. -/
def setP (p : Pg) (x : Int) (v : Nat) : Pg := ⟨p.lsn, 1, 0, 0, ⟨#[]⟩, [it0 p, str (stSet (bl (it1 p)) (x - 1).toNat v)]⟩
theorem at_lt {m x : Int} (h : Idd m x) {s : ByteArray} (hs : s.size = nb m) : (x - 1).toNat / 4 < (bl s).length := by
  have hn := nb_bd h.1
  have := h.2
  rw [bl_len, hs]
  omega
theorem OkP.set {m x : Int} {p : Pg} {v : Nat} (h : OkP m p) (hx : Idd m x) (hv : v < 4) : OkP m (setP p x v) := by
  refine ⟨rfl, h.lsn, rfl, rfl, rfl, rfl, h.lm, ?_, ?_⟩
  · show (str _).size = _
    rw [str_size, stSet_len, bl_len]; exact h.size
  · rw [top_iff hx.1]
    intro i h1 h2
    show stAt (bl (str _)) i = 0
    rw [bl_str, stAt_set (at_lt hx h.size) hv, if_neg (by have := hx.2; omega)]
    exact (top_iff hx.1).1 h.top i h1 h2
theorem idx_pos {x : Int} {j : Nat} (e : x = (j : Int) + 1) : j = (x - 1).toNat := by omega
theorem idx_neg {x : Int} {j : Nat} (h1 : 1 ≤ x) (e : j = (x - 1).toNat) : x = (j : Int) + 1 := by omega
/-- Statuses forgotten, n of them from x on. -/
def clr (m : Int) : Nat → Int → List UInt8 → List UInt8
  | 0, _, l => l
  | n + 1, x, l => clr m n (xadd m x 1) (stSet l (x - 1).toNat 0)
theorem clr_len (m : Int) (n : Nat) (x : Int) (l : List UInt8) : (clr m n x l).length = l.length := by
  induction n generalizing x l with
  | zero => rfl
  | succ n ih => rw [clr, ih, stSet_len]
theorem xadd_xadd {m x a b : Int} (h : Idd m x) : xadd m (xadd m x a) b = xadd m x (a + b) := by
  have h1 := xadd_id (n := a) h
  unfold xadd at h1 ⊢
  rw [if_pos h] at h1 ⊢
  rw [if_pos h1, if_pos h, show (x - 1 + a) % m + 1 - 1 + b = b + (x - 1 + a) % m by omega, plus_mod, show b + (x - 1 + a) = x - 1 + (a + b) by omega]
theorem stAt_clr {m : Int} (n : Nat) (x : Int) (l : List UInt8) (hx : Idd m x) (hl : l.length = nb m) (j : Nat) :
    ((∃ t : Nat, t < n ∧ xadd m x t = (j : Int) + 1) → stAt (clr m n x l) j = 0) ∧ ((¬ ∃ t : Nat, t < n ∧ xadd m x t = (j : Int) + 1) → stAt (clr m n x l) j = stAt l j) := by
  induction n generalizing x l with
  | zero => exact ⟨fun ⟨t, h, _⟩ => absurd h (by omega), fun _ => rfl⟩
  | succ n ih =>
    have hi : (x - 1).toNat / 4 < l.length := by have := nb_bd hx.1; have := hx.2; rw [hl]; omega
    have h0 : xadd m x 0 = x := by rw [ring_on hx (by omega) (by have := hx.1.1; omega)]; have := hx.2; split <;> omega
    have hs := stAt_set hi (show 0 < 4 by omega) j
    obtain ⟨a1, a2⟩ := ih (xadd m x 1) (stSet l (x - 1).toNat 0) (xadd_id hx) (by rw [stSet_len]; exact hl)
    have hstep : ∀ t : Nat, xadd m (xadd m x 1) (t : Int) = xadd m x ((t + 1 : Nat) : Int) := fun t => by rw [xadd_xadd hx]; congr 1; omega
    rw [clr]
    constructor
    · rintro ⟨t, ht, e⟩
      by_cases hex : ∃ t : Nat, t < n ∧ xadd m (xadd m x 1) t = (j : Int) + 1
      · exact a1 hex
      · rw [a2 hex, hs]
        by_cases ht0 : t = 0
        · subst ht0
          rw [show ((0 : Nat) : Int) = 0 from rfl, h0] at e
          rw [if_pos (idx_pos e)]
        · refine absurd ⟨t - 1, by omega, ?_⟩ hex
          rw [hstep, show t - 1 + 1 = t by omega]
          exact e
    · intro hno
      have hex : ¬ ∃ t : Nat, t < n ∧ xadd m (xadd m x 1) t = (j : Int) + 1 := by
        rintro ⟨t, ht, e⟩
        exact hno ⟨t + 1, by omega, by rw [← hstep]; exact e⟩
      rw [a2 hex, hs, if_neg]
      intro e
      exact hno ⟨0, by omega, by rw [show ((0 : Nat) : Int) = 0 from rfl, h0]; exact idx_neg hx.2.1 e⟩
/-- The page that has forgotten those ahead of y. -/
def cutP (m : Int) (p : Pg) (y : Int) : Pg := ⟨p.lsn, 1, 0, 0, ⟨#[]⟩, [str (sev y.toNat), str (clr m (xgap m (lim m (it0 p)) y).toNat (lim m (it0 p)) (bl (it1 p)))]⟩
theorem OkP.idd {m : Int} {p : Pg} (h : OkP m p) (hm : Md m) : Idd m (lim m (it0 p)) := by
  have h1 := lim_bd (by have := hm.1; omega : 0 ≤ m) (it0 p)
  have h2 := h.lm
  exact ⟨hm, by omega, h1.2⟩
theorem OkP.cut {m y : Int} {p : Pg} (h : OkP m p) (hy : Idd m y) : OkP m (cutP m p y) := by
  have hl : (bl (it1 p)).length = nb m := by rw [bl_len]; exact h.size
  refine ⟨rfl, h.lsn, rfl, rfl, rfl, rfl, ?_, ?_, ?_⟩
  · show lim m (str (sev y.toNat)) ≠ 0
    rw [lim_sev (by have := hy.2; omega) hy.2.2 hy.1.2.1]
    have := hy.2
    omega
  · show (str _).size = _
    rw [str_size, clr_len]; exact hl
  · rw [top_iff hy.1]
    intro i h1 h2
    show stAt (bl (str _)) i = 0
    rw [bl_str]
    obtain ⟨a1, a2⟩ := stAt_clr (xgap m (lim m (it0 p)) y).toNat _ (bl (it1 p)) (h.idd hy.1) hl i
    by_cases hex : ∃ t : Nat, t < (xgap m (lim m (it0 p)) y).toNat ∧ xadd m (lim m (it0 p)) t = (i : Int) + 1
    · exact a1 hex
    · rw [a2 hex]
      exact (top_iff hy.1).1 h.top i h1 h2
/-- The page of no transaction. -/
def blankP (m f : Int) : Pg := ⟨0, 1, 0, 0, ⟨#[]⟩, [str (sev f.toNat), str (List.replicate (nb m) 0)]⟩
theorem stAt_zero (n i : Nat) : stAt (List.replicate n 0) i = 0 := by
  have : byt (List.replicate n 0) (i / 4) = 0 := by
    unfold byt
    rw [List.getD_eq_getElem?_getD, List.getElem?_replicate]
    split <;> rfl
  unfold stAt
  rw [this]
  unfold dig
  simp
theorem OkP.blank {m f : Int} (h : Idd m f) : OkP m (blankP m f) := by
  refine ⟨rfl, by simp [blankP], rfl, rfl, rfl, rfl, ?_, ?_, ?_⟩
  · show lim m (str (sev f.toNat)) ≠ 0
    rw [lim_sev (by have := h.2; omega) h.2.2 h.1.2.1]
    have := h.2
    omega
  · show (str _).size = _
    rw [str_size, List.length_replicate]
  · rw [top_iff h.1]
    intro i _ _
    show stAt (bl (str _)) i = 0
    rw [bl_str, stAt_zero]
end Go.Proofs.YtphofhicehncgaaGreat
