/- Parts. -/
import Derived.Test.YtpnbhddmdfcjdaaGreatK40
import Derived.Test.YtpnbhddmdfcjdaaGreatK41
import Derived.Test.YtpnbhddmdfcjdaaGreatK33
set_option maxRecDepth 100000
namespace Go.Proofs.YtpnbhddmdfcjdaaGreat
open Go.RowKit
set_option maxRecDepth 100000 in
set_option maxHeartbeats 1600000 in
theorem minsert_no (w : World) (a k v r : Int) (h : ByteArray) (e : En) (ao : Option Addr) (n cp : Nat) (hR : ∀ W, Only (fun _ => False) w W → Calls Tryz.prog 168 #[.agg #[.int .i64 a, .int .i64 k, .int .i64 v, .int .i64 r, .string h, .slice ao n cp]] W fun e w' => CvR e false ∧ Only (fun _ => False) W w') :
    Calls Tryz.prog 121 #[.agg #[.int .i64 a, .int .i64 k, .int .i64 v, .int .i64 r, .string h, .slice ao n cp], e.agg] w fun x w' => Res w w' x .none 140 := by
  have HX := hide (ins_new w (.int .i64 a) (.int .i64 k) (.int .i64 v) (.int .i64 r) (.string h) (.slice ao n cp) e)
  have HR := hide hR
  clear hR
  unfold En.agg
  go_enter Tryz.func121, Tryz.ntmps121
  go_upto_region 1 with fail
  obtain ⟨W0, hW0⟩ : ∃ x, ((w.alloc (.cells #[.int .i64 a, .int .i64 k, .int .i64 v, .int .i64 r, .string h, .slice ao n cp] 30)).alloc (.cells #[.string e.key, .int .i64 e.page, .int .i64 e.slot] 74)).alloc (.cells #[.int .i64 0, .int .i64 0, .int .i64 0, .int .i64 0, .string ⟨#[]⟩, .slice none 0 0] 30) = x := ⟨_, rfl⟩
  rw [hW0] at HX ⊢
  clear hW0
  obtain ⟨p0, p1, p2, p3, p4, p5, _⟩ := HX.out.1
  go_wp2_with fail
  refine (HR.out _ HX.out.2.2.2).mono ?_
  rintro x w1 ⟨⟨a1, n1, c1, a2, n2, c2, H, rfl⟩, ho⟩
  unfold cvv
  have HA := hide (onlyA w1 (.cells #[.slice a1 n1 c1, .slice a2 n2 c2, .string H.key, .int .i64 H.page, .int .i64 H.slot] 200))
  have HQ := hide ((HX.out.2.2.1.more ho).more HA.out)
  have HO := hide (o2 (o2 HX.out.2.2.2 ho) HA.out)
  clear ho p0 p1 p2 p3 p4 p5 HR HX HA
  go_upto_region 2 with fail
  obtain ⟨w2, hw2⟩ : ∃ x, w1.alloc (.cells #[.slice a1 n1 c1, .slice a2 n2 c2, .string H.key, .int .i64 H.page, .int .i64 H.slot] 200) = x := ⟨_, rfl⟩
  rw [hw2] at HQ HO ⊢
  clear hw2
  obtain ⟨q0, q1, q2, q3, q4, q5, g0, g1, g2, g3, g4, g5, ql⟩ := HQ.out
  go_wp2_with fail
  refine bodyPost_ret (results_page rfl rfl (Pag.six HQ.out _ _ _ _ _ _)) rfl ?_
  exact resErr _ HO.out (by omega)
set_option maxRecDepth 100000 in
set_option maxHeartbeats 1600000 in
theorem mremove_no (w : World) (a k v r : Int) (h : ByteArray) (e : En) (ao : Option Addr) (n cp : Nat) (hR : ∀ W, Only (fun _ => False) w W → Calls Tryz.prog 168 #[.agg #[.int .i64 a, .int .i64 k, .int .i64 v, .int .i64 r, .string h, .slice ao n cp]] W fun e w' => CvR e false ∧ Only (fun _ => False) W w') :
    Calls Tryz.prog 124 #[.agg #[.int .i64 a, .int .i64 k, .int .i64 v, .int .i64 r, .string h, .slice ao n cp], e.agg] w fun x w' => Res w w' x .none 140 := by
  have HX := hide (ins_new w (.int .i64 a) (.int .i64 k) (.int .i64 v) (.int .i64 r) (.string h) (.slice ao n cp) e)
  have HR := hide hR
  clear hR
  unfold En.agg
  go_enter Tryz.func124, Tryz.ntmps124
  go_upto_region 1 with fail
  obtain ⟨W0, hW0⟩ : ∃ x, ((w.alloc (.cells #[.int .i64 a, .int .i64 k, .int .i64 v, .int .i64 r, .string h, .slice ao n cp] 30)).alloc (.cells #[.string e.key, .int .i64 e.page, .int .i64 e.slot] 74)).alloc (.cells #[.int .i64 0, .int .i64 0, .int .i64 0, .int .i64 0, .string ⟨#[]⟩, .slice none 0 0] 30) = x := ⟨_, rfl⟩
  rw [hW0] at HX ⊢
  clear hW0
  obtain ⟨p0, p1, p2, p3, p4, p5, _⟩ := HX.out.1
  go_wp2_with fail
  refine (HR.out _ HX.out.2.2.2).mono ?_
  rintro x w1 ⟨⟨a1, n1, c1, a2, n2, c2, H, rfl⟩, ho⟩
  unfold cvv
  have HA := hide (onlyA w1 (.cells #[.slice a1 n1 c1, .slice a2 n2 c2, .string H.key, .int .i64 H.page, .int .i64 H.slot] 200))
  have HQ := hide ((HX.out.2.2.1.more ho).more HA.out)
  have HO := hide (o2 (o2 HX.out.2.2.2 ho) HA.out)
  clear ho p0 p1 p2 p3 p4 p5 HR HX HA
  go_upto_region 2 with fail
  obtain ⟨w2, hw2⟩ : ∃ x, w1.alloc (.cells #[.slice a1 n1 c1, .slice a2 n2 c2, .string H.key, .int .i64 H.page, .int .i64 H.slot] 200) = x := ⟨_, rfl⟩
  rw [hw2] at HQ HO ⊢
  clear hw2
  obtain ⟨q0, q1, q2, q3, q4, q5, g0, g1, g2, g3, g4, g5, ql⟩ := HQ.out
  go_wp2_with fail
  refine bodyPost_ret (results_page rfl rfl (Pag.six HQ.out _ _ _ _ _ _)) rfl ?_
  exact resErr _ HO.out (by omega)
set_option maxRecDepth 100000 in
set_option maxHeartbeats 1600000 in
theorem mpost_no (w : World) (a k v r : Int) (h : ByteArray) (e : En) (c : Int) (ao : Option Addr) (n cp : Nat) (hR : ∀ W, Only (fun _ => False) w W → Calls Tryz.prog 174 #[.agg #[.int .i64 a, .int .i64 k, .int .i64 v, .int .i64 r, .string h, .slice ao n cp]] W fun e w' => CvR e false ∧ Only (fun _ => False) W w') :
    Calls Tryz.prog 123 #[.agg #[.int .i64 a, .int .i64 k, .int .i64 v, .int .i64 r, .string h, .slice ao n cp], e.agg, .int .i64 c] w fun x w' => Res w w' x .none 140 := by
  have HX := hide (ins_new w (.int .i64 a) (.int .i64 k) (.int .i64 v) (.int .i64 r) (.string h) (.slice ao n cp) e)
  have HR := hide hR
  clear hR
  unfold En.agg
  go_enter Tryz.func123, Tryz.ntmps123
  go_upto_region 1 with fail
  obtain ⟨W0, hW0⟩ : ∃ x, ((w.alloc (.cells #[.int .i64 a, .int .i64 k, .int .i64 v, .int .i64 r, .string h, .slice ao n cp] 30)).alloc (.cells #[.string e.key, .int .i64 e.page, .int .i64 e.slot] 74)).alloc (.cells #[.int .i64 0, .int .i64 0, .int .i64 0, .int .i64 0, .string ⟨#[]⟩, .slice none 0 0] 30) = x := ⟨_, rfl⟩
  rw [hW0] at HX ⊢
  clear hW0
  obtain ⟨p0, p1, p2, p3, p4, p5, _⟩ := HX.out.1
  go_wp2_with fail
  refine (HR.out _ HX.out.2.2.2).mono ?_
  rintro x w1 ⟨⟨a1, n1, c1, a2, n2, c2, H, rfl⟩, ho⟩
  unfold cvv
  have HA := hide (onlyA w1 (.cells #[.slice a1 n1 c1, .slice a2 n2 c2, .string H.key, .int .i64 H.page, .int .i64 H.slot] 200))
  have HQ := hide ((HX.out.2.2.1.more ho).more HA.out)
  have HO := hide (o2 (o2 HX.out.2.2.2 ho) HA.out)
  clear ho p0 p1 p2 p3 p4 p5 HR HX HA
  go_upto_region 2 with fail
  obtain ⟨w2, hw2⟩ : ∃ x, w1.alloc (.cells #[.slice a1 n1 c1, .slice a2 n2 c2, .string H.key, .int .i64 H.page, .int .i64 H.slot] 200) = x := ⟨_, rfl⟩
  rw [hw2] at HQ HO ⊢
  clear hw2
  obtain ⟨q0, q1, q2, q3, q4, q5, g0, g1, g2, g3, g4, g5, ql⟩ := HQ.out
  go_wp2_with fail
  refine bodyPost_ret (results_page rfl rfl (Pag.six HQ.out _ _ _ _ _ _)) rfl ?_
  exact resErr _ HO.out (by omega)
theorem hdO_is {k v r : Int} {h : ByteArray} {hi : En} (q : hdO k v r h = some hi) : HiIs h hi := by
  obtain ⟨rfl, q1⟩ := hdO_kind q
  unfold hdO at q
  rw [if_pos ⟨rfl, q1⟩] at q
  by_cases hh : h = ⟨#[]⟩
  · rw [if_pos hh] at q
    cases q
    exact .inl ⟨hh, rfl⟩
  · rw [if_neg hh] at q
    obtain ⟨h1, h2⟩ := decE_some q
    exact .inr ⟨by rw [← str_bl h, h2]; rfl, h1⟩
theorem rdI_tail {hi : En} : ∀ {l : List ByteArray} {x : En} {ks : List (En × Int)}, rdI hi (some x) l = some ks → (x = noE ∨ x.ok = true) → l = ks.map (fun k => k.1.encS k.2) ∧ Rise (ks.map Prod.fst) ∧ (∀ k ∈ ks, k.1.ok = true ∧ blw hi k.1 = true ∧ okC k.2 = true ∧ x.lt k.1)
  | [], x, ks, h, _ => by
    rw [rdI] at h
    cases h
    exact ⟨rfl, List.Pairwise.nil, fun _ h => by cases h⟩
  | s :: l, x, ks, h, hx => by
    rw [rdI] at h
    cases hd : decS (bl s) with
    | none => rw [hd] at h; cases h
    | some kk =>
      obtain ⟨e, c⟩ := kk
      rw [hd] at h
      simp only [] at h
      split at h
      · rename_i hc
        cases hr : rdI hi (some e) l with
        | none => rw [hr] at h; cases h
        | some fs =>
          rw [hr] at h
          cases h
          obtain ⟨o1, o2, o3⟩ := decS_some hd
          have hc' : x.lt e ∧ blw hi e = true := by
            unfold okI at hc
            simpa using hc
          have ho : e.ok = true := by
            rcases En.sp_iff.1 o1 with z | z
            · rw [z] at hc'
              exact absurd hc'.1 (not_lt_noE (En.sp_iff.2 hx))
            · exact z
          obtain ⟨k1, k2, k3⟩ := rdI_tail hr (.inr ho)
          refine ⟨?_, ?_, ?_⟩
          · rw [List.map_cons, ← k1, show s = e.encS c by unfold En.encS; rw [← o3, str_bl]]
          · rw [List.map_cons]
            refine List.pairwise_cons.2 ⟨fun y hy => ?_, k2⟩
            obtain ⟨k, hk, rfl⟩ := List.mem_map.1 hy
            exact (k3 k hk).2.2.2
          · intro k hk
            rcases List.mem_cons.1 hk with rfl | hk
            · exact ⟨ho, hc'.2, o2, hc'.1⟩
            · obtain ⟨q1, q2, q3, q4⟩ := k3 k hk
              exact ⟨q1, q2, q3, En.lt_trans hc'.1 q4⟩
      · cases h
theorem rdI_some {hi : En} {l : List ByteArray} {ks : List (En × Int)} (h : rdI hi none l = some ks) (hl : ¬ l = []) : InIs hi l ks ∧ ∀ k ∈ ks.tail, noE.lt k.1 := by
  cases l with
  | nil => exact absurd rfl hl
  | cons s l =>
    rw [rdI] at h
    cases hd : decS (bl s) with
    | none => rw [hd] at h; cases h
    | some kk =>
      obtain ⟨e, c⟩ := kk
      rw [hd] at h
      simp only [] at h
      split at h
      · rename_i hc
        cases hr : rdI hi (some e) l with
        | none => rw [hr] at h; cases h
        | some fs =>
          rw [hr] at h
          cases h
          obtain ⟨o1, o2, o3⟩ := decS_some hd
          have he : e = noE := by
            unfold okI at hc
            simpa using hc
          subst he
          obtain ⟨k1, k2, k3⟩ := rdI_tail hr (.inl rfl)
          refine ⟨⟨?_, ?_, ⟨c, fs, rfl⟩, fun k hk => ⟨(k3 k hk).1, (k3 k hk).2.1⟩, ?_⟩, fun k hk => (k3 k hk).2.2.2⟩
          · rw [List.map_cons, ← k1, show s = noE.encS c by unfold En.encS; rw [← o3, str_bl]]
          · rw [List.map_cons]
            refine List.pairwise_cons.2 ⟨fun y hy => ?_, k2⟩
            obtain ⟨k, hk, rfl⟩ := List.mem_map.1 hy
            exact (k3 k hk).2.2.2
          · intro k hk
            rcases List.mem_cons.1 hk with rfl | hk
            · exact o2
            · exact (k3 k hk).2.2.1
      · cases h
/-- What node.Insert makes of a page. -/
def nIns (p : Pg) (e : En) : Pg × Int := match hdO p.kind p.level p.right p.high with
  | none => (.none, 140)
  | some hi => if p.level = 0 then match rdL hi noE p.items with
      | none => (.none, 140)
      | some es => if e.ok = true ∧ byd hi e = false ∧ e ∉ es then fitP ⟨p.lsn, p.kind, p.level, p.right, p.high, insI p.items es e⟩ else (.none, 140)
    else (.none, 140)
/-- What node.Remove makes of a page. -/
def nRem (p : Pg) (e : En) : Pg × Int := match hdO p.kind p.level p.right p.high with
  | none => (.none, 140)
  | some hi => if p.level = 0 then match rdL hi noE p.items with
      | none => (.none, 140)
      | some es => if e ∈ es then (⟨p.lsn, p.kind, p.level, p.right, p.high, p.items.take (plE es e) ++ p.items.drop (plE es e + 1)⟩, 0) else (.none, 140)
    else (.none, 140)
/-- What node.Post makes of a page. -/
def nPos (p : Pg) (e : En) (c : Int) : Pg × Int := match hdO p.kind p.level p.right p.high with
  | none => (.none, 140)
  | some hi => if p.level = 0 ∨ p.items = [] then (.none, 140) else match rdI hi none p.items with
      | none => (.none, 140)
      | some ks => if e.ok = true ∧ blw hi e = true ∧ okC c = true ∧ e ∉ ks.map Prod.fst then fitP ⟨p.lsn, p.kind, p.level, p.right, p.high, posI p.items ks e c⟩ else (.none, 140)
theorem minsert_any (w : World) (a k v r : Int) (h : ByteArray) (e : En) (B cp : Nat) (ao : Option Addr) (l : List ByteArray) (hS : Strs w B ao l) (hF : Fit ao l.length cp) (hl : l.length ≤ 8796093021952) :
    Calls Tryz.prog 121 #[.agg #[.int .i64 a, .int .i64 k, .int .i64 v, .int .i64 r, .string h, .slice ao l.length cp], e.agg] w fun x w' => Res w w' x (nIns ⟨a, k, v, r, h, l⟩ e).1 (nIns ⟨a, k, v, r, h, l⟩ e).2 := by
  unfold nIns
  dsimp only
  cases hH : hdO k v r h with
  | none => exact minsert_no w a k v r h e ao l.length cp (fun W _ => readLeaf_no W a k v r h ao l.length cp (.inl hH))
  | some hi =>
    by_cases hv : v = 0
    · obtain ⟨rfl, _⟩ := hdO_kind hH
      subst hv
      dsimp only
      rw [if_pos rfl]
      cases hes : rdL hi noE l with
      | none =>
        exact minsert_no w a 3 0 r h e ao l.length cp (fun W ho => by
          have q := readLeaf_all W a r h hi B cp ao l (hS.more ho) hH hl
          rw [hes] at q
          exact q)
      | some es =>
        have q := insert_big w a r h hi e B cp ao l es ⟨hS, hH, hdO_is hH, (rdL_some hes).1, hl⟩ hF
        refine q.mono ?_
        intro x w' hq
        dsimp only
        by_cases hc : e.ok = true ∧ byd hi e = false ∧ e ∉ es
        · rw [if_pos hc]
          exact Or3.fit (p := ⟨a, 3, 0, r, h, insI l es e⟩) (hq.good hc.1 hc.2.1 hc.2.2)
        · rw [if_neg hc]
          refine hq.bad ?_
          cases h1 : e.ok with
          | false => exact .inl rfl
          | true =>
            cases h2 : byd hi e with
            | true => exact .inr (.inl rfl)
            | false => exact .inr (.inr (Classical.byContradiction fun h3 => hc ⟨h1, h2, h3⟩))
    · dsimp only
      rw [if_neg hv]
      exact minsert_no w a k v r h e ao l.length cp (fun W _ => readLeaf_no W a k v r h ao l.length cp (.inr hv))
theorem mremove_any (w : World) (a k v r : Int) (h : ByteArray) (e : En) (B cp : Nat) (ao : Option Addr) (l : List ByteArray) (hS : Strs w B ao l) (hF : Fit ao l.length cp) (hl : l.length ≤ 8796093021952) :
    Calls Tryz.prog 124 #[.agg #[.int .i64 a, .int .i64 k, .int .i64 v, .int .i64 r, .string h, .slice ao l.length cp], e.agg] w fun x w' => Res w w' x (nRem ⟨a, k, v, r, h, l⟩ e).1 (nRem ⟨a, k, v, r, h, l⟩ e).2 := by
  unfold nRem
  dsimp only
  cases hH : hdO k v r h with
  | none => exact mremove_no w a k v r h e ao l.length cp (fun W _ => readLeaf_no W a k v r h ao l.length cp (.inl hH))
  | some hi =>
    by_cases hv : v = 0
    · obtain ⟨rfl, _⟩ := hdO_kind hH
      subst hv
      dsimp only
      rw [if_pos rfl]
      cases hes : rdL hi noE l with
      | none =>
        exact mremove_no w a 3 0 r h e ao l.length cp (fun W ho => by
          have q := readLeaf_all W a r h hi B cp ao l (hS.more ho) hH hl
          rw [hes] at q
          exact q)
      | some es =>
        have q := remove_big w a r h hi e B cp ao l es ⟨hS, hH, hdO_is hH, (rdL_some hes).1, hl⟩ hF
        refine q.mono ?_
        intro x w' hq
        dsimp only
        by_cases hc : e ∈ es
        · rw [if_pos hc]
          exact hq.good hc
        · rw [if_neg hc]
          exact hq.bad hc
    · dsimp only
      rw [if_neg hv]
      exact mremove_no w a k v r h e ao l.length cp (fun W _ => readLeaf_no W a k v r h ao l.length cp (.inr hv))
theorem mpost_any (w : World) (a k v r : Int) (h : ByteArray) (e : En) (c : Int) (B cp : Nat) (ao : Option Addr) (l : List ByteArray) (hS : Strs w B ao l) (hF : Fit ao l.length cp) (hl : l.length ≤ 8796093021952) :
    Calls Tryz.prog 123 #[.agg #[.int .i64 a, .int .i64 k, .int .i64 v, .int .i64 r, .string h, .slice ao l.length cp], e.agg, .int .i64 c] w fun x w' => Res w w' x (nPos ⟨a, k, v, r, h, l⟩ e c).1 (nPos ⟨a, k, v, r, h, l⟩ e c).2 := by
  unfold nPos
  dsimp only
  cases hH : hdO k v r h with
  | none => exact mpost_no w a k v r h e c ao l.length cp (fun W _ => readInner_no W a k v r h ao l.length cp (.inl hH))
  | some hi =>
    dsimp only
    by_cases hv : v = 0 ∨ l = []
    · rw [if_pos hv]
      exact mpost_no w a k v r h e c ao l.length cp (fun W _ => readInner_no W a k v r h ao l.length cp (.inr (hv.imp id (fun e => by rw [e]; rfl))))
    · rw [if_neg hv]
      obtain ⟨rfl, _⟩ := hdO_kind hH
      have hv0 : ¬ v = 0 := fun q => hv (.inl q)
      have hl0 : ¬ l = [] := fun q => hv (.inr q)
      cases hes : rdI hi none l with
      | none =>
        exact mpost_no w a 3 v r h e c ao l.length cp (fun W ho => by
          have q := readInner_all W a v r h hi B cp ao l (hS.more ho) hv0 hH hl (List.length_pos_iff.2 hl0)
          rw [hes] at q
          exact q)
      | some ks =>
        have q := post_big w a v r h hi e c B cp ao l ks ⟨hS, hv0, hH, hdO_is hH, (rdI_some hes hl0).1, hl⟩ hF
        refine q.mono ?_
        intro x w' hq
        dsimp only
        by_cases hc : e.ok = true ∧ blw hi e = true ∧ okC c = true ∧ e ∉ ks.map Prod.fst
        · rw [if_pos hc]
          exact Or3.fit (p := ⟨a, 3, v, r, h, posI l ks e c⟩) (hq.good hc.1 hc.2.1 hc.2.2.1 hc.2.2.2)
        · rw [if_neg hc]
          refine hq.bad ?_
          cases h1 : e.ok with
          | false => exact .inl rfl
          | true =>
            cases h2 : blw hi e with
            | false => exact .inr (.inl rfl)
            | true =>
              cases h3 : okC c with
              | false => exact .inr (.inr (.inl rfl))
              | true => exact .inr (.inr (.inr (Classical.byContradiction fun h4 => hc ⟨h1, h2, h3, h4⟩)))
/-- What an EntryOut makes of a page. -/
def lvP (p : Pg) (R : Rc) : Pg × Int := match decE (bl R.data) with
  | none => (.none, 140)
  | some e => nRem p e
/-- What an EntryIn makes of a page. -/
def enP (p : Pg) (R : Rc) : Pg × Int := if p.level = 0 then match decE (bl R.data) with
    | none => (.none, 140)
    | some e => nIns p e
  else match decS (bl R.data) with
    | none => (.none, 140)
    | some ec => nPos p ec.1 ec.2
set_option maxRecDepth 100000 in
set_option maxHeartbeats 3200000 in
theorem apleave_any (w : World) (a k v r : Int) (h : ByteArray) (base : Nat) (sl : Value) (l : List ByteArray) (hL : Ls w base sl l) (hsz : ∀ s ∈ l, s.size ≤ 140737488355328) (hln : l.length ≤ 8796093021952) (R : Rc) (L : Loc) :
    Calls Tryz.prog 76 #[.agg #[.int .i64 a, .int .i64 k, .int .i64 v, .int .i64 r, .string h, sl], .agg (R.cells L)] w fun e w' => DeR w w' sl e (lvP ⟨a, k, v, r, h, l⟩ R).1 (lvP ⟨a, k, v, r, h, l⟩ R).2 := by
  have HB := hide (boxR_new w a k v r h sl R L)
  have HOW : Hid (∀ j, sl.ownBlock = some j → j < w.heap.size) := fun j hj => (World.ownsRow.lt hL j hj).2
  unfold lvP
  cases hdc : decE (bl R.data) with
  | none =>
    dsimp only
    have HD : Hid (∀ W, Calls Tryz.prog 120 #[.string R.data] W fun e w' => e = .returned (.tuple #[.agg #[.string ⟨#[]⟩, .int .i64 0, .int .i64 0], .int .i64 140]) ∧ Only (fun _ => False) W w') := fun W => by
      have := decode_any R.data W
      rw [hdc] at this
      exact this
    go_enter Tryz.func76, Tryz.ntmps76
    go_upto_region 1 with fail
    obtain ⟨W0, hW0⟩ : ∃ x, boxR w a k v r h sl R L = x := ⟨_, rfl⟩
    rw [hW0] at HB
    unfold boxR at hW0
    rw [hW0]
    clear hW0
    have r10 := HB.out.rc.c10
    have p2 := HB.out.pag.c2
    go_wp2_with fail
    refine (HD.out _).mono ?_
    rintro x w1 ⟨rfl, ho⟩
    have HB2 := hide ((HB.out.more ho).more (onlyA w1 (.cells #[.string ⟨#[]⟩, .int .i64 0, .int .i64 0] 74)))
    clear ho r10 p2 HB HD
    go_upto_region 2 with fail
    obtain ⟨w2, hw2⟩ : ∃ x, w1.alloc (.cells #[.string ⟨#[]⟩, .int .i64 0, .int .i64 0] 74) = x := ⟨_, rfl⟩
    rw [hw2] at HB2 ⊢
    clear hw2
    obtain ⟨q0, q1, q2, q3, q4, q5, g0, g1, g2, g3, g4, g5, ql⟩ := HB2.out.res
    go_wp2_with fail
    refine bodyPost_ret (results_page rfl rfl (Pag.six HB2.out.res _ _ _ _ _ _)) rfl ?_
    exact deR_none _ 140 (((HB2.out.only.mono (fun _ _ h => h.elim)).trans (Only.six _ (w.heap.size + 1 + 1) _ _ _ _ _ _) (fun i hi e => by omega)))
  | some e =>
    dsimp only
    have HD : Hid (∀ W, Calls Tryz.prog 120 #[.string R.data] W fun x w' => x = .returned (.tuple #[.agg #[.string e.key, .int .i64 e.page, .int .i64 e.slot], .int .i64 0]) ∧ Only (fun _ => False) W w') := fun W => by
      have := decode_any R.data W
      rw [hdc] at this
      exact this
    obtain ⟨B, ao, cp, hsl, hS, hF, _, _⟩ := hL.strs (by omega) hsz
    have HRM : Hid (∀ W, Only (fun _ => False) w W → Calls Tryz.prog 124 #[.agg #[.int .i64 a, .int .i64 k, .int .i64 v, .int .i64 r, .string h, .slice ao l.length cp], .agg #[.string e.key, .int .i64 e.page, .int .i64 e.slot]] W fun x w' => DeR W w' sl x (nRem ⟨a, k, v, r, h, l⟩ e).1 (nRem ⟨a, k, v, r, h, l⟩ e).2) := fun W ho => (mremove_any W a k v r h e B cp ao l (hS.more ho) hF hln).mono (fun x w' hq => DeR.res sl hq)
    obtain ⟨P, hP⟩ : ∃ P, (nRem ⟨a, k, v, r, h, l⟩ e) = P := ⟨_, rfl⟩
    rw [hP] at HRM ⊢
    clear hP hdc hS hF hL hsz hln
    subst hsl
    go_enter Tryz.func76, Tryz.ntmps76
    go_upto_region 1 with fail
    obtain ⟨W0, hW0⟩ : ∃ x, boxR w a k v r h (.slice ao l.length cp) R L = x := ⟨_, rfl⟩
    rw [hW0] at HB
    unfold boxR at hW0
    rw [hW0]
    clear hW0
    have r10 := HB.out.rc.c10
    have p2 := HB.out.pag.c2
    go_wp2_with fail
    refine (HD.out _).mono ?_
    rintro x w1 ⟨rfl, ho⟩
    have HB2 := hide ((HB.out.more ho).more (onlyA w1 (.cells #[.string e.key, .int .i64 e.page, .int .i64 e.slot] 74)))
    have HE2 := hide (Ev.new w1 e)
    clear ho r10 p2 HB HD
    go_upto_region 2 with fail
    obtain ⟨eb, heb⟩ : ∃ b, w1.heap.size = b := ⟨_, rfl⟩
    rw [heb] at HE2 ⊢
    clear heb
    obtain ⟨w2, hw2⟩ : ∃ x, w1.alloc (.cells #[.string e.key, .int .i64 e.page, .int .i64 e.slot] 74) = x := ⟨_, rfl⟩
    rw [hw2] at HB2 HE2 ⊢
    clear hw2
    obtain ⟨p0, p1, p2, p3, p4, p5, _⟩ := HB2.out.pag
    obtain ⟨d0, d1, d2, _⟩ := HE2.out
    go_wp2_with fail
    refine (HRM.out _ HB2.out.only).mono ?_
    clear p0 p1 p2 p3 p4 p5 d0 d1 d2
    rintro e w9 hd
    have HD := hide hd
    obtain ⟨B3, ao3, cp3, rfl, _, _, ho3, _⟩ := hd
    have HQ := hide (HB2.out.res.kept ho3 (fun q => by have := HOW.out _ q; omega))
    obtain ⟨q0, q1, q2, q3, q4, q5, g0, g1, g2, g3, g4, g5, ql⟩ := HQ.out
    have hlt := HB2.out.res.lt
    clear ho3
    go_wp2_with fail
    refine bodyPost_ret (results_page rfl rfl (Pag.six HQ.out _ _ _ _ _ _)) rfl ?_
    exact deR_six HB2.out.only HD.out HOW.out _ (by omega) hlt _ _ _ _ _ _
set_option maxRecDepth 100000 in
set_option maxHeartbeats 3200000 in
theorem apenter_any (w : World) (a k v r : Int) (h : ByteArray) (base : Nat) (sl : Value) (l : List ByteArray) (hL : Ls w base sl l) (hsz : ∀ s ∈ l, s.size ≤ 140737488355328) (hln : l.length ≤ 8796093021952) (R : Rc) (L : Loc) :
    Calls Tryz.prog 75 #[.agg #[.int .i64 a, .int .i64 k, .int .i64 v, .int .i64 r, .string h, sl], .agg (R.cells L)] w fun e w' => DeR w w' sl e (enP ⟨a, k, v, r, h, l⟩ R).1 (enP ⟨a, k, v, r, h, l⟩ R).2 := by
  have HB := hide (boxR_new w a k v r h sl R L)
  have HOW : Hid (∀ j, sl.ownBlock = some j → j < w.heap.size) := fun j hj => (World.ownsRow.lt hL j hj).2
  unfold enP
  dsimp only
  by_cases hv : v = 0
  · subst hv
    rw [if_pos rfl]
    cases hdc : decE (bl R.data) with
    | none =>
      dsimp only
      have HD : Hid (∀ W, Calls Tryz.prog 120 #[.string R.data] W fun e w' => e = .returned (.tuple #[.agg #[.string ⟨#[]⟩, .int .i64 0, .int .i64 0], .int .i64 140]) ∧ Only (fun _ => False) W w') := fun W => by
        have := decode_any R.data W
        rw [hdc] at this
        exact this
      go_enter Tryz.func75, Tryz.ntmps75
      go_upto_region 1 with fail
      obtain ⟨W0, hW0⟩ : ∃ x, boxR w a k 0 r h sl R L = x := ⟨_, rfl⟩
      rw [hW0] at HB
      unfold boxR at hW0
      rw [hW0]
      clear hW0
      have r10 := HB.out.rc.c10
      have p2 := HB.out.pag.c2
      go_wp2_with fail
      refine (HD.out _).mono ?_
      rintro x w1 ⟨rfl, ho⟩
      have HB2 := hide ((HB.out.more ho).more (onlyA w1 (.cells #[.string ⟨#[]⟩, .int .i64 0, .int .i64 0] 74)))
      clear ho r10 p2 HB HD
      go_upto_region 3 with fail
      obtain ⟨w2, hw2⟩ : ∃ x, w1.alloc (.cells #[.string ⟨#[]⟩, .int .i64 0, .int .i64 0] 74) = x := ⟨_, rfl⟩
      rw [hw2] at HB2 ⊢
      clear hw2
      obtain ⟨q0, q1, q2, q3, q4, q5, g0, g1, g2, g3, g4, g5, ql⟩ := HB2.out.res
      go_wp2_with fail
      refine bodyPost_ret (results_page rfl rfl (Pag.six HB2.out.res _ _ _ _ _ _)) rfl ?_
      exact deR_none _ 140 (((HB2.out.only.mono (fun _ _ h => h.elim)).trans (Only.six _ (w.heap.size + 1 + 1) _ _ _ _ _ _) (fun i hi e => by omega)))
    | some e =>
      dsimp only
      have HD : Hid (∀ W, Calls Tryz.prog 120 #[.string R.data] W fun x w' => x = .returned (.tuple #[.agg #[.string e.key, .int .i64 e.page, .int .i64 e.slot], .int .i64 0]) ∧ Only (fun _ => False) W w') := fun W => by
        have := decode_any R.data W
        rw [hdc] at this
        exact this
      obtain ⟨B, ao, cp, hsl, hS, hF, _, _⟩ := hL.strs (by omega) hsz
      have HRM : Hid (∀ W, Only (fun _ => False) w W → Calls Tryz.prog 121 #[.agg #[.int .i64 a, .int .i64 k, .int .i64 0, .int .i64 r, .string h, .slice ao l.length cp], .agg #[.string e.key, .int .i64 e.page, .int .i64 e.slot]] W fun x w' => DeR W w' sl x (nIns ⟨a, k, 0, r, h, l⟩ e).1 (nIns ⟨a, k, 0, r, h, l⟩ e).2) := fun W ho => (minsert_any W a k 0 r h e B cp ao l (hS.more ho) hF hln).mono (fun x w' hq => DeR.res sl hq)
      obtain ⟨P, hP⟩ : ∃ P, (nIns ⟨a, k, 0, r, h, l⟩ e) = P := ⟨_, rfl⟩
      rw [hP] at HRM ⊢
      clear hP hdc hS hF hL hsz hln
      subst hsl
      go_enter Tryz.func75, Tryz.ntmps75
      go_upto_region 1 with fail
      obtain ⟨W0, hW0⟩ : ∃ x, boxR w a k 0 r h (.slice ao l.length cp) R L = x := ⟨_, rfl⟩
      rw [hW0] at HB
      unfold boxR at hW0
      rw [hW0]
      clear hW0
      have r10 := HB.out.rc.c10
      have p2 := HB.out.pag.c2
      go_wp2_with fail
      refine (HD.out _).mono ?_
      rintro x w1 ⟨rfl, ho⟩
      have HB2 := hide ((HB.out.more ho).more (onlyA w1 (.cells #[.string e.key, .int .i64 e.page, .int .i64 e.slot] 74)))
      have HE2 := hide (Ev.new w1 e)
      clear ho r10 p2 HB HD
      go_upto_region 3 with fail
      obtain ⟨eb, heb⟩ : ∃ b, w1.heap.size = b := ⟨_, rfl⟩
      rw [heb] at HE2 ⊢
      clear heb
      obtain ⟨w2, hw2⟩ : ∃ x, w1.alloc (.cells #[.string e.key, .int .i64 e.page, .int .i64 e.slot] 74) = x := ⟨_, rfl⟩
      rw [hw2] at HB2 HE2 ⊢
      clear hw2
      obtain ⟨p0, p1, p2, p3, p4, p5, _⟩ := HB2.out.pag
      obtain ⟨d0, d1, d2, _⟩ := HE2.out
      go_wp2_with fail
      refine (HRM.out _ HB2.out.only).mono ?_
      clear p0 p1 p2 p3 p4 p5 d0 d1 d2
      rintro e w9 hd
      have HD := hide hd
      obtain ⟨B3, ao3, cp3, rfl, _, _, ho3, _⟩ := hd
      have HQ := hide (HB2.out.res.kept ho3 (fun q => by have := HOW.out _ q; omega))
      obtain ⟨q0, q1, q2, q3, q4, q5, g0, g1, g2, g3, g4, g5, ql⟩ := HQ.out
      have hlt := HB2.out.res.lt
      clear ho3
      go_wp2_with fail
      refine bodyPost_ret (results_page rfl rfl (Pag.six HQ.out _ _ _ _ _ _)) rfl ?_
      exact deR_six HB2.out.only HD.out HOW.out _ (by omega) hlt _ _ _ _ _ _
  · rw [if_neg hv]
    have hvb : (v == 0) = false := by simpa using hv
    clear hv
    cases hdc : decS (bl R.data) with
    | none =>
      dsimp only
      have HD : Hid (∀ W, Calls Tryz.prog 122 #[.string R.data] W fun e w' => e = .returned (.tuple #[.agg #[.string ⟨#[]⟩, .int .i64 0, .int .i64 0], .int .i64 0, .int .i64 140]) ∧ Only (fun _ => False) W w') := fun W => by
        have := unsep_any R.data W
        rw [hdc] at this
        exact this
      go_enter Tryz.func75, Tryz.ntmps75
      go_upto_region 1 with fail
      obtain ⟨W0, hW0⟩ : ∃ x, boxR w a k v r h sl R L = x := ⟨_, rfl⟩
      rw [hW0] at HB
      unfold boxR at hW0
      rw [hW0]
      clear hW0
      have r10 := HB.out.rc.c10
      have p2 := HB.out.pag.c2
      go_wp2_with fail
      refine (HD.out _).mono ?_
      rintro x w1 ⟨rfl, ho⟩
      have HB2 := hide ((HB.out.more ho).more (onlyA w1 (.cells #[.string ⟨#[]⟩, .int .i64 0, .int .i64 0] 74)))
      clear ho r10 p2 HB HD
      go_upto_region 7 with fail
      obtain ⟨w2, hw2⟩ : ∃ x, w1.alloc (.cells #[.string ⟨#[]⟩, .int .i64 0, .int .i64 0] 74) = x := ⟨_, rfl⟩
      rw [hw2] at HB2 ⊢
      clear hw2
      obtain ⟨q0, q1, q2, q3, q4, q5, g0, g1, g2, g3, g4, g5, ql⟩ := HB2.out.res
      go_wp2_with fail
      refine bodyPost_ret (results_page rfl rfl (Pag.six HB2.out.res _ _ _ _ _ _)) rfl ?_
      exact deR_none _ 140 (((HB2.out.only.mono (fun _ _ h => h.elim)).trans (Only.six _ (w.heap.size + 1 + 1) _ _ _ _ _ _) (fun i hi e => by omega)))
    | some ec =>
      obtain ⟨e, c⟩ := ec
      dsimp only
      have HD : Hid (∀ W, Calls Tryz.prog 122 #[.string R.data] W fun x w' => x = .returned (.tuple #[.agg #[.string e.key, .int .i64 e.page, .int .i64 e.slot], .int .i64 c, .int .i64 0]) ∧ Only (fun _ => False) W w') := fun W => by
        have := unsep_any R.data W
        rw [hdc] at this
        exact this
      obtain ⟨B, ao, cp, hsl, hS, hF, _, _⟩ := hL.strs (by omega) hsz
      have HRM : Hid (∀ W, Only (fun _ => False) w W → Calls Tryz.prog 123 #[.agg #[.int .i64 a, .int .i64 k, .int .i64 v, .int .i64 r, .string h, .slice ao l.length cp], .agg #[.string e.key, .int .i64 e.page, .int .i64 e.slot], .int .i64 c] W fun x w' => DeR W w' sl x (nPos ⟨a, k, v, r, h, l⟩ e c).1 (nPos ⟨a, k, v, r, h, l⟩ e c).2) := fun W ho => (mpost_any W a k v r h e c B cp ao l (hS.more ho) hF hln).mono (fun x w' hq => DeR.res sl hq)
      obtain ⟨P, hP⟩ : ∃ P, (nPos ⟨a, k, v, r, h, l⟩ e c) = P := ⟨_, rfl⟩
      rw [hP] at HRM ⊢
      clear hP hdc hS hF hL hsz hln
      subst hsl
      go_enter Tryz.func75, Tryz.ntmps75
      go_upto_region 1 with fail
      obtain ⟨W0, hW0⟩ : ∃ x, boxR w a k v r h (.slice ao l.length cp) R L = x := ⟨_, rfl⟩
      rw [hW0] at HB
      unfold boxR at hW0
      rw [hW0]
      clear hW0
      have r10 := HB.out.rc.c10
      have p2 := HB.out.pag.c2
      go_wp2_with fail
      refine (HD.out _).mono ?_
      rintro x w1 ⟨rfl, ho⟩
      have HB2 := hide ((HB.out.more ho).more (onlyA w1 (.cells #[.string e.key, .int .i64 e.page, .int .i64 e.slot] 74)))
      have HE2 := hide (Ev.new w1 e)
      clear ho r10 p2 HB HD
      go_upto_region 7 with fail
      obtain ⟨eb, heb⟩ : ∃ b, w1.heap.size = b := ⟨_, rfl⟩
      rw [heb] at HE2 ⊢
      clear heb
      obtain ⟨w2, hw2⟩ : ∃ x, w1.alloc (.cells #[.string e.key, .int .i64 e.page, .int .i64 e.slot] 74) = x := ⟨_, rfl⟩
      rw [hw2] at HB2 HE2 ⊢
      clear hw2
      obtain ⟨p0, p1, p2, p3, p4, p5, _⟩ := HB2.out.pag
      obtain ⟨d0, d1, d2, _⟩ := HE2.out
      go_wp2_with fail
      refine (HRM.out _ HB2.out.only).mono ?_
      clear p0 p1 p2 p3 p4 p5 d0 d1 d2
      rintro e w9 hd
      have HD := hide hd
      obtain ⟨B3, ao3, cp3, rfl, _, _, ho3, _⟩ := hd
      have HQ := hide (HB2.out.res.kept ho3 (fun q => by have := HOW.out _ q; omega))
      obtain ⟨q0, q1, q2, q3, q4, q5, g0, g1, g2, g3, g4, g5, ql⟩ := HQ.out
      have hlt := HB2.out.res.lt
      clear ho3
      go_wp2_with fail
      refine bodyPost_ret (results_page rfl rfl (Pag.six HQ.out _ _ _ _ _ _)) rfl ?_
      exact deR_six HB2.out.only HD.out HOW.out _ (by omega) hlt _ _ _ _ _ _
set_option maxRecDepth 100000 in
set_option maxHeartbeats 3200000 in
theorem apended1_any (w : World) (a k v r : Int) (h : ByteArray) (base : Nat) (sl : Value) (l : List ByteArray) (hL : Ls w base sl l) (hsz : ∀ s ∈ l, s.size ≤ 140737488355328) (hln : l.length ≤ 8796093021952) (R : Rc) (L : Loc) (m : Int) (b sb s : Nat) (hb : One w b (.int .i64 m)) (hs : One w sb (.int .u8 (s : Int))) (hs4 : s < 256) (hm : I64 m) (hx : I64 R.xid) :
    Calls Tryz.prog 71 #[.agg #[.int .i64 a, .int .i64 k, .int .i64 v, .int .i64 r, .string h, sl], .agg (R.cells L), .pointer (some ⟨b, 0, none⟩), .pointer (some ⟨sb, 0, none⟩)] w fun e w' => DeR w w' sl e (setR m ⟨a, k, v, r, h, l⟩ R.xid s) (setC m ⟨a, k, v, r, h, l⟩ R.xid s) := by
  have HB := hide (boxR_new w a k v r h sl R L)
  have HOW : Hid (∀ j, sl.ownBlock = some j → j < w.heap.size) := fun j hj => (World.ownsRow.lt hL j hj).2
  obtain ⟨B, ao, cp, hsl, hS, hF, _, _⟩ := hL.strs (by omega) hsz
  have HRM : Hid (∀ W, Only (fun _ => False) w W → Calls Tryz.prog 18 #[.int .i64 m, .agg #[.int .i64 a, .int .i64 k, .int .i64 v, .int .i64 r, .string h, .slice ao l.length cp], .int .i64 R.xid, .int .u8 (s : Int)] W fun x w' => DeR W w' sl x (setR m ⟨a, k, v, r, h, l⟩ R.xid s) (setC m ⟨a, k, v, r, h, l⟩ R.xid s)) := fun W ho => (cset_any W m a k v r R.xid h cp B ao l s hm hx (hS.more ho) hs4).mono (fun x w' hq => DeR.res sl hq)
  obtain ⟨P, hP⟩ : ∃ P, (setR m ⟨a, k, v, r, h, l⟩ R.xid s) = P := ⟨_, rfl⟩
  obtain ⟨C, hC⟩ : ∃ C, (setC m ⟨a, k, v, r, h, l⟩ R.xid s) = C := ⟨_, rfl⟩
  rw [hP, hC] at HRM ⊢
  clear hP hC hS hF hL hsz hln hm hx
  subst hsl
  go_enter Tryz.func71, Tryz.ntmps71
  go_upto_region 1 with fail
  obtain ⟨W0, hW0⟩ : ∃ x, boxR w a k v r h (.slice ao l.length cp) R L = x := ⟨_, rfl⟩
  rw [hW0] at HB
  unfold boxR at hW0
  rw [hW0]
  clear hW0
  obtain ⟨p0, p1, p2, p3, p4, p5, _⟩ := HB.out.pag
  have r4 := HB.out.rc.c4
  have d1 := (hb.more HB.out.only).c
  have d2 := (hs.more HB.out.only).c
  go_wp2_with fail
  refine (HRM.out _ HB.out.only).mono ?_
  clear p0 p1 p2 p3 p4 p5
  rintro e w9 hd
  have HD := hide hd
  obtain ⟨B3, ao3, cp3, rfl, _, _, ho3, _⟩ := hd
  have HQ := hide (HB.out.res.kept ho3 (fun q => by have := HOW.out _ q; omega))
  obtain ⟨q0, q1, q2, q3, q4, q5, g0, g1, g2, g3, g4, g5, ql⟩ := HQ.out
  have hlt := HB.out.res.lt
  clear ho3
  go_wp2_with fail
  refine bodyPost_ret (results_page rfl rfl (Pag.six HQ.out _ _ _ _ _ _)) rfl ?_
  exact deR_six HB.out.only HD.out HOW.out _ (by omega) hlt _ _ _ _ _ _
set_option maxRecDepth 100000 in
set_option maxHeartbeats 3200000 in
theorem apcut1_any (w : World) (a k v r : Int) (h : ByteArray) (base : Nat) (sl : Value) (l : List ByteArray) (hL : Ls w base sl l) (hsz : ∀ s ∈ l, s.size ≤ 140737488355328) (hln : l.length ≤ 8796093021952) (R : Rc) (L : Loc) (m : Int) (b : Nat) (hb : One w b (.int .i64 m)) (hm : I64 m) (hx : I64 R.new) :
    Calls Tryz.prog 79 #[.agg #[.int .i64 a, .int .i64 k, .int .i64 v, .int .i64 r, .string h, sl], .agg (R.cells L), .pointer (some ⟨b, 0, none⟩)] w fun e w' => DeR w w' sl e (cutR m ⟨a, k, v, r, h, l⟩ R.new) (cid m ⟨a, k, v, r, h, l⟩ R.new) := by
  have HB := hide (boxR_new w a k v r h sl R L)
  have HOW : Hid (∀ j, sl.ownBlock = some j → j < w.heap.size) := fun j hj => (World.ownsRow.lt hL j hj).2
  obtain ⟨B, ao, cp, hsl, hS, hF, _, _⟩ := hL.strs (by omega) hsz
  have HRM : Hid (∀ W, Only (fun _ => False) w W → Calls Tryz.prog 80 #[.int .i64 m, .agg #[.int .i64 a, .int .i64 k, .int .i64 v, .int .i64 r, .string h, .slice ao l.length cp], .int .i64 R.new] W fun x w' => DeR W w' sl x (cutR m ⟨a, k, v, r, h, l⟩ R.new) (cid m ⟨a, k, v, r, h, l⟩ R.new)) := fun W ho => (ccut_any W m a k v r R.new h cp B ao l hm hx (hS.more ho)).mono (fun x w' hq => DeR.res sl hq)
  obtain ⟨P, hP⟩ : ∃ P, (cutR m ⟨a, k, v, r, h, l⟩ R.new) = P := ⟨_, rfl⟩
  obtain ⟨C, hC⟩ : ∃ C, (cid m ⟨a, k, v, r, h, l⟩ R.new) = C := ⟨_, rfl⟩
  rw [hP, hC] at HRM ⊢
  clear hP hC hS hF hL hsz hln hm hx
  subst hsl
  go_enter Tryz.func79, Tryz.ntmps79
  go_upto_region 1 with fail
  obtain ⟨W0, hW0⟩ : ∃ x, boxR w a k v r h (.slice ao l.length cp) R L = x := ⟨_, rfl⟩
  rw [hW0] at HB
  unfold boxR at hW0
  rw [hW0]
  clear hW0
  obtain ⟨p0, p1, p2, p3, p4, p5, _⟩ := HB.out.pag
  have r8 := HB.out.rc.c8
  have d1 := (hb.more HB.out.only).c
  go_wp2_with fail
  refine (HRM.out _ HB.out.only).mono ?_
  clear p0 p1 p2 p3 p4 p5
  rintro e w9 hd
  have HD := hide hd
  obtain ⟨B3, ao3, cp3, rfl, _, _, ho3, _⟩ := hd
  have HQ := hide (HB.out.res.kept ho3 (fun q => by have := HOW.out _ q; omega))
  obtain ⟨q0, q1, q2, q3, q4, q5, g0, g1, g2, g3, g4, g5, ql⟩ := HQ.out
  have hlt := HB.out.res.lt
  clear ho3
  go_wp2_with fail
  refine bodyPost_ret (results_page rfl rfl (Pag.six HQ.out _ _ _ _ _ _)) rfl ?_
  exact deR_six HB.out.only HD.out HOW.out _ (by omega) hlt _ _ _ _ _ _
end Go.Proofs.YtpnbhddmdfcjdaaGreat
