/- Parts. -/
import Derived.Test.YtpnbhddmdfcjdaaGreatK33
set_option maxRecDepth 100000
namespace Go.Proofs.YtpnbhddmdfcjdaaGreat
open Go.RowKit
/-- Each slot is where it belongs. -/
theorem wkN_all (V : Vw) (h pg : Int) (l : List ByteArray) : ∀ k, k ≤ l.length → ∀ (j : Nat) (hj : j < l.length), j < k →
    (gnS V h l[j] = true → (⟨keyB l[j], pg, j⟩ : En) ∈ (wkN V h pg l k).gn) ∧ (gnS V h l[j] = false → fzS V h l[j] = true → (j : Int) ∈ (wkN V h pg l k).fr) ∧ (gnS V h l[j] = false → ofS V l[j] = true → (j : Int) ∈ (wkN V h pg l k).of) := by
  intro k
  induction k with
  | zero => intro _ j _ hk; omega
  | succ k ih =>
    intro hk j hj hjk
    have hkl : k < l.length := by omega
    rw [wkN_step hkl]
    by_cases e : j = k
    · subst e
      unfold Wk.step
      refine ⟨fun hg => ?_, fun hg hf => ?_, fun hg ho => ?_⟩
      · rw [if_pos hg]
        exact List.mem_append.2 (.inr (List.mem_singleton.2 rfl))
      · rw [if_neg (by rw [hg]; decide)]
        simp only [hf, if_true]
        exact List.mem_append.2 (.inr (List.mem_singleton.2 rfl))
      · rw [if_neg (by rw [hg]; decide)]
        simp only [ho, if_true]
        exact List.mem_append.2 (.inr (List.mem_singleton.2 rfl))
    · obtain ⟨h1, h2, h3⟩ := ih (by omega) j hj (by omega)
      unfold Wk.step
      split
      · exact ⟨fun hg => List.mem_append.2 (.inl (h1 hg)), h2, h3⟩
      · refine ⟨h1, fun hg hf => ?_, fun hg ho => ?_⟩
        · show (j : Int) ∈ (if _ then _ else _ : List Int)
          split
          · exact List.mem_append.2 (.inl (h2 hg hf))
          · exact h2 hg hf
        · show (j : Int) ∈ (if _ then _ else _ : List Int)
          split
          · exact List.mem_append.2 (.inl (h3 hg ho))
          · exact h3 hg ho
/-- Nothing is found where nothing is to be done. -/
theorem wkN_none {V : Vw} {h pg : Int} {l : List ByteArray} (hn : ∀ (j : Nat) (hj : j < l.length), gnS V h l[j] = false ∧ fzS V h l[j] = false ∧ ofS V l[j] = false) : ∀ k, wkN V h pg l k = ⟨[], [], []⟩ := by
  intro k
  induction k with
  | zero => rfl
  | succ k ih =>
    by_cases hk : k < l.length
    · rw [wkN_step hk, ih]
      obtain ⟨h1, h2, h3⟩ := hn k hk
      unfold Wk.step
      rw [h1, h2, h3]
      rfl
    · rw [wkN, dif_neg hk, ih]
theorem Wk.step_ng {V : Vw} {h pg : Int} {K : Wk} {i : Nat} {s : ByteArray} (hg : gnS V h s = false) : K.step V h pg i s = ⟨if fzS V h s = true then K.fr ++ [(i : Int)] else K.fr, if ofS V s = true then K.of ++ [(i : Int)] else K.of, K.gn⟩ := by
  unfold Wk.step
  rw [if_neg (by rw [hg]; decide)]
/-- The same is gone, and nothing else is found. -/
theorem wkN_gone {V : Vw} {h pg : Int} {l m : List ByteArray} (hl : m.length = l.length) (hg : ∀ (j : Nat) (hj : j < l.length) (hm : j < m.length), (gnS V h l[j] = true → m[j] = l[j]) ∧ (gnS V h l[j] = false → gnS V h m[j] = false ∧ fzS V h m[j] = false ∧ ofS V m[j] = false)) : ∀ k, wkN V h pg m k = ⟨[], [], (wkN V h pg l k).gn⟩ := by
  intro k
  induction k with
  | zero => rfl
  | succ k ih =>
    by_cases hk : k < l.length
    · rw [wkN_step (by omega : k < m.length), wkN_step hk, ih]
      obtain ⟨h1, h2⟩ := hg k hk (by omega)
      cases q : gnS V h l[k] with
      | true =>
        have e := h1 q
        unfold Wk.step
        rw [if_pos (by rw [e]; exact q), if_pos q, e]
      | false =>
        obtain ⟨a, b, c⟩ := h2 q
        rw [Wk.step_ng a, Wk.step_ng q, b, c]
        rfl
    · rw [wkN, dif_neg (by omega), wkN, dif_neg hk, ih]
theorem ok_set (l : List ByteArray) (i : Nat) (s : ByteArray) : (l.set i s).length = l.length := List.length_set
/-- The versions in slots that are each another one. -/
theorem chgL_spec (f : Chg) : ∀ (ss : List Int) (l : List ByteArray), ss.Nodup → (∀ s ∈ ss, ∃ (j : Nat) (hj : j < l.length), s = (j : Int) ∧ ∃ t, decT (bl l[j]) = some t ∧ (f t).2 = 0) →
    ∃ m : List ByteArray, chgL f ss l = (m, 0) ∧ m.length = l.length ∧ ∀ (j : Nat) (hj : j < l.length) (hm : j < m.length), ((j : Int) ∈ ss → ∀ t, decT (bl l[j]) = some t → m[j] = (f t).1) ∧ ((j : Int) ∉ ss → m[j] = l[j]) := by
  intro ss
  induction ss with
  | nil => exact fun l _ _ => ⟨l, rfl, rfl, fun j hj hm => ⟨(fun q => by cases q), fun _ => rfl⟩⟩
  | cons s ss ih =>
    intro l hnd hs
    obtain ⟨i, hi, rfl, t, ht, hf⟩ := hs s (List.mem_cons_self ..)
    have hnd' := List.nodup_cons.1 hnd
    obtain ⟨m, h1, h2, h3⟩ := ih (l.set i (f t).1) hnd'.2 (fun s' hs' => by
      obtain ⟨j, hj, e, t', ht', hf'⟩ := hs s' (List.mem_cons_of_mem _ hs')
      have hne : j ≠ i := fun q => hnd'.1 (by rw [← q, ← e]; exact hs')
      refine ⟨j, by rw [ok_set]; exact hj, e, t', ?_, hf'⟩
      rw [List.getElem_set_ne (Ne.symm hne)]
      exact ht')
    refine ⟨m, ?_, by rw [h2, ok_set], fun j hj hm => ?_⟩
    · rw [chgL_cons, if_pos (okS_iff.2 ⟨by omega, by omega⟩), itS_at hi]
      simp only [ht, hf, if_true]
      have e : (i : Int).toNat = i := by omega
      rw [e]
      exact h1
    · obtain ⟨k1, k2⟩ := h3 j (by rw [ok_set]; exact hj) hm
      refine ⟨fun q t' ht' => ?_, fun q => ?_⟩
      · rcases List.mem_cons.1 q with e | q2
        · have e : j = i := by omega
          subst e
          rw [k2 hnd'.1, List.getElem_set_self]
          rw [ht] at ht'
          injection ht' with ht'
          rw [ht']
        · by_cases e : j = i
          · subst e
            exact absurd q2 hnd'.1
          · have := k1 q2 t' (by rw [List.getElem_set_ne (Ne.symm e)]; exact ht')
            exact this
      · have hne : i ≠ j := fun e => q (by rw [← e]; exact List.mem_cons_self ..)
        rw [k2 (fun z => q (List.mem_cons_of_mem _ z)), List.getElem_set_ne hne]
theorem clnL_spec : ∀ (ss : List Int) (l : List ByteArray), (∀ s ∈ ss, ∃ (j : Nat), j < l.length ∧ s = (j : Int)) →
    ∃ m : List ByteArray, clnL ss l = (m, 0) ∧ m.length = l.length ∧ ∀ (j : Nat) (hj : j < l.length) (hm : j < m.length), m[j] = ⟨#[]⟩ ∨ ((j : Int) ∉ ss ∧ m[j] = l[j]) := by
  intro ss
  induction ss with
  | nil => exact fun l _ => ⟨l, rfl, rfl, fun j hj hm => .inr ⟨by simp, rfl⟩⟩
  | cons s ss ih =>
    intro l hs
    obtain ⟨i, hi, rfl⟩ := hs s (List.mem_cons_self ..)
    obtain ⟨m, h1, h2, h3⟩ := ih (l.set i ⟨#[]⟩) (fun s' hs' => by
      obtain ⟨j, hj, e⟩ := hs s' (List.mem_cons_of_mem _ hs')
      exact ⟨j, by rw [ok_set]; exact hj, e⟩)
    refine ⟨m, ?_, by rw [h2, ok_set], fun j hj hm => ?_⟩
    · rw [clnL, if_pos (okS_iff.2 ⟨by omega, by omega⟩)]
      have e : (i : Int).toNat = i := by omega
      rw [e]
      exact h1
    · rcases h3 j (by rw [ok_set]; exact hj) hm with q | ⟨q, r⟩
      · exact .inl q
      · by_cases e : j = i
        · subst e
          rw [List.getElem_set_self] at r
          exact .inl r
        · rw [List.getElem_set_ne (Ne.symm e)] at r
          exact .inr ⟨fun z => by
            rcases List.mem_cons.1 z with z | z
            · omega
            · exact q z, r⟩
theorem nodup_of_rise {L : List Int} (h : ∀ (i j : Nat) (hj : j < L.length) (hij : i < j), (L[i]'(by omega)) < L[j]) : L.Nodup := by
  rw [List.nodup_iff_pairwise_ne, List.pairwise_iff_getElem]
  intro i j hi hj hij
  have := h i j hj hij
  omega
theorem decT_str {t : Tu} (h : t.ok = true) : decT (bl (str t.out)) = some t := by
  rw [bl_str]
  unfold Tu.out
  rw [if_pos h]
  exact dec_encT h
theorem free_no (V : Vw) (h : Int) : gnS V h ⟨#[]⟩ = false ∧ fzS V h ⟨#[]⟩ = false ∧ ofS V ⟨#[]⟩ = false := by
  have e : decT (bl ⟨#[]⟩) = none := by decide
  have s : (stT (bl ⟨#[]⟩) == 2) = false := by decide
  unfold gnS fzS ofS
  rw [e, s]
  exact ⟨rfl, rfl, rfl⟩
/-- What freezing and taking off leave. -/
theorem frz_done {V : Vw} {h pg : Int} {l : List ByteArray} {K : Wk} (hK : wkN V h pg l l.length = K) : ∃ m : List ByteArray,
    chgL cgF K.fr l = ((chgL cgF K.fr l).1, 0) ∧ chgL cgX K.of (chgL cgF K.fr l).1 = (m, 0) ∧ m.length = l.length ∧ wkN V h pg m m.length = ⟨[], [], K.gn⟩ := by
  have ok := wkN_ok V h pg l l.length (Nat.le_refl _)
  have all := wkN_all V h pg l l.length (Nat.le_refl _)
  rw [hK] at ok all
  have lv : ∀ (j : Nat) (hj : j < l.length), fzS V h l[j] = true ∨ ofS V l[j] = true → ∃ t, decT (bl l[j]) = some t := fun j hj q => by
    cases hd : decT (bl l[j]) with
    | some t => exact ⟨t, rfl⟩
    | none =>
      unfold fzS ofS at q
      rw [hd] at q
      rcases q with q | q <;> cases q
  have okF : ∀ t : Tu, t.ok = true → (cgF t).2 = 0 ∧ (⟨t.xmin, t.xmax, true, t.key, t.value⟩ : Tu).ok = true := fun t ht => by
    have e : (⟨t.xmin, t.xmax, true, t.key, t.value⟩ : Tu).ok = true := by rw [Tu.ok_iff] at ht ⊢; exact ht
    refine ⟨?_, e⟩
    unfold cgF Tu.err
    simp only [e, if_true]
  have okX : ∀ t : Tu, t.ok = true → (cgX t).2 = 0 ∧ (⟨t.xmin, 0, t.frozen, t.key, t.value⟩ : Tu).ok = true := fun t ht => by
    have e : (⟨t.xmin, 0, t.frozen, t.key, t.value⟩ : Tu).ok = true := by rw [Tu.ok_iff] at ht ⊢; exact ⟨ht.1, ht.2.1, by simp, by simp, ht.2.2.2.2.1, ht.2.2.2.2.2.1, ht.2.2.2.2.2.2⟩
    refine ⟨?_, e⟩
    unfold cgX Tu.err
    simp only [e, if_true]
  obtain ⟨m1, a1, a2, a3⟩ := chgL_spec cgF K.fr l (nodup_of_rise ok.risF) (fun s hs => by
    obtain ⟨j, hj, e, _, _, hf⟩ := ok.fr s hs
    obtain ⟨t, ht⟩ := lv j hj (.inl hf)
    exact ⟨j, hj, e, t, ht, (okF t (enc_decT ht).1).1⟩)
  have d1 : ∀ (j : Nat) (hj : j < l.length) (hm : j < m1.length) (t : Tu), decT (bl l[j]) = some t → ∃ t', decT (bl m1[j]) = some t' ∧ t'.ok = true ∧ t'.xmin = t.xmin ∧ t'.xmax = t.xmax ∧ ((j : Int) ∈ K.fr → t'.frozen = true) ∧ ((j : Int) ∉ K.fr → t'.frozen = t.frozen) := fun j hj hm t ht => by
    obtain ⟨b1, b2⟩ := a3 j hj hm
    have hok := (enc_decT ht).1
    by_cases q : (j : Int) ∈ K.fr
    · have e := b1 q t ht
      refine ⟨⟨t.xmin, t.xmax, true, t.key, t.value⟩, ?_, (okF t hok).2, rfl, rfl, fun _ => rfl, fun z => absurd q z⟩
      rw [e]
      exact decT_str (okF t hok).2
    · exact ⟨t, by rw [b2 q]; exact ht, hok, rfl, rfl, fun z => absurd z q, fun _ => rfl⟩
  obtain ⟨m, c1, c2, c3⟩ := chgL_spec cgX K.of m1 (nodup_of_rise ok.risO) (fun s hs => by
    obtain ⟨j, hj, e, _, _, hf⟩ := ok.of s hs
    obtain ⟨t, ht⟩ := lv j hj (.inr hf)
    obtain ⟨t', ht', hok, _⟩ := d1 j hj (by omega) t ht
    exact ⟨j, by omega, e, t', ht', (okX t' hok).1⟩)
  rw [a1]
  refine ⟨m, rfl, c1, by omega, ?_⟩
  have e := wkN_gone (V := V) (h := h) (pg := pg) (l := l) (m := m) (by omega) (fun j hj hm => ⟨fun hg => ?_, fun hg => ?_⟩) m.length
  · rw [e, show m.length = l.length by omega, hK]
  · have n1 : (j : Int) ∉ K.fr := fun z => by
      obtain ⟨i, hi, e, _, g, _⟩ := ok.fr _ z
      have : i = j := by omega
      subst this
      rw [hg] at g; cases g
    have n2 : (j : Int) ∉ K.of := fun z => by
      obtain ⟨i, hi, e, _, g, _⟩ := ok.of _ z
      have : i = j := by omega
      subst this
      rw [hg] at g; cases g
    rw [(c3 j (by omega) hm).2 n2, (a3 j hj (by omega)).2 n1]
  · cases hd : decT (bl l[j]) with
    | none =>
      have n1 : (j : Int) ∉ K.fr := fun z => by
        obtain ⟨i, hi, e, _, _, g⟩ := ok.fr _ z
        have : i = j := by omega
        subst this
        unfold fzS at g
        rw [hd] at g; cases g
      have n2 : (j : Int) ∉ K.of := fun z => by
        obtain ⟨i, hi, e, _, _, g⟩ := ok.of _ z
        have : i = j := by omega
        subst this
        unfold ofS at g
        rw [hd] at g; cases g
      rw [(c3 j (by omega) hm).2 n2, (a3 j hj (by omega)).2 n1]
      refine ⟨hg, ?_, ?_⟩
      · unfold fzS; rw [hd]
      · unfold ofS; rw [hd]
    | some t =>
      obtain ⟨t1, ht1, ok1, x1, y1, f1, g1⟩ := d1 j hj (by omega) t hd
      -- the version then
      obtain ⟨t2, ht2, x2, y2, y3, z2⟩ : ∃ t2, decT (bl m[j]) = some t2 ∧ t2.xmin = t.xmin ∧ ((j : Int) ∈ K.of → t2.xmax = 0) ∧ ((j : Int) ∉ K.of → t2.xmax = t.xmax) ∧ t2.frozen = t1.frozen := by
        obtain ⟨b1, b2⟩ := c3 j (by omega) hm
        by_cases q : (j : Int) ∈ K.of
        · refine ⟨⟨t1.xmin, 0, t1.frozen, t1.key, t1.value⟩, ?_, x1, fun _ => rfl, fun z => absurd q z, rfl⟩
          rw [b1 q t1 ht1]
          exact decT_str (okX t1 ok1).2
        · exact ⟨t1, by rw [b2 q]; exact ht1, x1, fun z => absurd z q, fun _ => y1, rfl⟩
      have hgv : vgone V t.tp h = false := by
        unfold gnS at hg
        rw [hd] at hg
        simp only [Bool.or_eq_false_iff] at hg
        exact hg.2
      have hfr : (j : Int) ∈ K.fr ↔ vold V t.tp h = true := by
        refine ⟨fun z => ?_, fun z => (all j hj hj).2.1 hg (by unfold fzS; rw [hd]; exact z)⟩
        obtain ⟨i, hi, e, _, _, g⟩ := ok.fr _ z
        have : i = j := by omega
        subst this
        unfold fzS at g
        rw [hd] at g
        exact g
      have hof : (j : Int) ∈ K.of ↔ voff V t.tp = true := by
        refine ⟨fun z => ?_, fun z => (all j hj hj).2.2 hg (by unfold ofS; rw [hd]; exact z)⟩
        obtain ⟨i, hi, e, _, _, g⟩ := ok.of _ z
        have : i = j := by omega
        subst this
        unfold ofS at g
        rw [hd] at g
        exact g
      -- frozen then: it was, or has become so
      have hfz : (t2.frozen = true) ∨ (t2.frozen = t.frozen ∧ vold V t.tp h = false) := by
        rw [z2]
        by_cases q : (j : Int) ∈ K.fr
        · exact .inl (f1 q)
        · exact .inr ⟨g1 q, by simpa using fun z => q (hfr.2 z)⟩
      have hxm : (t2.xmax = 0) ∨ (t2.xmax = t.xmax ∧ voff V t.tp = false) := by
        by_cases q : (j : Int) ∈ K.of
        · exact .inl (y2 q)
        · exact .inr ⟨y3 q, by simpa using fun z => q (hof.2 z)⟩
      have hn : vnever V t2.tp = false := by
        unfold vgone at hgv
        simp only [Bool.or_eq_false_iff] at hgv
        have hnv := hgv.1
        unfold vnever Tu.tp at hnv ⊢
        simp only [] at hnv ⊢
        rcases hfz with q | ⟨q, _⟩
        · rw [q]; rfl
        · rw [q, x2]; exact hnv
      have hp : (t2.tp.xmax != 0 && vpast V t2.tp.xmax h) = false := by
        unfold vgone at hgv
        simp only [Bool.or_eq_false_iff] at hgv
        have hnv := hgv.2
        unfold Tu.tp at hnv ⊢
        simp only [] at hnv ⊢
        rcases hxm with q | ⟨q, _⟩
        · rw [q]; rfl
        · rw [q]; exact hnv
      refine ⟨?_, ?_, ?_⟩
      · unfold gnS
        rw [stT_lv ht2, ht2]
        show (false || vgone V t2.tp h) = false
        unfold vgone
        rw [hn, hp]
        rfl
      · unfold fzS
        rw [ht2]
        show vold V t2.tp h = false
        rcases hfz with q | ⟨q, r⟩
        · unfold vold Tu.tp; simp only []; rw [q]; rfl
        · unfold vold Tu.tp at r ⊢; simp only [] at r ⊢; rw [q, x2]; exact r
      · unfold ofS
        rw [ht2]
        show voff V t2.tp = false
        rcases hxm with q | ⟨q, r⟩
        · unfold voff Tu.tp; simp only []; rw [q]; rfl
        · unfold voff Tu.tp at r ⊢; simp only [] at r ⊢; rw [q]; exact r
/-- What cleaning leaves. -/
theorem cln_done {V : Vw} {h pg : Int} {l : List ByteArray} {G : List En} (hK : wkN V h pg l l.length = ⟨[], [], G⟩) : ∃ m : List ByteArray,
    clnL (G.map En.slot) l = (m, 0) ∧ m.length = l.length ∧ wkN V h pg m m.length = ⟨[], [], []⟩ := by
  have ok := wkN_ok V h pg l l.length (Nat.le_refl _)
  have all := wkN_all V h pg l l.length (Nat.le_refl _)
  rw [hK] at ok all
  obtain ⟨m, a1, a2, a3⟩ := clnL_spec (G.map En.slot) l (fun s hs => by
    obtain ⟨x, hx, rfl⟩ := List.mem_map.1 hs
    obtain ⟨_, j, hj, e, _⟩ := ok.gn x hx
    exact ⟨j, hj, e⟩)
  refine ⟨m, a1, a2, wkN_none (fun j hj => ?_) _⟩
  rcases a3 j (by omega) hj with q | ⟨q, r⟩
  · rw [q]; exact free_no V h
  · rw [r]
    obtain ⟨b1, b2, b3⟩ := all j (by omega) (by omega)
    have hg : gnS V h (l[j]'(by omega)) = false := by
      cases z : gnS V h (l[j]'(by omega)) with
      | false => rfl
      | true => exact absurd (List.mem_map.2 ⟨_, b1 z, rfl⟩) q
    refine ⟨hg, ?_, ?_⟩
    · cases z : fzS V h (l[j]'(by omega)) with
      | false => rfl
      | true => exact absurd (b2 hg z) (by simp)
    · cases z : ofS V (l[j]'(by omega)) with
      | false => rfl
      | true => exact absurd (b3 hg z) (by simp)
/-- A page of which there is nothing to freeze. -/
theorem frz_none {V : Vw} {h pg : Int} {l : List ByteArray} {K : Wk} (hK : wkN V h pg l l.length = K) (h1 : K.fr = []) (h2 : K.of = []) : wkN V h pg l l.length = ⟨[], [], K.gn⟩ := by
  rw [hK]
  cases K
  simp only [] at h1 h2
  rw [h1, h2]
end Go.Proofs.YtpnbhddmdfcjdaaGreat
