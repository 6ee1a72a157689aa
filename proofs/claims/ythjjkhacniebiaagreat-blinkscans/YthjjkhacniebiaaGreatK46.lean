/- The law's forest: what enters asks and leaves. -/
import Derived.Test.YthjjkhacniebiaaGreatK44
import Derived.Test.YthjjkhacniebiaaGreatK45
namespace Go.Proofs.YthjjkhacniebiaaGreat
open Go.RowKit

variable {K : Nat → Prop}

/-- How high a tree is, and how many items its root has. -/
def phi (F : Nat → Nd) : Nat := 12 * (F 1).lv + (F 1).ks.length
/-- What enters asks. -/
structure EnPre (K : Nat → Prop) (w : World) (f g cap : Nat) (zs : List Pz) (N : Nat) (F : Nat → Nd) (lo : Nat → En) (A : En → Prop) (v : Nat) (e : En) (c : Int) : Prop where
  hM : Fm K w f g cap zs
  hZ : Fz N F zs
  hF : Fst N F lo A
  lv : v ≤ (F 1).lv
  top : (F 1).lv ≤ 200
  num : N + ((F 1).lv - v) + 2 ≤ 9999
  ok : e.ok = true
  leaf : v = 0 → c = 0
  kid : 0 < v → (∃ d : Nat, c = (d : Int) ∧ pg N d ∧ (F d).lv + 1 = v ∧ lo d = e) ∧ (∀ i, pg N i → (F i).lv = v → lo i ≠ e)
/-- What enters leaves. -/
def EnPost (K : Nat → Prop) (w w' : World) (f g N : Nat) (F : Nat → Nd) (A : En → Prop) (v : Nat) (e : En) : Prop :=
  ∃ N' F' lo' zs', Fk K w w' f g zs' ∧ Fz N' F' zs' ∧ Fst N' F' lo' (fun x => A x ∨ (v = 0 ∧ x = e)) ∧ N' ≤ N + ((F 1).lv - v) + 2 ∧ phi F' ≤ phi F + 1
theorem Fk.wrap {w w5 w6 w7 : World} {f g : Nat} {zs : List Pz} (h0 : Only (fun _ => False) w w5) (h : Fk K w5 w6 f g zs) (h1 : Only (fun _ => False) w6 w7) : Fk K w w7 f g zs := by
  obtain ⟨⟨g', cap', a, b⟩, o⟩ := h
  exact ⟨⟨g', cap', a.more h1, by rcases b with q | q; exact .inl q; exact .inr (Nat.le_trans h0.size q)⟩, ((h0.mono (fun _ _ h => h.elim)).trans o (fun _ _ h => h)).trans h1 (fun _ _ h => h.elim)⟩
theorem Fk.then {w w5 w6 : World} {f g g' : Nat} {zs' : List Pz} (h0 : Only (fun k => k = f ∨ k = g) w w5) (hg : g' = g ∨ w.heap.size ≤ g') (h : Fk K w5 w6 f g' zs') : Fk K w w6 f g zs' := by
  obtain ⟨⟨g2, cap', a, b⟩, o⟩ := h
  refine ⟨⟨g2, cap', a, ?_⟩, h0.trans o (fun i hi e => ?_)⟩
  · rcases b with q | q
    · rw [q]; exact hg
    · exact .inr (Nat.le_trans h0.size q)
  · rcases e with e | e
    · exact .inl e
    · rcases hg with q | q
      · exact .inr (e.trans q)
      · omega
theorem Kts.ns {w : World} {base : Nat} {v : Value} {ks : List Int} (h : Kts w base v ks) (hl : ks.length ≤ 1000) : ∃ ao cp B, v = .slice ao ks.length cp ∧ Ns w B ao ks ∧ ks.length ≤ cp ∧ cp ≤ maxLen := by
  have h' := h
  rcases h.2 with ⟨rfl, h0⟩ | ⟨g, cap, cur, rfl, hb, hh, h1, h2, _⟩
  · have : ks = [] := List.eq_nil_of_length_eq_zero h0
    subst this
    exact ⟨none, 0, 0, rfl, ⟨fun h => absurd h (by simp), by simp⟩, Nat.le_refl _, by unfold maxLen; omega⟩
  · refine ⟨_, cap, g, rfl, ⟨fun h0 => ⟨0, rfl, fun j hj => ?_⟩, by omega⟩, h1, h2⟩
    obtain ⟨g', cp', e1, _, _, hc⟩ := h'.at_ j hj
    cases e1
    rw [Nat.zero_add]
    exact hc
section
variable {w : World} {f g cap : Nat} {zs : List Pz} {N : Nat} {F : Nat → Nd} {lo : Nat → En} {A : En → Prop} {v : Nat} {e : En} {c : Int} {i : Nat}
theorem EnPre.okc (h : EnPre K w f g cap zs N F lo A v e c) (hv : 0 < v) : okC c = true := by
  obtain ⟨⟨d, rfl, d2, _⟩, _⟩ := h.kid hv
  exact okC_iff.2 ⟨by have := d2.1; omega, by have := d2.2; have := h.num; omega⟩
theorem EnPre.brd (h : EnPre K w f g cap zs N F lo A v e c) : brd v (itB v (e, c)) = some (e, c) := by
  unfold Go.Proofs.YthjjkhacniebiaaGreat.brd itB
  by_cases hv : v = 0
  · rw [if_pos hv, if_pos hv, show decE (bl e.enc) = some e from decE_lay h.ok, h.leaf hv]; rfl
  · rw [if_neg hv, if_neg hv]
    exact decS_lay (En.sp_iff.2 (.inr h.ok)) (h.okc (by omega))
theorem EnPre.cases (h : EnPre K w f g cap zs N F lo A v e c) (hp : pg N i) (hv : (F i).lv = v) (hl : (lo i).lt e) (hb : byd (F i).hi e = false) : ((F i).std e = true ∧ e ∈ (F i).es) ∨ ((F i).std e = false ∧ May N F lo i e c) := by
  unfold Nd.std
  by_cases q : e ∈ (F i).es
  · exact .inl ⟨decide_eq_true ⟨.inr (En.ok_ne h.ok), q⟩, q⟩
  · refine .inr ⟨decide_eq_false (fun z => q z.2), hp, h.ok, hl, Nd.not_bad h.ok q (fun _ => hb) (fun v0 => ?_), fun v0 => h.leaf (by omega), fun v0 => ?_⟩
    · rw [hv] at v0
      by_cases z : (F i).hi = noE
      · exact blw_yes.2 (.inl z)
      · obtain ⟨n1, n2, n3⟩ := h.hF.next i hp z
        have ne := (h.kid v0).2 _ n1 (by omega)
        rw [n3] at ne
        refine blw_yes.2 (.inr ?_)
        rcases En.lt_total ne with y | y
        · exact absurd (byd_yes.2 ⟨z, y⟩) (by rw [hb]; decide)
        · exact y
    · rw [hv] at v0
      obtain ⟨⟨d, d1, d2, d3, d4⟩, _⟩ := h.kid v0
      exact ⟨d, d1, d2, by omega, d4⟩
theorem need_std {X : Nd} {p : Int} (h : X.std e = true) : X.need p (some (e, c)) = (0, 150) := by unfold Nd.need; simp only []; rw [if_pos h]
theorem need_fit {X : Nd} {p : Int} (h : X.std e = false) (hb : ¬ X.bad e) (hs : (X.ins e c).size ≤ 512) : X.need p (some (e, c)) = (0, 0) := by
  have k : X.wiK (some (e, c)) = 0 := by
    unfold Nd.wiK
    simp only []
    rw [if_neg hb, if_neg (by omega)]
  unfold Nd.need
  simp only []
  rw [if_neg (by rw [h]; decide), k, if_neg (by decide)]
theorem need_full {X : Nd} {p : Int} (h : X.std e = false) (hb : ¬ X.bad e) (hs : 512 < (X.ins e c).size) : X.need p (some (e, c)) = (if p = 1 then 2 else 1, 0) := by
  have k : X.wiK (some (e, c)) = 3 := by
    unfold Nd.wiK
    simp only []
    rw [if_neg hb, if_pos hs]
  unfold Nd.need
  simp only []
  rw [if_neg (by rw [h]; decide), k, if_pos rfl]
/-- The page of a forest as a node. -/
theorem EnPre.page (h : EnPre K w f g cap zs N F lo A v e c) (hp : pg N i) : ∃ ao cp B, ∃ hi : i < zs.length, zs[i] = (F i).z 0 ao cp ∧ Gd (F i) ∧ Strs w B ao (F i).items ∧ Fit ao (F i).items.length cp := by
  obtain ⟨ao, cp, hi, hz⟩ := h.hZ.each i hp
  obtain ⟨⟨B, hS, _⟩, hf⟩ := h.hM.each zs[i] (List.getElem_mem hi)
  rw [hz] at hS hf
  exact ⟨ao, cp, B, hi, hz, h.hF.gd (by have := h.num; omega) (by have := h.top; omega) hp, hS, hf⟩
/-- Where nothing comes in, for it is there. -/
theorem EnPre.stays (h : EnPre K w f g cap zs N F lo A v e c) (hp : pg N i) (hv : (F i).lv = v) (hm : e ∈ (F i).es) {w' : World} (ho : Only (fun _ => False) w w') : EnPost K w w' f g N F A v e := by
  refine ⟨N, F, lo, zs, Fk.refl h.hM ho, h.hZ, h.hF.congr (fun x => ⟨?_, .inl⟩), by omega, by omega⟩
  rintro (q | ⟨q, rfl⟩)
  · exact q
  · exact ((h.hF.cont i hp (by omega) x).1 hm).1
/-- Behind one more item. -/
theorem EnPre.fit (h : EnPre K w f g cap zs N F lo A v e c) (m : May N F lo i e c) (hv : (F i).lv = v) (hs : ((F i).ins e c).size ≤ 512) {w' : World} {ao : Option Addr} {cp : Nat} (hk : Fk K w w' f g (zs.set i (((F i).ins e c).z 0 ao cp))) : EnPost K w w' f g N F A v e := by
  refine ⟨N, upd F i ((F i).ins e c), lo, _, hk, h.hZ.set i m.pgi.2 _ ao cp, ?_, by omega, ?_⟩
  · have := step_fit h.hF m hs
    rw [hv] at this
    exact this
  · unfold phi
    by_cases q : 1 = i
    · rw [← q, upd_same]
      show 12 * (F 1).lv + (insK (F 1).ks e c).length ≤ _
      rw [insK_len]
      omega
    · rw [upd_other _ _ q]; omega
/-- Behind a split of the root. -/
theorem EnPre.two (h : EnPre K w f g cap zs N F lo A v e c) (m : May N F lo 1 e c) (hv : (F 1).lv = v) (hf : 512 < ((F 1).ins e c).size) {w' : World} {ao1 ao2 ao3 : Option Addr} {cp1 cp2 cp3 : Nat} (hk : Fk K w w' f g ([(N, ((F 1).nl e c (N + 1)).z 0 ao1 cp1), (N + 1, ((F 1).nr e c).z 0 ao2 cp2), (1, ((F 1).over N (N + 1)).z 0 ao3 cp3)].foldl putZ zs)) : EnPost K w w' f g N F A v e := by
  have h2 := h.hF.two
  have hn := h.num
  refine ⟨N + 2, upd (upd (upd F N ((F 1).nl e c (N + 1))) (N + 1) ((F 1).nr e c)) 1 ((F 1).over N (N + 1)), upd (upd lo N noE) (N + 1) (F 1).bord, _, hk, ?_, ?_, by omega, ?_⟩
  · have z1 := h.hZ.putZ N (Nat.le_refl _) ((F 1).nl e c (N + 1)) ao1 cp1
    rw [Nat.max_eq_right (Nat.le_succ N)] at z1
    have z2 := z1.putZ (N + 1) (Nat.le_refl _) ((F 1).nr e c) ao2 cp2
    rw [Nat.max_eq_right (Nat.le_succ (N + 1))] at z2
    have z3 := z2.putZ 1 (by omega) ((F 1).over N (N + 1)) ao3 cp3
    rw [Nat.max_eq_left (by omega)] at z3
    exact z3
  · have := step_root h.hF (by omega) m hf
    rw [hv] at this
    exact this
  · unfold phi
    rw [upd_same]
    have h14 := ((h.hF.ok 1 m.pgi).two (h.hF.kok (by omega) m.pgi) m.not (fun v0 => m.okc (by omega) v0) hf).2 h.hF.root.1
    show 12 * ((F 1).lv + 1) + 2 ≤ _
    omega
/-- Behind a split of another node: what enters asks to tell it above. -/
theorem EnPre.one (h : EnPre K w f g cap zs N F lo A v e c) (m : May N F lo i e c) (hi : i ≠ 1) (hv : (F i).lv = v) (hf : 512 < ((F i).ins e c).size) {ao1 ao2 : Option Addr} {cp1 cp2 : Nat} :
    Fz (N + 1) (upd (upd F i ((F i).nl e c N)) N ((F i).nr e c)) ([(i, ((F i).nl e c N).z 0 ao1 cp1), (N, ((F i).nr e c).z 0 ao2 cp2)].foldl putZ zs) ∧ Fst (N + 1) (upd (upd F i ((F i).nl e c N)) N ((F i).nr e c)) (upd lo N (F i).bord) (fun x => A x ∨ (v = 0 ∧ x = e)) ∧ upd (upd F i ((F i).nl e c N)) N ((F i).nr e c) 1 = F 1 ∧ v < (F 1).lv ∧ (F i).bord.ok = true ∧ 2 ≤ (F i).ks.length := by
  have h2 := h.hF.two
  have hn := h.num
  have hip := m.pgi
  have z1 := h.hZ.putZ i (Nat.le_of_lt hip.2) ((F i).nl e c N) ao1 cp1
  rw [Nat.max_eq_left hip.2] at z1
  have z2 := z1.putZ N (Nat.le_refl _) ((F i).nr e c) ao2 cp2
  rw [Nat.max_eq_right (Nat.le_succ N)] at z2
  have s := step_split h.hF (by omega) m hi hf
  rw [hv] at s
  have k2 : 2 ≤ (F i).ks.length := by have := ((h.hF.ok i hip).two (h.hF.kok (by omega) hip) m.not (fun v0 => m.okc (by omega) v0) hf).1; omega
  exact ⟨z2, s, by rw [upd_other _ _ (by omega), upd_other _ _ (fun q => hi q.symm)], by have := h.hF.top i hip hi; omega, ((h.hF.ok i hip).bord k2).1, k2⟩
theorem nl_hi (X : Nd) (e : En) (c : Int) (j : Nat) : (X.nl e c j).hi = X.bord := by unfold Nd.nl; split <;> rfl
theorem nl_lv (X : Nd) (e : En) (c : Int) (j : Nat) : (X.nl e c j).lv = X.lv := by unfold Nd.nl; split <;> rfl
theorem nr_lv (X : Nd) (e : En) (c : Int) : (X.nr e c).lv = X.lv := by unfold Nd.nr; split <;> rfl
/-- The next call's asking. -/
theorem EnPre.up (h : EnPre K w f g cap zs N F lo A v e c) (m : May N F lo i e c) (hi : i ≠ 1) (hv : (F i).lv = v) (hf : 512 < ((F i).ins e c).size) {ao1 ao2 : Option Addr} {cp1 cp2 : Nat} {w' : World} {g' cap' : Nat} (hM : Fm K w' f g' cap' ([(i, ((F i).nl e c N).z 0 ao1 cp1), (N, ((F i).nr e c).z 0 ao2 cp2)].foldl putZ zs)) :
    EnPre K w' f g' cap' ([(i, ((F i).nl e c N).z 0 ao1 cp1), (N, ((F i).nr e c).z 0 ao2 cp2)].foldl putZ zs) (N + 1) (upd (upd F i ((F i).nl e c N)) N ((F i).nr e c)) (upd lo N (F i).bord) (fun x => A x ∨ (v = 0 ∧ x = e)) (v + 1) (F i).bord N := by
  obtain ⟨a1, a2, a3, a4, a5, a6⟩ := h.one m hi hv hf (ao1 := ao1) (ao2 := ao2) (cp1 := cp1) (cp2 := cp2)
  have hn := h.num
  have hip := m.pgi
  have hiN : i ≠ N := by have := hip.2; omega
  refine ⟨hM, a1, a2, by rw [a3]; omega, by rw [a3]; exact h.top, by rw [a3]; omega, a5, (fun q => by omega), fun _ => ⟨⟨N, rfl, ⟨by have := h.hF.two; omega, by omega⟩, ?_, upd_same _ _ _⟩, ?_⟩⟩
  · rw [upd_same, nr_lv]; omega
  · intro j hj hlj
    by_cases q : j = N
    · rw [q, upd_same, nr_lv] at hlj; omega
    · rw [upd_other _ _ q] at hlj ⊢
      have hj' : pg N j := ⟨hj.1, by have := hj.2; omega⟩
      by_cases p : j = i
      · rw [p, upd_same, nl_lv] at hlj; omega
      · rw [upd_other _ _ p] at hlj
        exact split_new h.hF hip a6 hj' (by omega)
/-- Both together. -/
theorem EnPre.join (h : EnPre K w f g cap zs N F lo A v e c) (m : May N F lo i e c) (hi : i ≠ 1) (hv : (F i).lv = v) (hf : 512 < ((F i).ins e c).size) {w6 w7 : World} {g' : Nat} (h0 : Only (fun k => k = f ∨ k = g) w w6) (hg : g' = g ∨ w.heap.size ≤ g') (hp : EnPost K w6 w7 f g' (N + 1) (upd (upd F i ((F i).nl e c N)) N ((F i).nr e c)) (fun x => A x ∨ (v = 0 ∧ x = e)) (v + 1) (F i).bord) : EnPost K w w7 f g N F A v e := by
  obtain ⟨a1, a2, a3, a4, a5, a6⟩ := h.one m hi hv hf (ao1 := none) (ao2 := none) (cp1 := 0) (cp2 := 0)
  obtain ⟨N', F', lo', zs', q1, q2, q3, q4, q5⟩ := hp
  refine ⟨N', F', lo', zs', Fk.then h0 hg q1, q2, q3.congr (fun x => ⟨.inl, ?_⟩), ?_, ?_⟩
  · rintro (q | ⟨q, _⟩)
    · exact q
    · omega
  · rw [a3] at q4; omega
  · unfold phi at q5 ⊢
    rw [a3] at q5
    exact q5
/-- A split that is not told. -/
theorem EnPre.quiet (h : EnPre K w f g cap zs N F lo A v e c) (m : May N F lo i e c) (hi : i ≠ 1) (hv : (F i).lv = v) (hf : 512 < ((F i).ins e c).size) {ao1 ao2 : Option Addr} {cp1 cp2 : Nat} {w7 : World} (hk : Fk K w w7 f g ([(i, ((F i).nl e c N).z 0 ao1 cp1), (N, ((F i).nr e c).z 0 ao2 cp2)].foldl putZ zs)) : EnPost K w w7 f g N F A v e := by
  obtain ⟨a1, a2, a3, a4, a5, a6⟩ := h.one m hi hv hf (ao1 := ao1) (ao2 := ao2) (cp1 := cp1) (cp2 := cp2)
  exact ⟨N + 1, _, _, _, hk, a1, a2, by omega, by unfold phi; rw [a3]; omega⟩
end
end Go.Proofs.YthjjkhacniebiaaGreat
