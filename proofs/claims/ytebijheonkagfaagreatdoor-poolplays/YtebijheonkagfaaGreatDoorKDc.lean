/- What the laws share: lists that are the same; what an act writes. -/
import Derived.Test.YtebijheonkagfaaGreatDoorKDb
namespace Go.Proofs.YtebijheonkagfaaGreatDoor
open Go.RowKit
theorem frow_of_owns {w : World} {base g n cap : Nat} {e : TypeId} {xs : List Value} {f : Nat → Value} (h : w.ownsRow base e 1 (.slice (some ⟨g, 0, none⟩) n cap) n xs) (hf : ∀ k, k < n → xs[k]? = some (f k)) : FRow w g e n f := by
  rcases h.2 with ⟨h0, _⟩ | ⟨g', cap', cur, hv, _, hb, hn, _, hs, ht⟩
  · cases h0
  · cases hv
    refine ⟨cur, hb, fun k hk => ?_⟩; rw [← Array.getElem?_toList, ← hf k hk]; rw [Nat.mul_one] at ht; rw [← ht, List.getElem?_take_of_lt hk]
def ahead (D : Dk) (i : Nat) : List Nat := (List.range i).filter fun k => (D.fresh k).isSome
def elemOf3 (j : Nat) : TypeId := if j = 2 then 4 else 9
structure Nw (w : World) (x : Nat) (vs : Nat → Value) (ls : Nat → List Value) : Prop where
  cj : ∀ j, j < 3 → w.cell? ⟨x, j, none⟩ = some (vs j)
  c3 : w.cell? ⟨x, 3, none⟩ = some (.int .i64 0)
  c4 : w.cell? ⟨x, 4, none⟩ = some (.bool false)
  c5 : w.cell? ⟨x, 5, none⟩ = some (.int .i64 0)
  fz : ∀ j, w.frozen? ⟨x, j, none⟩ = false
  lt : x < w.heap.size
  own : ∀ j, j < 3 → w.ownsRow (x + 1) (elemOf3 j) 1 (vs j) (ls j).length (ls j)
  dis : ∀ i j, i < 3 → j < 3 → i ≠ j → ∀ k, (vs i).ownBlock = some k → (vs j).ownBlock ≠ some k
theorem Nw.step {w : World} {x : Nat} {vs : Nat → Value} {ls : Nat → List Value} (h : Nw w x vs ls) {j : Nat} (hj : j < 3) (o : Obj) {w3 : World} {v' u : Value} (hg : (w.alloc o).grownBy w3 (vs j).ownBlock)
    (hown : w3.ownsRow (x + 1) (elemOf3 j) 1 v' ((ls j).length + 1) (ls j ++ [u])) (hloc : v'.ownBlock = (vs j).ownBlock ∨ v'.ownBlock = some (w.alloc o).heap.size) :
    Nw (w3.setCell ⟨x, j, none⟩ v') x (fun i => if i = j then v' else vs i) (fun i => if i = j then ls j ++ [u] else ls i) ∧ Only (fun k => x ≤ k) w (w3.setCell ⟨x, j, none⟩ v') := by
  have hO1 : Only (fun _ => False) w (w.alloc o) := Only.alloc _ _ _; have hO2 : Only (fun k => (vs j).ownBlock = some k) (w.alloc o) w3 := Only.grown hg (fun k hk => hk); have hO3 : Only (fun k => k = x) w3 (w3.setCell ⟨x, j, none⟩ v') := Only.setCell w3 ⟨x, j, none⟩ v' rfl; have hxs : x < (w.alloc o).heap.size := Nat.lt_of_lt_of_le h.lt hO1.size; have hx3 : x < w3.heap.size := Nat.lt_of_lt_of_le hxs hO2.size
  have hrow : ∀ k, (vs j).ownBlock = some k → x + 1 ≤ k ∧ k < w.heap.size := fun k hk => (h.own j hj).lt k hk
  have hnx : ¬ (vs j).ownBlock = some x := fun e => by have := (hrow x e).1; omega
  have hc3 : ∀ i v, w.cell? ⟨x, i, none⟩ = some v → w3.cell? ⟨x, i, none⟩ = some v := fun i v hv => (hO2.cell (p := ⟨x, i, none⟩) hxs hnx).trans ((hO1.cell (p := ⟨x, i, none⟩) h.lt (fun e => e)).trans hv)
  have hset : ∀ i v, w.cell? ⟨x, i, none⟩ = some v → i ≠ j → (w3.setCell ⟨x, j, none⟩ v').cell? ⟨x, i, none⟩ = some v := fun i v hv hi => by
    rw [World.cell?_setCell_other _ _ _ _ (by intro e; cases e; exact hi rfl)]
    exact hc3 i v hv
  refine ⟨⟨fun i hi => ?_, hset 3 _ h.c3 (by omega), hset 4 _ h.c4 (by omega), hset 5 _ h.c5 (by omega), fun i => ?_, by simpa using hx3, fun i hi => ?_, ?_⟩, ?_⟩
  · by_cases e : i = j
    · subst e
      simp only [if_true]
      exact World.cell?_setCell_same _ _ _ (hc3 i _ (h.cj i hi))
    · simp only [if_neg e]
      exact hset i _ (h.cj i hi) e
  · have h2 : w3.frozen? ⟨x, i, none⟩ = false := (hO2.frozen (p := ⟨x, i, none⟩) hxs hnx).trans ((hO1.frozen (p := ⟨x, i, none⟩) h.lt (fun e => e)).trans (h.fz i))
    simpa using h2
  · by_cases e : i = j
    · subst e
      simp only [if_true]
      have hk := hown.kept hO3.toGrown (by
        by_cases hb : v'.ownBlock = none
        · exact .inl hb
        · right
          intro e2; have := (hown.lt x e2).1
          omega)
      simpa using hk
    · simp only [if_neg e]
      have h1 := ((h.own i hi).alloc o).kept hg (by
        by_cases hb : (vs i).ownBlock = none
        · exact .inl hb
        · right
          intro e2; obtain ⟨k, hk⟩ := Option.ne_none_iff_exists'.1 hb
          exact h.dis i j hi hj e k hk (by rw [← e2]; exact hk))
      exact h1.kept hO3.toGrown (by
        by_cases hb : (vs i).ownBlock = none
        · exact .inl hb
        · right
          intro e2; have := ((h.own i hi).lt x e2).1
          omega)
  · intro i1 i2 h1 h2 hne k hk
    by_cases e1 : i1 = j
    · subst e1
      simp only [if_true] at hk
      have e2 : ¬ i2 = i1 := fun e => hne e.symm
      simp only [if_neg e2]; intro hk2
      rcases hloc with hl | hl
      · rw [hl] at hk
        exact h.dis i1 i2 h1 h2 hne k hk hk2
      · rw [hl] at hk
        cases hk
        have := ((h.own i2 h2).lt _ hk2).2
        simp at this
        omega
    · simp only [if_neg e1] at hk
      by_cases e2 : i2 = j
      · subst e2
        simp only [if_true]; intro hk2
        rcases hloc with hl | hl
        · rw [hl] at hk2
          exact h.dis i1 i2 h1 h2 hne k hk hk2
        · rw [hl] at hk2
          cases hk2
          have := ((h.own i1 h1).lt _ hk).2
          simp at this
          omega
      · simp only [if_neg e2]
        exact h.dis i1 i2 h1 h2 hne k hk
  · refine ((hO1.mono (T := fun k => x ≤ k) (fun _ _ h => h.elim)).trans hO2 (fun k _ hk => by have := (hrow k hk).1; omega)).trans hO3 (fun k _ e => by omega)
theorem Tryz.infoStr2 : (Tryz.prog.info? 9).map (fun i => (i.zero, i.size, i.bytes)) = some (some (.string ⟨#[]⟩), 1, 16) := by kernel_rfl
theorem Tryz.infoBool : (Tryz.prog.info? 4).map (fun i => (i.zero, i.size, i.bytes)) = some (some (.bool false), 1, 1) := by kernel_rfl
theorem nw_xd {w : World} {x n : Nat} {vs : Nat → Value} {ls : Nat → List Value} (h : Nw w x vs ls) (h1 : 1 ≤ n) (h2 : n ≤ 65536) {sz : ByteArray} (hsz : sz.data.toList = List.replicate 64 0)
    (e0 : ls 0 = List.replicate n (.string sz)) (e1 : ls 1 = List.replicate n (.string sz)) (e2 : ls 2 = List.replicate n (.bool false)) : ∃ a b c ka kb kc, Xd w x a b c ka kb kc (Dk.new n) ∧ x < a ∧ x < b ∧ x < c := by
  have hform : ∀ j, j < 3 → (ls j).length = n → ∃ g cap, vs j = .slice (some ⟨g, 0, none⟩) n cap ∧ x < g := fun j hj hl => by
    rcases (h.own j hj).2 with ⟨_, h0⟩ | ⟨g, cap, cur, hv, hb, _⟩
    · omega
    · rw [hl] at hv
      exact ⟨g, cap, hv, by omega⟩
  obtain ⟨a, ka, ha, hxa⟩ := hform 0 (by omega) (by rw [e0]; simp); obtain ⟨b, kb, hb, hxb⟩ := hform 1 (by omega) (by rw [e1]; simp); obtain ⟨c, kc, hc, hxc⟩ := hform 2 (by omega) (by rw [e2]; simp)
  have hl : (Dk.new n).old.length = n := by simp [Dk.new]
  have htx : txt (List.replicate 64 0) = .string sz := by
    unfold txt
    congr 1
    apply ByteArray.ext
    apply Array.ext'
    rw [hsz]
  have o0 := h.own 0 (by omega); have o1 := h.own 1 (by omega); have o2 := h.own 2 (by omega); rw [ha, e0, List.length_replicate] at o0; rw [hb, e1, List.length_replicate] at o1; rw [hc, e2, List.length_replicate] at o2; refine ⟨a, b, c, ka, kb, kc, ⟨?_, ?_, ?_, h.c3, h.c4, h.c5, h.fz, h.lt, ?_, ?_, ?_, Dk.new_ok h1 h2, by omega, by omega, by omega, ?_, ?_, ?_⟩, hxa, hxb, hxc⟩
  · rw [h.cj 0 (by omega), ha, hl]
  · rw [h.cj 1 (by omega), hb, hl]
  · rw [h.cj 2 (by omega), hc, hl]
  · rw [hl]
    refine frow_of_owns o0 (fun k hk => ?_)
    have e : (Dk.new n).old.getD k [] = List.replicate 64 0 := by simp only [Dk.new, List.getD_eq_getElem?_getD, List.getElem?_replicate, if_pos hk, Option.getD_some]
    rw [e, htx, List.getElem?_replicate, if_pos hk]
  · rw [hl]
    refine frow_of_owns o1 (fun k hk => ?_)
    have e : (Dk.new n).cur k = List.replicate 64 0 := by
      unfold Dk.cur Dk.new; simp only [Option.getD_none, List.getD_eq_getElem?_getD, List.getElem?_replicate, if_pos hk, Option.getD_some]
    rw [e, htx, List.getElem?_replicate, if_pos hk]
  · rw [hl]
    refine frow_of_owns o2 (fun k hk => ?_); rw [List.getElem?_replicate, if_pos hk]
    rfl
  · intro e
    exact h.dis 0 1 (by omega) (by omega) (by omega) a (by rw [ha]; rfl) (by rw [hb, e]; rfl)
  · intro e
    exact h.dis 0 2 (by omega) (by omega) (by omega) a (by rw [ha]; rfl) (by rw [hc, e]; rfl)
  · intro e
    exact h.dis 1 2 (by omega) (by omega) (by omega) b (by rw [hb]; rfl) (by rw [hc, e]; rfl)
theorem Nw.there {w : World} {x : Nat} {vs : Nat → Value} {ls : Nat → List Value} (h : Nw w x vs ls) {j : Nat} (hj : j < 3) (o : Obj) {w3 : World} (hg : (w.alloc o).grownBy w3 (vs j).ownBlock) : w3.cell? ⟨x, j, none⟩ = some (vs j) ∧ w3.frozen? ⟨x, j, none⟩ = false := by
  have hO1 : Only (fun _ => False) w (w.alloc o) := Only.alloc _ _ _; have hO2 : Only (fun k => (vs j).ownBlock = some k) (w.alloc o) w3 := Only.grown hg (fun k hk => hk); have hxs : x < (w.alloc o).heap.size := Nat.lt_of_lt_of_le h.lt hO1.size
  have hnx : ¬ (vs j).ownBlock = some x := fun e => by have := ((h.own j hj).lt x e).1; omega
  exact ⟨(hO2.cell (p := ⟨x, j, none⟩) hxs hnx).trans ((hO1.cell (p := ⟨x, j, none⟩) h.lt (fun e => e)).trans (h.cj j hj)), (hO2.frozen (p := ⟨x, j, none⟩) hxs hnx).trans ((hO1.frozen (p := ⟨x, j, none⟩) h.lt (fun e => e)).trans (h.fz j))⟩
theorem nw_start (w : World) (e : TypeId) : Nw (w.alloc (.cells #[.slice none 0 0, .slice none 0 0, .slice none 0 0, .int .i64 0, .bool false, .int .i64 0] e)) w.heap.size (fun _ => .slice none 0 0) (fun _ => []) := by
  refine ⟨fun j hj => ?_, by simp, by simp, by simp, fun j => by simp, by simp, fun j hj => World.ownsRow_nil _ _ _ _, fun i j _ _ _ k hk => by cases hk⟩
  match j, hj with
  | 0, _ => simp
  | 1, _ => simp
  | 2, _ => simp
theorem news_at (W : World) (v : Value) (e : TypeId) (g : Nat) (hg : W.heap.size = g) : ∀ j u, [v][j]? = some u → (W.alloc (.cells #[v] e)).cell? ((⟨g, 0, none⟩ : Addr).add j) = some u := by
  intro j u hu; subst hg
  have e0 : j = 0 := by
    have h9 := (List.getElem?_eq_some_iff.1 hu).1
    simpa using h9
  subst e0
  simp at hu
  subst hu
  simp [Addr.add]
theorem owns_form {w : World} {base n : Nat} {e : TypeId} {v : Value} {xs : List Value} (h : w.ownsRow base e 1 v n xs) : ∃ ao ln cp, v = .slice ao ln cp := by
  rcases h.2 with ⟨rfl, _⟩ | ⟨g, cap, cur, rfl, _⟩
  · exact ⟨_, _, _, rfl⟩
  · exact ⟨_, _, _, rfl⟩
set_option maxRecDepth 100000 in
set_option maxHeartbeats 1600000 in
theorem xnew_ok (w : World) (n : Nat) (h1 : 1 ≤ n) (h2 : n ≤ 65536) : Calls Tryz.prog 5 #[.int .i64 (n : Int)] w fun e w' =>
    e = .returned (.tuple #[.pointer (some ⟨w.heap.size, 0, none⟩), .int .i64 0]) ∧ (∃ a b c ka kb kc, Xd w' w.heap.size a b c ka kb kc (Dk.new n) ∧ w.heap.size < a ∧ w.heap.size < b ∧ w.heap.size < c) ∧ Only (fun _ => False) w w' := by
  obtain ⟨is, his, hs0, hs1, hs2⟩ := info_parts Tryz.infoStr2; obtain ⟨ib, hib, hb0, hb1, hb2⟩ := info_parts Tryz.infoBool; obtain ⟨W0, hW0⟩ : ∃ W0, W0 = w.alloc (.cells #[.slice none 0 0, .slice none 0 0, .slice none 0 0, .int .i64 0, .bool false, .int .i64 0] 66) := ⟨_, rfl⟩; have hN0 := nw_start w 66; rw [← hW0] at hN0
  have hO0 : Only (fun _ => False) w W0 := by rw [hW0]; exact Only.alloc _ _ _
  obtain ⟨w2, hmk, hcv, hO2⟩ := zeros_made W0; obtain ⟨sz, hze⟩ : ∃ sz : ByteArray, (⟨(List.replicate 64 (0 : UInt8)).toArray⟩ : ByteArray) = sz := ⟨_, rfl⟩
  have hzl : sz.data.toList = List.replicate 64 0 := by rw [← hze]
  rw [hze] at hcv; obtain ⟨x, hx⟩ : ∃ x, w.heap.size = x := ⟨_, rfl⟩
  have hN2 : Nw w2 x (fun _ => .slice none 0 0) (fun _ => []) := by
    rw [← hx]; obtain ⟨a1, a2, a3, a4, a5, a6, a7, a8⟩ := hN0
    exact ⟨fun j hj => (hO2.cell (p := ⟨w.heap.size, j, none⟩) a6 (fun e => e)).trans (a1 j hj), (hO2.cell (p := ⟨w.heap.size, 3, none⟩) a6 (fun e => e)).trans a2, (hO2.cell (p := ⟨w.heap.size, 4, none⟩) a6 (fun e => e)).trans a3, (hO2.cell (p := ⟨w.heap.size, 5, none⟩) a6 (fun e => e)).trans a4, fun j => (hO2.frozen (p := ⟨w.heap.size, j, none⟩) a6 (fun e => e)).trans (a5 j), Nat.lt_of_lt_of_le a6 hO2.size, fun j _ => World.ownsRow_nil _ _ _ _, fun i j _ _ _ k hk => by cases hk⟩
  have hsx : W0.heap.size = x + 1 := by rw [hW0, ← hx]; simp
  rw [hsx] at hmk hcv; rw [hW0] at hmk; have HN2 := hide hN2; have HO2 := hide (hO0.trans hO2 (fun _ _ h => h)); have HZ := hide hzl; clear hN0 hO0 hO2 hze hzl hN2 hsx hW0
  go_enter Tryz.func5, Tryz.ntmps5
  go_wp2_with fail
  go_loopw [6] (fun y wr => ∃ (i : Nat) (vs : Nat → Value) (ls : Nat → List Value), i ≤ n ∧ y = .int .i64 (i : Int) ∧ Hid (Nw wr x vs ls ∧ ls 0 = List.replicate i (.string sz) ∧ ls 1 = List.replicate i (.string sz) ∧ ls 2 = List.replicate i (.bool false)) ∧ Hid (Only (fun _ => False) w wr)) (fun y _ => n - (intOf y).toNat)
  case atStart => exact ⟨0, _, _, by omega, rfl, hide ⟨HN2.out, rfl, rfl, rfl⟩, HO2⟩
  case round =>
    obtain ⟨i, vs, ls, hi, rfl, HN, HO⟩ := hrel
    by_cases hil : i < n
    · have hN := HN.out.1
      have hl0 : (ls 0).length = i := by rw [HN.out.2.1]; simp
      have hl1 : (ls 1).length = i := by rw [HN.out.2.2.1]; simp
      have hl2 : (ls 2).length = i := by rw [HN.out.2.2.2]; simp
      have hc0 := hN.cj 0 (by omega); have hf0 := hN.fz 0
      have ho0 : wr.ownsRow (x + 1) 9 1 (vs 0) i (ls 0) := by have := hN.own 0 (by omega); rw [hl0] at this; exact this
      have hxl := hN.lt; have HNN := hide hN; have HO0 := hide ho0; have HL0 := hide hl0; have HL1 := hide hl1; have HL2 := hide hl2; clear hN ho0 hl0 hl1 hl2
      go_wp2_with (first
        | (at_builtin; (refine wpList_append_own_at _ rfl (.tmp 26) (.tmp 28) 43 rfl (x + 1) 9 is (.string ⟨#[]⟩) 1 16 Tryz.underlying43 his hs0 hs1 hs2 rfl (by decide) _ _ _ rfl (HO0.out.alloc _) ⟨wr.heap.size, 0, none⟩ 1 1 [.string sz] rfl rfl (cell_one_new _ _ _) (by simp [Value.oneCell']) (by unfold maxLen; omega) (by omega) (by simp; omega) ?_); intro v1 w1 hw1 hg1 hn1 hl1; obtain ⟨ao1, ln1, cp1, rfl⟩ := owns_form hw1; have ht1 := HNN.out.there (j := 0) (by omega) _ hg1; have hcx1 := ht1.1; have hfx1 := ht1.2; clear ht1; have hst1 := HNN.out.step (j := 0) (by omega) _ hg1 (by rw [HL0.out]; exact hw1) hl1; have HN1 := hide hst1.1; have HP1 := hide hst1.2; have hd1 : (w1.setCell ⟨x, 0, none⟩ (.slice ao1 ln1 cp1)).cell? ⟨x, 1, none⟩ = some (vs 1) := hst1.1.cj 1 (by omega); have HO1 : Hid ((w1.setCell ⟨x, 0, none⟩ (.slice ao1 ln1 cp1)).ownsRow (x + 1) 9 1 (vs 1) i (ls 1)) := (by have := hst1.1.own 1 (by omega); simp only [show ¬ (1 = 0) by omega, if_false, HL1.out] at this; exact this); have hxl1 : x < w1.heap.size := (by have h9 := hst1.1.lt; simpa using h9); clear hst1 hg1 hn1 hl1 hw1)
        | (at_builtin; (refine wpList_append_own_at _ rfl (.tmp 36) (.tmp 38) 43 rfl (x + 1) 9 is (.string ⟨#[]⟩) 1 16 Tryz.underlying43 his hs0 hs1 hs2 rfl (by decide) _ _ _ rfl (HO1.out.alloc _) ⟨w1.heap.size, 0, none⟩ 1 1 [.string sz] rfl rfl (news_at _ _ _ _ (by simp)) (by simp [Value.oneCell']) (by unfold maxLen; omega) (by omega) (by simp; omega) ?_); intro v2 w2' hw2 hg2 hn2 hl2; obtain ⟨ao2, ln2, cp2, rfl⟩ := owns_form hw2; have ht2 := HN1.out.there (j := 1) (by omega) _ hg2; have hcx2 := ht2.1; have hfx2 := ht2.2; clear ht2; have hst2 := HN1.out.step (j := 1) (by omega) _ hg2 (u := .string sz) (by simp only [show ¬ (1 = 0) by omega, if_false, HL1.out]; exact hw2) hl2; have HN2' := hide hst2.1; have HP2 := hide hst2.2; have hd2 : (w2'.setCell ⟨x, 1, none⟩ (.slice ao2 ln2 cp2)).cell? ⟨x, 2, none⟩ = some (vs 2) := hst2.1.cj 2 (by omega); have HO2' : Hid ((w2'.setCell ⟨x, 1, none⟩ (.slice ao2 ln2 cp2)).ownsRow (x + 1) 4 1 (vs 2) i (ls 2)) := (by have := hst2.1.own 2 (by omega); simp only [show ¬ (2 = 1) by omega, show ¬ (2 = 0) by omega, if_false, HL2.out] at this; exact this); have hxl2 : x < w2'.heap.size := (by have h9 := hst2.1.lt; simpa using h9); clear hst2 hg2 hn2 hl2 hw2)
        | (at_builtin; (refine wpList_append_own_at _ rfl (.tmp 46) (.tmp 47) 64 rfl (x + 1) 4 ib (.bool false) 1 1 Tryz.underlying64 hib hb0 hb1 hb2 rfl (by decide) _ _ _ rfl (HO2'.out.alloc _) ⟨w2'.heap.size, 0, none⟩ 1 1 [.bool false] rfl rfl (news_at _ _ _ _ (by simp)) (by simp [Value.oneCell']) (by unfold maxLen; omega) (by omega) (by simp; omega) ?_); intro v3 w3 hw3 hg3 hn3 hl3; obtain ⟨ao3, ln3, cp3, rfl⟩ := owns_form hw3; have ht3 := HN2'.out.there (j := 2) (by omega) _ hg3; have hcx3 := ht3.1; have hfx3 := ht3.2; clear ht3; have hst3 := HN2'.out.step (j := 2) (by omega) _ hg3 (u := .bool false) (by simp only [show ¬ (2 = 1) by omega, show ¬ (2 = 0) by omega, if_false, HL2.out]; exact hw3) hl3; have HN3 := hide hst3.1; have HP3 := hide hst3.2; clear hst3 hg3 hn3 hl3 hw3))
      have HZ3 : Hid (Nw _ x _ _ ∧ Only (fun _ => False) w _) := ⟨HN3.out, ((HO.out.trans HP1.out (fun k hk e => by omega)).trans HP2.out (fun k hk e => by omega)).trans HP3.out (fun k hk e => by omega)⟩
      go_roundw
      case rel =>
        refine ⟨i + 1, _, _, by omega, by go_num, hide ⟨HZ3.out.1, ?_, ?_, ?_⟩, hide HZ3.out.2⟩
        · simp [HN.out.2.1, List.replicate_succ']
        · simp [HN.out.2.2.1, List.replicate_succ']
        · simp [HN.out.2.2.2, List.replicate_succ']
      case measure => simp [intOf]; omega
    · have ei : i = n := by omega
      have HF := hide (nw_xd HN.out.1 h1 h2 HZ.out (by rw [HN.out.2.1, ei]) (by rw [HN.out.2.2.1, ei]) (by rw [HN.out.2.2.2, ei])); clear ei
      go_wp2_with fail
      go_ret2
      rw [hx]
      exact ⟨rfl, HF.out, HO.out⟩
set_option maxRecDepth 100000 in
set_option maxHeartbeats 800000 in
theorem sameInts_true (w : World) (B1 B2 c1 c2 : Nat) (a1 a2 : Option Addr) (l : List Int) (h1 : Ints w B1 a1 l) (h2 : Ints w B2 a2 l) :
    Calls Tryz.prog 33 #[.slice a1 l.length c1, .slice a2 l.length c2] w fun e w' => e = .returned (.bool true) ∧ Only (fun _ => False) w w' := by
  have hlen := h1.len; have H1 := hide h1; have H2 := hide h2; clear h1 h2
  go_enter Tryz.func33, Tryz.ntmps33
  go_wp2_with fail
  go_loopw [5] (fun y wr => ∃ (j : Nat), j ≤ l.length ∧ y = .int .i64 (j : Int) ∧ Hid (Only (fun _ => False) w wr)) (fun y _ => l.length - (intOf y).toNat)
  case atStart => exact ⟨0, by omega, rfl, hide (Only.refl _ _)⟩
  case round =>
    obtain ⟨j, hj, rfl, HO⟩ := hrel
    by_cases hlt : j < l.length
    · obtain ⟨o1, e1, q1⟩ := (H1.out.kept HO.out (fun _ h => h)).at_ (by omega)
      obtain ⟨o2, e2, q2⟩ := (H2.out.kept HO.out (fun _ h => h)).at_ (by omega); have k1 := q1 j hlt; have k2 := q2 j hlt; obtain ⟨z, hz⟩ : ∃ z, l.getD j 0 = z := ⟨_, rfl⟩; rw [hz] at k1 k2
      have hj0 : (0 : Int) ≤ (j : Int) := by omega
      have hj1 : (j : Int) < (l.length : Int) := by omega
      clear q1 q2 hz; subst e1; subst e2
      go_wp2_with fail
      go_region
      go_wp2_with fail
      go_roundw
      case rel => exact ⟨j + 1, by omega, by go_num, hide (HO.out.trans (Only.drew _ _) (fun _ _ h => h))⟩
      case measure => simp [intOf]; omega
    · go_wp2_with fail
      go_ret
      exact ⟨rfl, HO.out⟩
end Go.Proofs.YtebijheonkagfaaGreatDoor
