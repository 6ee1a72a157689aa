/- The law's own example. -/
import Derived.Test.YtmcghpeamnmbpaaODoes
namespace Go.Proofs.Ytmcghpeamnmbpaa
open Go.RowKit Go.Maps

def xf1 : Tt := Tt.none.set 2 (Tx.new 5 [])
def xf2 : Tt := xf1.set 2 ((Tx.new 5 []).take 5)
def xf3 : Tt := xf2.set 2 (((Tx.new 5 []).take 5).log 40 true)
theorem x_two : N64 2 := by unfold N64; omega
theorem x_b1 : beginE Tt.none 2 = 0 := rfl
theorem x_f1 : beginF Tt.none 2 5 [] = xf1 := rfl
theorem x_at1 : xf1 2 = some (Tx.new 5 []) := rfl
theorem x_b2 : beginE xf1 2 = 183 := rfl
theorem x_f2 : beginF xf1 2 0 [] = xf1 := rfl
theorem x_no5 : ¬ xf1.Has 5 := by
  rintro ⟨a, t, h, hx⟩
  unfold xf1 Tt.set at h
  split at h
  · cases h
    revert hx
    decide
  · cases h
theorem x_tc : ¬ ((5 : Int) < 1 ∨ (Tx.new 5 []).xid ≠ 0 ∨ xf1.Has 5) := by
  rintro (h | h | h)
  · omega
  · exact h rfl
  · exact x_no5 h
theorem x_te : takeE xf1 2 5 = 0 := by
  unfold takeE
  rw [x_at1]
  simp only [if_neg x_tc]
theorem x_tf : takeF xf1 2 5 = xf2 := by
  unfold takeF
  rw [x_at1]
  simp only [if_neg x_tc]
  rfl
theorem x_le : logE xf2 2 40 = 0 := rfl
theorem x_lf : logF xf2 2 40 true = xf3 := rfl
theorem x_at3 : xf3 2 = some ⟨5, [], 5, 40, 40, 1⟩ := rfl
theorem x_of : ofT xf3 2 = ⟨5, [], 5, 40, 40, 1⟩ := rfl
theorem x_old {n : Int} (h : OlIs xf3 n) : n = 40 := by
  by_cases e : n = 0
  · have h0 : (40 : Int) = 0 := h.no e 2 _ x_at3
    omega
  · obtain ⟨⟨a, t, h1, h2⟩, _⟩ := h.is e
    by_cases ha : a = 2
    · subst ha
      rw [x_at3] at h1
      cases h1
      exact h2.symm
    · have hn : xf3 a = none := by simp [xf3, xf2, xf1, Tt.set, Tt.none, ha]
      rw [hn] at h1
      cases h1
set_option maxRecDepth 100000 in
set_option maxHeartbeats 1600000 in
theorem awake_any (w : World) : Calls Try.prog 23 #[] w fun e w' => e = .returned (.bool true) ∧ Only (fun _ => False) w w' := by
  have HN := hide (lw_new w w (Nat.le_refl _) (fun _ => False) (fun _ h => h.elim))
  go_enter Try.func23, Try.ntmps23
  go_wp2_with fail
  refine HN.out.mono ?_
  rintro e w1 ⟨t, rfl, h1, ho1⟩
  have HO1 := hide ho1
  have HC1 := hide (lw_begin w w1 (fun _ => False) t 0 Tt.none h1 (fun _ h => h.elim) (by decide) 2 x_two (fun _ => True) 5 none 0 [] (Nm.none _ _ _))
  rw [x_b1, x_f1] at HC1
  clear h1 ho1 HN
  go_wp2_with fail
  refine HC1.out.mono ?_
  rintro e w2 ⟨rfl, h2, ho2⟩
  have HO2 := hide ho2
  have HC2 := hide (lw_begin w w2 (fun _ => False) t 1 xf1 h2 (fun _ h => h.elim) (by decide) 2 x_two (fun _ => True) 0 none 0 [] (Nm.none _ _ _))
  rw [x_b2, x_f2] at HC2
  clear h2 ho2 HC1
  go_wp2_with fail
  refine HC2.out.mono ?_
  rintro e w3 ⟨rfl, h3, ho3⟩
  have HO3 := hide ho3
  have HC3 := hide (lw_take w w3 (fun _ => False) t 2 xf1 h3 2 x_two 5)
  rw [x_te, x_tf] at HC3
  clear h3 ho3 HC2
  go_wp2_with fail
  refine HC3.out.mono ?_
  rintro e w4 ⟨rfl, h4, ho4⟩
  have HO4 := hide ho4
  have HC4 := hide (lw_logged w w4 (fun _ => False) t 3 xf2 h4 (by decide) 2 x_two 40 true)
  rw [x_le, x_lf] at HC4
  clear h4 ho4 HC3
  go_wp2_with fail
  refine HC4.out.mono ?_
  rintro e w5 ⟨rfl, h5, ho5⟩
  have HO5 := hide ho5
  have HC5 := hide (lw_of w w5 (fun _ => False) t 4 xf3 h5 2 x_two)
  rw [x_of, x_at3] at HC5
  have HT := hide h5
  clear h5 ho5 HC4
  go_wp2_with fail
  refine HC5.out.mono ?_
  rintro e w6 ⟨⟨a2, c2, rfl, hN, _⟩, ho6⟩
  have HO6 := hide ho6
  clear ho6 hN HC5
  unfold txv
  simp only [Option.isSome_some]
  have HT7 : Hid (∀ vs ty, Lw w (fun _ => False) (w6.alloc (.cells vs ty)) t xf3 4) := fun vs ty => (HT.out.more HO6.out).more (onlyA _ _ _)
  go_wp2_with fail
  refine (lw_old w _ (fun _ => False) t 4 xf3 (HT7.out _ _)).mono ?_
  rintro e w8 ⟨⟨x, rfl, hx⟩, ho8⟩
  obtain rfl := x_old hx
  have HO8 := hide ho8
  clear ho8 hx
  go_wp2_with fail
  go_ret
  have eff : Only (fun k => w.heap.size ≤ k ∧ ¬ False) w1 w5 := ((Eff.trans (w0 := w) (K := fun _ => False) HO2.out HO3.out).trans HO4.out).trans HO5.out
  exact ⟨rfl, (((HO1.out.trans eff (fun i hi e => by have := e.1; omega)).trans HO6.out (fun _ _ h => h)).trans (onlyA _ _ _) (fun _ _ h => h)).trans HO8.out (fun _ _ h => h)⟩
end Go.Proofs.Ytmcghpeamnmbpaa
