/- What the law's does does. -/
import Derived.Test.YtmcghpeamnmbpaaOLw
namespace Go.Proofs.Ytmcghpeamnmbpaa
open Go.RowKit Go.Maps

/-- A call as a value, its list at ao. -/
def clv (c : Cl) (ao : Option Addr) (cp : Nat) : Value := .agg #[.int .i64 c.ask, .int .i64 c.who, .int .i64 c.n, .bool c.flag, .int .i64 c.nx, .slice ao c.act.length cp]
set_option maxRecDepth 100000 in
set_option maxHeartbeats 1600000 in
theorem does_any (w0 w : World) (K : Nat → Prop) (t n : Nat) (f : Tt) (H : Lw w0 K w t f n) (hK : ∀ k, K k → k < w.heap.size) (hn : n < maxLen) (c : Cl) (hc : N64 c.who) (Q : Nat → Prop) (ao : Option Addr) (cp : Nat) (hL : Nm w Q ao c.act) :
    Calls Try.prog 24 #[.pointer (some ⟨t, 0, none⟩), clv c ao cp] w fun e w' => e = .returned (.tuple #[]) ∧ Lw w0 K w' t (doF f c) (n + 1) ∧ Eff w0 K w w' := by
  obtain ⟨ask, who, nn, flag, nx, act⟩ := c
  unfold clv doF
  simp only at hc hL ⊢
  have HO := hide (onlyA w #[.int .i64 ask, .int .i64 who, .int .i64 nn, .bool flag, .int .i64 nx, .slice ao act.length cp] 31)
  have HB : Hid (Cb (w.alloc (.cells #[.int .i64 ask, .int .i64 who, .int .i64 nn, .bool flag, .int .i64 nx, .slice ao act.length cp] 31)) w.heap.size [.int .i64 ask, .int .i64 who, .int .i64 nn, .bool flag, .int .i64 nx, .slice ao act.length cp]) := Cb.new w _ _
  obtain ⟨W1, hW1⟩ : ∃ x, w.alloc (.cells #[.int .i64 ask, .int .i64 who, .int .i64 nn, .bool flag, .int .i64 nx, .slice ao act.length cp] 31) = x := ⟨_, rfl⟩
  rw [hW1] at HO HB
  have hH := H.more HO.out
  have HH := hide hH
  have HL := hide (hL.more HO.out)
  have HKK : Hid (∀ k, K k → k < W1.heap.size) := fun k hk => Nat.lt_of_lt_of_le (hK k hk) HO.out.size
  have HW1 := hide hW1
  obtain ⟨sz, hsz⟩ : ∃ z, w.heap.size = z := ⟨_, rfl⟩
  rw [hsz] at HB
  have HSZ := hide hsz
  have b0 := HB.out.c 0 _ rfl
  have b1 := HB.out.c 1 _ rfl
  have b2 := HB.out.c 2 _ rfl
  have b3 := HB.out.c 3 _ rfl
  have b4 := HB.out.c 4 _ rfl
  have b5 := HB.out.c 5 _ rfl
  have HN := hide hn
  have HA := hide hc
  have HC0 := hide (lw_begin w0 W1 K t n f hH HKK.out hn who hc Q nx ao cp act HL.out)
  have HC1 := hide (lw_take w0 W1 K t n f hH who hc nn)
  have HC2 := hide (lw_logged w0 W1 K t n f hH hn who hc nn flag)
  have HC3 := hide (lw_end w0 W1 K t n f hH who hc)
  clear H hH hL hK hW1 hsz hn hc
  by_cases h0 : ask = 0
  · subst h0
    simp only [if_true]
    go_enter Try.func24, Try.ntmps24
    go_upto_region 1 with fail
    rw [HW1.out, HSZ.out]
    go_wp2_with fail
    refine HC0.out.mono ?_
    rintro e w1 ⟨rfl, hl, ho⟩
    have HL1 := hide hl
    have HO1 := hide ho
    clear hl ho
    go_wp2_with fail
    refine bodyPost_end (results_none rfl _ _ _) rfl ?_
    exact ⟨rfl, HL1.out, (Eff.of HO.out).trans HO1.out⟩
  · have n0 : (ask == 0) = false := by simp [h0]
    simp only [if_neg h0]
    clear h0
    by_cases h1 : ask = 1
    · subst h1
      simp only [if_true]
      go_enter Try.func24, Try.ntmps24
      go_upto_region 1 with fail
      rw [HW1.out, HSZ.out]
      go_wp2_with fail
      refine HC1.out.mono ?_
      rintro e w1 ⟨rfl, hl, ho⟩
      have HL1 := hide hl
      have HO1 := hide ho
      clear hl ho
      go_wp2_with fail
      refine bodyPost_end (results_none rfl _ _ _) rfl ?_
      exact ⟨rfl, HL1.out, (Eff.of HO.out).trans HO1.out⟩
    · have n1 : (ask == 1) = false := by simp [h1]
      simp only [if_neg h1]
      clear h1
      by_cases h2 : ask = 2
      · subst h2
        simp only [if_true]
        go_enter Try.func24, Try.ntmps24
        go_upto_region 1 with fail
        rw [HW1.out, HSZ.out]
        go_wp2_with fail
        refine HC2.out.mono ?_
        rintro e w1 ⟨rfl, hl, ho⟩
        have HL1 := hide hl
        have HO1 := hide ho
        clear hl ho
        go_wp2_with fail
        refine bodyPost_end (results_none rfl _ _ _) rfl ?_
        exact ⟨rfl, HL1.out, (Eff.of HO.out).trans HO1.out⟩
      · have n2 : (ask == 2) = false := by simp [h2]
        simp only [if_neg h2]
        clear h2
        by_cases h3 : ask = 3
        · subst h3
          simp only [if_true]
          go_enter Try.func24, Try.ntmps24
          go_upto_region 1 with fail
          rw [HW1.out, HSZ.out]
          go_wp2_with fail
          refine HC3.out.mono ?_
          rintro e w1 ⟨⟨a2, c2, rfl, hN, _⟩, hl, ho⟩
          have HL1 := hide hl
          have HO1 := hide ho
          clear hl ho hN
          go_wp2_with fail
          refine bodyPost_end (results_none rfl _ _ _) rfl ?_
          exact ⟨rfl, HL1.out, (Eff.of HO.out).trans HO1.out⟩
        · have n3 : (ask == 3) = false := by simp [h3]
          simp only [if_neg h3]
          clear h3
          go_enter Try.func24, Try.ntmps24
          go_upto_region 1 with fail
          rw [HW1.out, HSZ.out]
          go_wp2_with fail
          refine bodyPost_end (results_none rfl _ _ _) rfl ?_
          exact ⟨rfl, HH.out.mono (Nat.le_succ n), Eff.of HO.out⟩
end Go.Proofs.Ytmcghpeamnmbpaa
