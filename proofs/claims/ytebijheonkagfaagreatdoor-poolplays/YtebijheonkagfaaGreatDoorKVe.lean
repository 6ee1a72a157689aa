/- The document's pool: Write, Fetch. -/
import Derived.Test.YtebijheonkagfaaGreatDoorKVPoolD
import Derived.Test.YtebijheonkagfaaGreatDoorKPRefD
import Derived.Test.YtebijheonkagfaaGreatDoorKDb
namespace Go.Proofs.YtebijheonkagfaaGreatDoor
open Go.RowKit
theorem Xh.none {W : World} {p xd a b c ka kb kc x fb cf tb : Nat} {ta : Option Addr} {tc base : Nat} {v8 : Value} {P : Pl} {D : Dk} {G : Lg} {tl : List (Int × Int)} {N : Nat → Prop} (h : Xh W p xd a b c ka kb kc x fb cf tb ta tc base v8 P D G tl N) (i : Nat) (hi : i < P.fs.length) : Xh (W.setCells fb (i * 8) (Fm.none.xl Option.none 0)) p xd a b c ka kb kc x fb cf tb ta tc base v8 (P.setF i Fm.none) D G tl N ∧ Only (fun k => k = fb) W (W.setCells fb (i * 8) (Fm.none.xl Option.none 0)) := by
  obtain ⟨h1, h2⟩ := h.pl.lay i hi Fm.none 0 Option.none 0 (Strs.nil _ _ _) ⟨fun _ => rfl, by simp [Fm.none, Pg.none], by simp⟩ (fun h0 => absurd h0 (by simp [Fm.none, Pg.none])) (by simp [Fm.none, Pg.none, ByteArray.size]) (by simp [Fm.none, Pg.none]) (.inl ⟨rfl, rfl⟩)
  exact ⟨h.pool (h2.mono (fun _ _ e => .inr e)) h1, h2⟩
def tkI (o : Option Nat) : Int := match o with | some i => (i : Int) | none => 0
theorem Xp.slots {N : Nat → Prop} {W : World} {p xd x fb cf tb : Nat} {ta : Option Addr} {tc : Nat} {P : Pl} {tl : List (Int × Int)} (h : Xp W p xd x fb cf tb ta tc P tl N) (i : Nat) (hi : i < P.fs.length) : ∃ u0 u1 u2 u3 u4 u5 u6 u7 : Value, (W.cell? ⟨fb, i * 8, none⟩ = some u0 ∧ W.cell? ⟨fb, i * 8 + 1, none⟩ = some u1 ∧ W.cell? ⟨fb, i * 8 + 2, none⟩ = some u2 ∧ W.cell? ⟨fb, i * 8 + 3, none⟩ = some u3 ∧ W.cell? ⟨fb, i * 8 + 4, none⟩ = some u4 ∧ W.cell? ⟨fb, i * 8 + 5, none⟩ = some u5 ∧ W.cell? ⟨fb, i * 8 + 6, none⟩ = some u6 ∧ W.cell? ⟨fb, i * 8 + 7, none⟩ = some u7) ∧ (W.frozen? ⟨fb, i * 8, none⟩ = false ∧ W.frozen? ⟨fb, i * 8 + 1, none⟩ = false ∧ W.frozen? ⟨fb, i * 8 + 2, none⟩ = false ∧ W.frozen? ⟨fb, i * 8 + 3, none⟩ = false ∧ W.frozen? ⟨fb, i * 8 + 4, none⟩ = false ∧ W.frozen? ⟨fb, i * 8 + 5, none⟩ = false ∧ W.frozen? ⟨fb, i * 8 + 6, none⟩ = false ∧ W.frozen? ⟨fb, i * 8 + 7, none⟩ = false) := by
  obtain ⟨⟨B, ao, cp, h1, h2, h3, h4⟩, _⟩ := h.fr i hi
  exact ⟨_, _, _, _, _, _, _, _, ⟨h1 0 _ rfl, h1 1 _ rfl, h1 2 _ rfl, h1 3 _ rfl, h1 4 _ rfl, h1 5 _ rfl, h1 6 _ rfl, h1 7 _ rfl⟩, ⟨h.ffz _, h.ffz _, h.ffz _, h.ffz _, h.ffz _, h.ffz _, h.ffz _, h.ffz _⟩⟩
set_option maxRecDepth 100000 in
set_option maxHeartbeats 6400000 in
theorem gptake_any (w : World) (p xd a b c ka kb kc x fb cf tb : Nat) (ta : Option Addr) (tc base : Nat) (v8 : Value) (P : Pl) (D : Dk) (G : Lg) (tl : List (Int × Int)) (N : Nat → Prop) (h : Xh w p xd a b c ka kb kc x fb cf tb ta tc base v8 P D G tl N) (hu : P.Ux) (hok : P.Ok) (pick : Int) :
    Calls Tryz.prog 58 #[.pointer (some ⟨p, 0, none⟩), .int .i64 pick] w fun e w' =>
      e = .returned (.tuple #[.int .i64 (tkI (P.take D G pick).2), .int .i64 (P.take D G pick).1.c]) ∧ XhR w w' p xd a b c ka kb kc x fb cf base v8 N (P.take D G pick).1 := by
  obtain ⟨R, hR⟩ : ∃ R, P.take D G pick = R := ⟨_, rfl⟩; rw [hR]; have HR := hide hR; have HX := hide h; have HU := hide hu; have HOK := hide hok; have c4 := h.pl.c4; have hnf1 := h.pl.nf.1; have hnf2 := h.pl.nf.2; have HF := hide h.pl.fr; have HNN := hide h.pl.nn; clear h hu hok hR
  go_enter Tryz.func58, Tryz.ntmps58
  go_wp2_with fail
  go_loop [6] (fun y => ∃ j : Nat, j ≤ P.fs.length ∧ y = .int .i64 (j : Int) ∧ Hid (∀ k (hk : k < P.fs.length), k < j → P.fs[k].num ≠ -1)) (fun y => P.fs.length - (intOf y).toNat)
  case atStart => exact ⟨0, by omega, rfl, (fun k _ hk => by omega)⟩
  case round =>
    obtain ⟨j, hj, rfl, HQ⟩ := hrel
    by_cases hlt : j < P.fs.length
    · have k1 := (HF.out j hlt).cells.1
      have hjl : (j : Int) < (P.fs.length : Int) := by omega
      have hnn := HNN.out P.fs[j] (List.getElem_mem hlt)
      by_cases he : P.fs[j].num = -1
      · have HI := hide (idx_at hlt HQ.out he)
        rw [he] at k1; clear he hnn
        go_wp2_with fail
        go_ret2
        have hr := HR.out; unfold Pl.take at hr; rw [HI.out] at hr
        simp only at hr
        subst hr
        exact ⟨rfl, ⟨_, _, _, _, HX.out⟩, Only.refl _ _⟩
      · have hge : ¬ P.fs[j].num < 0 := by omega
        obtain ⟨z, hz⟩ : ∃ z, P.fs[j].num = z := ⟨_, rfl⟩; have HZ := hide hz; rw [hz] at k1 he hge; have HE := hide he; clear he hz hnn
        go_wp2_with fail
        go_round
        case rel =>
          refine ⟨j + 1, by omega, by go_num, ?_⟩; intro k hk hkj
          by_cases ek : k = j
          · subst ek; rw [HZ.out]; exact HE.out
          · exact HQ.out k hk (by omega)
        case measure => simp [intOf]; omega
    · have HI := hide (idx_no (P := P) (n := -1) (fun k hk => HQ.out k hk (by omega)))
      have hjl : ¬ (j : Int) < (P.fs.length : Int) := by omega
      have HTA : Hid (P.takeAt D G (pick % (P.fs.length : Int)).toNat = R) := by
        have hr := HR.out; unfold Pl.take at hr; rw [HI.out] at hr
        exact hr
      obtain ⟨r1, r2, r3⟩ := take_rem (pick := pick) hnf1; have hpm := Int.emod_nonneg pick (b := (P.fs.length : Int)) (by omega); have hpl := Int.emod_lt_of_pos pick (b := (P.fs.length : Int)) (by omega); have hn0 : ((P.fs.length : Int) == 0) = false := beq_false_of_ne (by omega); obtain ⟨q, hq⟩ : ∃ q, pick.tmod (P.fs.length : Int) = q := ⟨_, rfl⟩; rw [hq] at r1 r2 r3; obtain ⟨m, hm⟩ : ∃ m, (pick % (P.fs.length : Int)).toNat = m := ⟨_, rfl⟩; rw [hm] at HTA
      have hml : m < P.fs.length := by omega
      have hmi : (m : Int) = pick % (P.fs.length : Int) := by omega
      have e7 := (HF.out m hml).cells.2.2; rw [get_at hml] at e7; have HML := hide hml
      have hml' : (m : Int) < (P.fs.length : Int) := by omega
      have hqm : (q < 0 ∧ q + (P.fs.length : Int) = (m : Int)) ∨ (¬ q < 0 ∧ q = (m : Int)) := by
        have hq2 : (q + (P.fs.length : Int)).tmod (P.fs.length : Int) = (m : Int) := by rw [r3, hmi]
        by_cases h0 : q < 0
        · refine .inl ⟨h0, ?_⟩
          rw [Int.tmod_eq_emod_of_nonneg (by omega), Int.emod_eq_of_lt (by omega) (by omega)] at hq2
          exact hq2
        · refine .inr ⟨h0, ?_⟩
          rw [Int.tmod_eq_emod_of_nonneg (by omega), Int.add_emod_right, Int.emod_eq_of_lt (by omega) (by omega)] at hq2
          exact hq2
      have HMEM : Hid (P.get m ∈ P.fs) := by unfold Hid; rw [← get_at hml]; exact List.getElem_mem hml
      have HNM := hide (HNN.out (P.get m) HMEM.out); clear r3 hpm hpl hm hmi hlt; unfold Pl.takeAt at HTA
      cases hch : (P.get m).chg
      · rw [hch] at e7 HTA
        simp only [Bool.false_eq_true, if_false] at HTA; clear hch HNM HMEM
        rcases hqm with ⟨hq0, hqe⟩ | ⟨hq0, hqe⟩
        all_goals
          obtain ⟨u0, u1, u2, u3, u4, u5, u6, u7, ⟨e0, e1, e2, e3, e4, e5, e6, _⟩, ⟨g0, g1, g2, g3, g4, g5, g6, g7⟩⟩ := HX.out.pl.slots m HML.out
          go_wp2_with fail
          go_ret2
          have z := HX.out.none m HML.out; rw [show Fm.none.xl Option.none 0 = [.int .i64 (-1), .int .i64 0, .int .i64 0, .int .i64 0, .int .i64 0, .string ⟨#[]⟩, .slice none 0 0, .bool false] from rfl, setCells8] at z
          exact ⟨by rw [← HTA.out]; rfl, by rw [← HTA.out]; exact ⟨⟨_, _, _, _, z.1⟩, z.2.mono (fun _ _ e => .inr (.inr (.inr e)))⟩⟩
      · rw [hch] at e7 HTA
        simp only [if_true] at HTA
        have hno : 0 ≤ (P.get m).num ∧ (P.get m).num < (P.pages : Int) := by
          rcases HNM.out with ⟨_, h2⟩ | h2
          · rw [hch] at h2; cases h2
          · exact h2
        have HWR := hide (gpwrites_any w p xd a b c ka kb kc x fb cf tb ta tc base v8 P D G tl N HX.out HU.out m HML.out (P.get m) (get_at HML.out) hno (HOK.out _ HMEM.out hch)); have HLN := hide (write_fs P D G m (P.get m)); obtain ⟨Y, hY⟩ : ∃ Y, P.write D G m (P.get m) = Y := ⟨_, rfl⟩; rw [hY] at HWR HTA HLN; clear hY hch HNM HMEM hno
        rcases hqm with ⟨hq0, hqe⟩ | ⟨hq0, hqe⟩
        all_goals
          go_wp2_with fail
          refine HWR.out.mono ?_; rintro e w1 ⟨rfl, ⟨tb1, ta1, tc1, tl1, hx1⟩, ho1⟩; have HX1 := hide hx1; have HO1 := hide ho1
          have HML1 : Hid (m < Y.P.fs.length) := by unfold Hid; rw [HLN.out.1]; exact HML.out
          clear hx1 ho1 c4 e7
          by_cases hy : Y.c = 0
          · have hy' : (Y.c != 0) = false := by simp [hy]
            rw [if_pos hy] at HTA; clear hy; have d4 := HX1.out.pl.c4; have hln : Y.P.fs.length = P.fs.length := HLN.out.1; rw [hln] at d4; obtain ⟨u0, u1, u2, u3, u4, u5, u6, u7, ⟨e0, e1, e2, e3, e4, e5, e6, e7⟩, ⟨g0, g1, g2, g3, g4, g5, g6, g7⟩⟩ := HX1.out.pl.slots m HML1.out
            go_wp2_with fail
            go_ret2
            have z := HX1.out.none m HML1.out; rw [show Fm.none.xl Option.none 0 = [.int .i64 (-1), .int .i64 0, .int .i64 0, .int .i64 0, .int .i64 0, .string ⟨#[]⟩, .slice none 0 0, .bool false] from rfl, setCells8] at z
            exact ⟨by rw [← HTA.out]; rfl, by rw [← HTA.out]; exact ⟨⟨_, _, _, _, z.1⟩, HO1.out.trans z.2 (fun _ _ e => .inr (.inr (.inr e)))⟩⟩
          · have hy' : (Y.c != 0) = true := by simpa using hy
            rw [if_neg hy] at HTA; clear hy
            go_wp2_with fail
            go_ret2
            exact ⟨by rw [← HTA.out]; rfl, by rw [← HTA.out]; exact ⟨⟨_, _, _, _, HX1.out⟩, HO1.out⟩⟩
theorem ld_xframes {w : World} {p : Addr} {v : Value} (h : w.cell? p = some v) : (loadVar 97 p).run Tryz.prog w = .ok v w := by simp [loadVar, go_sem, h]
set_option maxRecDepth 100000 in
set_option maxHeartbeats 3200000 in
theorem gpwrite_any (w : World) (p xd a b c ka kb kc x fb cf tb : Nat) (ta : Option Addr) (tc base : Nat) (v8 : Value) (P : Pl) (D : Dk) (G : Lg) (tl : List (Int × Int)) (N : Nat → Prop) (h : Xh w p xd a b c ka kb kc x fb cf tb ta tc base v8 P D G tl N) (hu : P.Ux) (hok : P.Ok) (n : Int) :
    Calls Tryz.prog 20 #[.pointer (some ⟨p, 0, none⟩), .int .i64 n] w fun e w' =>
      e = .returned (.int .i64 (P.writeN D G n).c) ∧ XhR w w' p xd a b c ka kb kc x fb cf base v8 N (P.writeN D G n) := by
  obtain ⟨R, hR⟩ : ∃ R, P.writeN D G n = R := ⟨_, rfl⟩; rw [hR]; unfold Pl.writeN at hR; have HX := hide h; have c3 := h.pl.c3; have c4 := h.pl.c4; have hnp := h.pl.np.2; have hnf := h.pl.nf.2
  by_cases h0 : n < 0
  · have hC : P.hasC n = 4 := by unfold Pl.hasC; rw [if_neg (fun e => by omega)]
    rw [hC, if_pos (by decide)] at hR; have HR := hide hR; clear h hR hu hok
    go_enter Tryz.func20, Tryz.ntmps20
    go_wp2_with fail
    go_ret
    exact ⟨by rw [← HR.out]; rfl, by rw [← HR.out]; exact ⟨⟨_, _, _, _, HX.out⟩, Only.refl _ _⟩⟩
  · by_cases h1 : (P.pages : Int) ≤ n
    · have hC : P.hasC n = 4 := by unfold Pl.hasC; rw [if_neg (fun e => by omega)]
      rw [hC, if_pos (by decide)] at hR; have HR := hide hR; clear h hR hu hok
      go_enter Tryz.func20, Tryz.ntmps20
      go_wp2_with fail
      go_ret
      exact ⟨by rw [← HR.out]; rfl, by rw [← HR.out]; exact ⟨⟨_, _, _, _, HX.out⟩, Only.refl _ _⟩⟩
    · have hC : P.hasC n = 0 := by unfold Pl.hasC; rw [if_pos ⟨by omega, by omega⟩]
      rw [hC, if_neg (by decide)] at hR; have HAT := hide (gpat_any w p xd x fb cf tb ta tc P tl N h.pl n)
      cases hi : P.idx n with
      | none =>
        rw [hi] at hR HAT; unfold idxI at HAT
        simp only at hR HAT
        have HR := hide hR; clear h hR hu hok hi
        go_enter Tryz.func20, Tryz.ntmps20
        go_wp2_with fail
        refine HAT.out.mono ?_; rintro e w1 ⟨rfl, hw⟩; obtain rfl := hw.symm; clear hw
        go_wp2_with fail
        go_ret
        exact ⟨by rw [← HR.out]; rfl, by rw [← HR.out]; exact ⟨⟨_, _, _, _, HX.out⟩, Only.refl _ _⟩⟩
      | some i =>
        rw [hi] at hR HAT; unfold idxI at HAT
        simp only at hR HAT
        obtain ⟨i1, i2⟩ := idx_lt hi; have e7 := (h.pl.fr i i1).cells.2.2; rw [get_at i1] at e7
        have hil : (i : Int) < (P.fs.length : Int) := by omega
        have hmem : P.get i ∈ P.fs := by rw [← get_at i1]; exact List.getElem_mem i1
        cases hc : (P.get i).chg
        · rw [hc] at hR e7
          simp only [Bool.false_eq_true, if_false] at hR; have HR := hide hR; clear h hR hu hok hi i2 hc hmem
          go_enter Tryz.func20, Tryz.ntmps20
          go_wp2_with fail
          refine HAT.out.mono ?_; rintro e w1 ⟨rfl, hw⟩; obtain rfl := hw.symm; clear hw
          go_wp2_with fail
          go_ret
          exact ⟨by rw [← HR.out]; rfl, by rw [← HR.out]; exact ⟨⟨_, _, _, _, HX.out⟩, Only.refl _ _⟩⟩
        · rw [hc] at hR e7
          simp only [if_true] at hR; have HWR := hide (gpwrites_any w p xd a b c ka kb kc x fb cf tb ta tc base v8 P D G tl N h hu i i1 (P.get i) (get_at i1) (by rw [i2]; omega) (hok _ hmem hc)); rw [hR] at HWR; clear h hR hu hok hi i2 hc hmem
          go_enter Tryz.func20, Tryz.ntmps20
          go_wp2_with fail
          refine HAT.out.mono ?_; rintro e w1 ⟨rfl, hw⟩; obtain rfl := hw.symm; clear hw
          go_wp2_with fail
          refine HWR.out.mono ?_; rintro e w2 ⟨rfl, hx2⟩; have HX2 := hide hx2; clear hx2
          go_wp2_with fail
          go_ret
          exact ⟨rfl, HX2.out⟩
theorem Xh.fresh {W : World} {p xd a b c ka kb kc x fb cf tb : Nat} {ta : Option Addr} {tc base : Nat} {v8 : Value} {P : Pl} {D : Dk} {G : Lg} {tl : List (Int × Int)} {N : Nat → Prop} (h : Xh W p xd a b c ka kb kc x fb cf tb ta tc base v8 P D G tl N) (k : Nat) (hk : W.heap.size ≤ k) : k ≠ p ∧ k ≠ fb ∧ ¬ xown xd a b c k ∧ k ≠ x ∧ v8.ownBlock ≠ some k := by
  have h1 := h.pl.lt; have h2 := h.pl.flt; have h3 := h.ww.dk.lt; have h4 := h.ww.dk.ra.lt; have h5 := h.ww.dk.rb.lt; have h6 := h.ww.dk.rc.lt; have h7 := h.ww.lg.lt; refine ⟨by omega, by omega, ?_, by omega, fun e => ?_⟩
  · rintro (e | e | e | e) <;> omega
  · have := (World.ownsRow.lt h.ww.lg.pl k e).2
    omega
theorem Xh.narrow {w : World} {p xd a b c ka kb kc x fb cf tb : Nat} {ta : Option Addr} {tc base : Nat} {v8 : Value} {P : Pl} {D : Dk} {G : Lg} {tl : List (Int × Int)} {N : Nat → Prop} (h : Xh w p xd a b c ka kb kc x fb cf tb ta tc base v8 P D G tl N) (o : Obj) : Xh (w.alloc o) p xd a b c ka kb kc x fb cf tb ta tc base v8 P D G tl (fun k => N k ∧ k ≠ w.heap.size) := by
  have q := h.more (onlyA w o); have l := q.pl
  have hb : ∀ B, B < w.heap.size → N B → (N B ∧ B ≠ w.heap.size) := fun B hB hN => ⟨hN, by omega⟩
  refine ⟨⟨l.c0, l.c1, l.c2, l.c3, l.c4, l.c5, l.fz, l.lt, fun i hi => ?_, l.ffz, l.flt, l.tab, l.tft, fun h0 => ⟨l.tn h0, by have := h.pl.tab.lt h0; omega⟩, l.n1, fun e => l.t1 e.1, fun e => l.t2 e.1, l.nf, l.np, l.nm, l.nn, l.ts, l.tm, fun k hk => ⟨l.new k hk, by rw [World.size_alloc] at hk; omega⟩⟩, q.ww, q.a1, q.a2, q.a3, q.a4, q.a5, q.a6, fun k hk => q.a7 k hk.1, q.f1, q.tt⟩
  exact ((h.pl.fr i hi).wide hb).kept (onlyA w o) (fun h => h) (fun _ _ _ h => h)
structure Fx (w W : World) (p xd a b c ka kb kc x fb cf tb : Nat) (ta : Option Addr) (tc base : Nat) (v8 : Value) (P : Pl) (D : Dk) (G : Lg) (tl : List (Int × Int)) (N : Nat → Prop) : Prop where
  xh : Xh W p xd a b c ka kb kc x fb cf tb ta tc base v8 P D G tl (fun k => N k ∧ k ≠ w.heap.size)
  res : Pag W w.heap.size (.int .i64 0) (.int .i64 0) (.int .i64 0) (.int .i64 0) (.string ⟨#[]⟩) (.slice Option.none 0 0)
  only : Only (fun k => xown xd a b c k ∨ k = x ∨ k = p ∨ k = fb) w W
  n1 : ¬ N p
  n2 : ¬ N fb
  n7 : ∀ k, N k → ¬ xown xd a b c k ∧ k ≠ x
  new : ∀ k, w.heap.size ≤ k → N k
  fr : w.heap.size ≠ p ∧ w.heap.size ≠ fb ∧ ¬ xown xd a b c w.heap.size ∧ w.heap.size ≠ x ∧ v8.ownBlock ≠ some w.heap.size
theorem Fx.start {w : World} {p xd a b c ka kb kc x fb cf tb : Nat} {ta : Option Addr} {tc base : Nat} {v8 : Value} {P : Pl} {D : Dk} {G : Lg} {tl : List (Int × Int)} {N : Nat → Prop} (h : Xh w p xd a b c ka kb kc x fb cf tb ta tc base v8 P D G tl N) : Fx w (w.alloc (.cells #[.int .i64 0, .int .i64 0, .int .i64 0, .int .i64 0, .string ⟨#[]⟩, .slice Option.none 0 0] 45)) p xd a b c ka kb kc x fb cf tb ta tc base v8 P D G tl N :=
  ⟨h.narrow _, Pag.new w _ _ _ _ _ _, Only.alloc _ _ _, h.pl.t1, h.pl.t2, h.a7, h.pl.new, h.fresh _ (Nat.le_refl _)⟩
theorem Fx.more {w W W' : World} {p xd a b c ka kb kc x fb cf tb : Nat} {ta : Option Addr} {tc base : Nat} {v8 : Value} {P : Pl} {D : Dk} {G : Lg} {tl : List (Int × Int)} {N : Nat → Prop} (h : Fx w W p xd a b c ka kb kc x fb cf tb ta tc base v8 P D G tl N) (ho : Only (fun _ => False) W W') : Fx w W' p xd a b c ka kb kc x fb cf tb ta tc base v8 P D G tl N :=
  ⟨h.xh.more ho, h.res.more ho, h.only.trans ho (fun _ _ e => e.elim), h.n1, h.n2, h.n7, h.new, h.fr⟩
theorem Fx.step {w W W' : World} {p xd a b c ka kb kc x fb cf tb : Nat} {ta : Option Addr} {tc base : Nat} {v8 : Value} {P : Pl} {D : Dk} {G : Lg} {tl : List (Int × Int)} {N : Nat → Prop} {P' : Pl} {D' : Dk} {G' : Lg} {tb' : Nat} {ta' : Option Addr} {tc' : Nat} {tl' : List (Int × Int)} (h : Fx w W p xd a b c ka kb kc x fb cf tb ta tc base v8 P D G tl N) (ho : Only (fun k => xown xd a b c k ∨ k = x ∨ k = p ∨ k = fb) W W') (hx : Xh W' p xd a b c ka kb kc x fb cf tb' ta' tc' base v8 P' D' G' tl' (fun k => N k ∧ k ≠ w.heap.size)) : Fx w W' p xd a b c ka kb kc x fb cf tb' ta' tc' base v8 P' D' G' tl' N :=
  ⟨hx, h.res.kept ho (fun e => by rcases e with e | e | e | e; exact h.fr.2.2.1 e; exact h.fr.2.2.2.1 e; exact h.fr.1 e; exact h.fr.2.1 e), h.only.trans ho (fun _ _ e => e), h.n1, h.n2, h.n7, h.new, h.fr⟩
theorem Fx.fin {w W : World} {p xd a b c ka kb kc x fb cf tb : Nat} {ta : Option Addr} {tc base : Nat} {v8 : Value} {P : Pl} {D : Dk} {G : Lg} {tl : List (Int × Int)} {N : Nat → Prop} (h : Fx w W p xd a b c ka kb kc x fb cf tb ta tc base v8 P D G tl N) (v0 v1 v2 v3 v4 v5 : Value) : Xh ((((((W.setCell ⟨w.heap.size, 0, none⟩ v0).setCell ⟨w.heap.size, 1, none⟩ v1).setCell ⟨w.heap.size, 2, none⟩ v2).setCell ⟨w.heap.size, 3, none⟩ v3).setCell ⟨w.heap.size, 4, none⟩ v4).setCell ⟨w.heap.size, 5, none⟩ v5) p xd a b c ka kb kc x fb cf tb ta tc base v8 P D G tl N ∧ Only (fun k => xown xd a b c k ∨ k = x ∨ k = p ∨ k = fb) w ((((((W.setCell ⟨w.heap.size, 0, none⟩ v0).setCell ⟨w.heap.size, 1, none⟩ v1).setCell ⟨w.heap.size, 2, none⟩ v2).setCell ⟨w.heap.size, 3, none⟩ v3).setCell ⟨w.heap.size, 4, none⟩ v4).setCell ⟨w.heap.size, 5, none⟩ v5) := by
  have ho := Only.six W w.heap.size v0 v1 v2 v3 v4 v5; obtain ⟨f1, f2, f3, f4, f5⟩ := h.fr; have q := h.xh.pl.kept ho (fun e => f1 e.symm) (fun e => f2 e.symm) (fun B _ hB e => hB.2 e); have g := h.xh.ww.kept ho (fun k hk e => f3 (e ▸ hk)) (fun e => f4 e.symm) (fun k hk e => f5 (e ▸ hk)); have hs := h.only.size; refine ⟨⟨⟨q.c0, q.c1, q.c2, q.c3, q.c4, q.c5, q.fz, q.lt, fun i hi => (q.fr i hi).wide (fun B _ hB => hB.1), q.ffz, q.flt, q.tab, q.tft, fun h0 => (q.tn h0).1, q.n1, h.n1, h.n2, q.nf, q.np, q.nm, q.nn, q.ts, q.tm, fun k hk => h.new k (Nat.le_trans hs (Nat.le_trans ho.size hk))⟩, g, h.xh.a1, h.xh.a2, h.xh.a3, h.xh.a4, h.xh.a5, h.xh.a6, h.n7, h.xh.f1, h.xh.tt⟩, h.only.trans ho (fun i hi e => by omega)⟩
def XfR (w w' : World) (e : Ending) (p xd a b c ka kb kc x fb cf base : Nat) (v8 : Value) (N : Nat → Prop) (o : Wo) (pg : Pg) : Prop :=
  ∃ Bq aq cq, e = .returned (.tuple #[.agg #[.int .i64 pg.lsn, .int .i64 pg.kind, .int .i64 pg.level, .int .i64 pg.right, .string pg.high, .slice aq pg.items.length cq], .int .i64 o.c]) ∧ Strs w' Bq aq pg.items ∧ Fit aq pg.items.length cq ∧ (0 < pg.items.length → w.heap.size < Bq) ∧ XhR w w' p xd a b c ka kb kc x fb cf base v8 N o
theorem Fx.zero {w W : World} {p xd a b c ka kb kc x fb cf tb : Nat} {ta : Option Addr} {tc base : Nat} {v8 : Value} {P : Pl} {D : Dk} {G : Lg} {tl : List (Int × Int)} {N : Nat → Prop} (h : Fx w W p xd a b c ka kb kc x fb cf tb ta tc base v8 P D G tl N) (k : Int) : XfR w ((((((W.setCell ⟨w.heap.size, 0, none⟩ (.int .i64 0)).setCell ⟨w.heap.size, 1, none⟩ (.int .i64 0)).setCell ⟨w.heap.size, 2, none⟩ (.int .i64 0)).setCell ⟨w.heap.size, 3, none⟩ (.int .i64 0)).setCell ⟨w.heap.size, 4, none⟩ (.string ⟨#[]⟩)).setCell ⟨w.heap.size, 5, none⟩ (.slice Option.none 0 0)) (.returned (.tuple #[.agg #[.int .i64 0, .int .i64 0, .int .i64 0, .int .i64 0, .string ⟨#[]⟩, .slice Option.none 0 0], .int .i64 k])) p xd a b c ka kb kc x fb cf base v8 N ⟨k, P, D, G⟩ Pg.none :=
  ⟨0, Option.none, 0, rfl, Strs.nil _ _ _, ⟨fun _ => rfl, by simp [Pg.none], by simp⟩, fun h => absurd h (by simp [Pg.none]), ⟨_, _, _, _, (h.fin _ _ _ _ _ _).1⟩, (h.fin _ _ _ _ _ _).2⟩
end Go.Proofs.YtebijheonkagfaaGreatDoor
