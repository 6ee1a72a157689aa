/- The table beside what a law keeps of its own: its calls. -/
import Derived.Test.YtmcghpeamnmbpaaOOf
import Derived.Test.YtmcghpeamnmbpaaOLog
import Derived.Test.YtmcghpeamnmbpaaOBegin
import Derived.Test.YtmcghpeamnmbpaaOOld
import Derived.Test.YtmcghpeamnmbpaaOSnap
import Derived.Test.YtmcghpeamnmbpaaORun
namespace Go.Proofs.Ytmcghpeamnmbpaa
open Go.RowKit Go.Maps

theorem Tabg.fit {w : World} {Z : Nat → Prop} {t m n : Nat} {g : Gm} {f : Tt} (H : Tabg w Z t m n g f) : Tabg w (fun k => Z k ∧ k < w.heap.size) t m n g f := by
  refine ⟨H.c0, H.lt, H.own, H.ne, ⟨H.zt, H.lt⟩, ⟨H.zm, H.own.lt⟩, H.dom, fun a b e => ?_, H.inj, H.ok⟩
  obtain ⟨s, x, e1, hx, hn, hz, h2, h3⟩ := H.at_ a b e
  exact ⟨s, x, e1, hx, hn.mono (fun k hk hq => ⟨⟨hq.1, hk⟩, hq.2⟩), ⟨hz, hx.lt⟩, h2, h3⟩
/-- A table made since w0, in blocks that are not of K. -/
structure Lw (w0 : World) (K : Nat → Prop) (w : World) (t : Nat) (f : Tt) (n : Nat) : Prop where
  ex : ∃ m Z, Tab w Z t m n f ∧ ∀ k, Z k → w0.heap.size ≤ k ∧ k < w.heap.size ∧ ¬ K k
/-- What its calls may change. -/
def Eff (w0 : World) (K : Nat → Prop) (w w' : World) : Prop := Only (fun k => w0.heap.size ≤ k ∧ ¬ K k) w w'
theorem Lw.mono {w0 w : World} {K : Nat → Prop} {t n n' : Nat} {f : Tt} (h : Lw w0 K w t f n) (hn : n ≤ n') : Lw w0 K w t f n' := by
  obtain ⟨m, Z, hT, hZ⟩ := h.ex
  exact ⟨m, Z, hT.mono hn, hZ⟩
theorem Lw.kept {S K : Nat → Prop} {w0 w w' : World} {t n : Nat} {f : Tt} (h : Lw w0 K w t f n) (ho : Only S w w') (hS : ∀ k, S k → K k ∨ k < w0.heap.size) : Lw w0 K w' t f n := by
  obtain ⟨m, Z, hT, hZ⟩ := h.ex
  refine ⟨m, Z, hT.kept ho (fun k _ hz hs => ?_), fun k hk => ⟨(hZ k hk).1, Nat.lt_of_lt_of_le (hZ k hk).2.1 ho.size, (hZ k hk).2.2⟩⟩
  rcases hS k hs with h | h
  · exact (hZ k hz).2.2 h
  · have := (hZ k hz).1; omega
theorem Lw.more {K : Nat → Prop} {w0 w w' : World} {t n : Nat} {f : Tt} (h : Lw w0 K w t f n) (ho : Only (fun _ => False) w w') : Lw w0 K w' t f n := h.kept ho (fun _ h => h.elim)
theorem Lw.size {K : Nat → Prop} {w0 w : World} {t n : Nat} {f : Tt} (h : Lw w0 K w t f n) : w0.heap.size ≤ w.heap.size := by
  obtain ⟨m, Z, ⟨g, hT⟩, hZ⟩ := h.ex
  have := hZ t hT.zt
  omega
theorem Lw.ok {K : Nat → Prop} {w0 w : World} {t n : Nat} {f : Tt} (h : Lw w0 K w t f n) : f.Ok n := by
  obtain ⟨m, Z, ⟨g, hT⟩, hZ⟩ := h.ex
  exact hT.ok
/-- Another set of one's own, that has only blocks that the table hasn't. -/
theorem Lw.fence {K : Nat → Prop} {w0 w w' : World} {t n : Nat} {f : Tt} (h : Lw w0 K w t f n) (ho : Only (fun _ => False) w w') : Lw w0 (fun k => K k ∨ (w.heap.size ≤ k ∧ k < w'.heap.size)) w' t f n := by
  obtain ⟨m, Z, hT, hZ⟩ := h.ex
  refine ⟨m, Z, hT.more ho, fun k hk => ⟨(hZ k hk).1, Nat.lt_of_lt_of_le (hZ k hk).2.1 ho.size, fun e => ?_⟩⟩
  have := hZ k hk
  rcases e with e | e
  · exact this.2.2 e
  · omega
theorem Eff.refl (w0 : World) (K : Nat → Prop) (w : World) : Eff w0 K w w := Only.refl _ _
theorem Eff.trans {w0 w w1 w2 : World} {K : Nat → Prop} (h : Eff w0 K w w1) (k : Eff w0 K w1 w2) : Eff w0 K w w2 := Only.trans h k (fun _ _ h => h)
theorem Eff.of {w0 w w1 : World} {K : Nat → Prop} (h : Only (fun _ => False) w w1) : Eff w0 K w w1 := h.mono (fun _ _ h => h.elim)
theorem lw_new (w0 w : World) (h : w0.heap.size ≤ w.heap.size) (K : Nat → Prop) (hK : ∀ k, K k → k < w.heap.size) : Calls Try.prog 8 #[] w fun e w' => ∃ t, e = .returned (.pointer (some ⟨t, 0, none⟩)) ∧ Lw w0 K w' t Tt.none 0 ∧ Only (fun _ => False) w w' := by
  refine (new_any w).mono ?_
  rintro e w' ⟨t, m, rfl, ⟨g, hT⟩, hO⟩
  exact ⟨t, rfl, ⟨m, _, ⟨g, hT.fit⟩, fun k hk => ⟨Nat.le_trans h hk.1, hk.2, fun e => by have := hK k e; have := hk.1; omega⟩⟩, hO⟩
theorem lw_begin (w0 w : World) (K : Nat → Prop) (t n : Nat) (f : Tt) (H : Lw w0 K w t f n) (hK : ∀ k, K k → k < w.heap.size) (hn : n < maxLen) (a : Int) (ha : N64 a) (Q : Nat → Prop) (nx : Int) (ao : Option Addr) (cp : Nat) (L : List Int) (hL : Nm w Q ao L) :
    Calls Try.prog 10 #[.pointer (some ⟨t, 0, none⟩), .int .i64 a, .agg #[.int .i64 nx, .slice ao L.length cp]] w fun e w' => e = .returned (.int .i64 (beginE f a)) ∧ Lw w0 K w' t (beginF f a nx L) (n + 1) ∧ Eff w0 K w w' := by
  have hsz := H.size
  obtain ⟨m, Z, ⟨g, hT⟩, hZ⟩ := H.ex
  have hzm := hZ m hT.zm
  refine (begin_any w Z t m n g f hT (fun k hk => (hZ k hk).2.1) hn a ha Q nx ao cp L hL).mono ?_
  rintro e w' ⟨rfl, ⟨g', hT'⟩, hO⟩
  refine ⟨rfl, ⟨m, _, ⟨g', hT'.fit⟩, fun k hk => ⟨?_, hk.2, fun e => ?_⟩⟩, hO.mono (fun k _ e => by rw [e]; exact ⟨hzm.1, hzm.2.2⟩)⟩
  · rcases hk.1 with h | h
    · exact (hZ k h).1
    · omega
  · rcases hk.1 with h | h
    · exact (hZ k h).2.2 e
    · have := hK k e; omega
theorem lw_take (w0 w : World) (K : Nat → Prop) (t n : Nat) (f : Tt) (H : Lw w0 K w t f n) (a : Int) (ha : N64 a) (x : Int) :
    Calls Try.prog 12 #[.pointer (some ⟨t, 0, none⟩), .int .i64 a, .int .i64 x] w fun e w' => e = .returned (.int .i64 (takeE f a x)) ∧ Lw w0 K w' t (takeF f a x) (n + 1) ∧ Eff w0 K w w' := by
  obtain ⟨m, Z, ⟨g, hT⟩, hZ⟩ := H.ex
  refine (take_any w Z t m n g f hT a ha x).mono ?_
  rintro e w' ⟨rfl, hT', hO⟩
  exact ⟨rfl, ⟨m, Z, hT'.mono (by omega), fun k hk => ⟨(hZ k hk).1, Nat.lt_of_lt_of_le (hZ k hk).2.1 hO.size, (hZ k hk).2.2⟩⟩, hO.mono (fun k _ e => ⟨(hZ k e).1, (hZ k e).2.2⟩)⟩
theorem lw_logged (w0 w : World) (K : Nat → Prop) (t n : Nat) (f : Tt) (H : Lw w0 K w t f n) (hn : n < maxLen) (a : Int) (ha : N64 a) (x : Int) (u : Bool) :
    Calls Try.prog 14 #[.pointer (some ⟨t, 0, none⟩), .int .i64 a, .int .i64 x, .bool u] w fun e w' => e = .returned (.int .i64 (logE f a x)) ∧ Lw w0 K w' t (logF f a x u) (n + 1) ∧ Eff w0 K w w' := by
  obtain ⟨m, Z, ⟨g, hT⟩, hZ⟩ := H.ex
  refine (logged_any w Z t m n g f hT (by unfold maxLen at hn; omega) a ha x u).mono ?_
  rintro e w' ⟨rfl, hT', hO⟩
  exact ⟨rfl, ⟨m, Z, hT', fun k hk => ⟨(hZ k hk).1, Nat.lt_of_lt_of_le (hZ k hk).2.1 hO.size, (hZ k hk).2.2⟩⟩, hO.mono (fun k _ e => ⟨(hZ k e).1, (hZ k e).2.2⟩)⟩
theorem lw_end (w0 w : World) (K : Nat → Prop) (t n : Nat) (f : Tt) (H : Lw w0 K w t f n) (a : Int) (ha : N64 a) :
    Calls Try.prog 16 #[.pointer (some ⟨t, 0, none⟩), .int .i64 a] w fun e w' => TxR e w w' (ofT f a) (.int .i64 (endE f a)) ∧ Lw w0 K w' t (f.drop a) (n + 1) ∧ Eff w0 K w w' := by
  obtain ⟨m, Z, ⟨g, hT⟩, hZ⟩ := H.ex
  have hzm := hZ m hT.zm
  refine (end_any w Z t m n g f hT (fun k hk => (hZ k hk).2.1) a ha).mono ?_
  rintro e w' ⟨hR, hT', hO⟩
  exact ⟨hR, ⟨m, Z, hT'.mono (by omega), fun k hk => ⟨(hZ k hk).1, Nat.lt_of_lt_of_le (hZ k hk).2.1 hO.size, (hZ k hk).2.2⟩⟩, hO.mono (fun k _ e => by rw [e]; exact ⟨hzm.1, hzm.2.2⟩)⟩
theorem lw_of (w0 w : World) (K : Nat → Prop) (t n : Nat) (f : Tt) (H : Lw w0 K w t f n) (a : Int) (ha : N64 a) :
    Calls Try.prog 19 #[.pointer (some ⟨t, 0, none⟩), .int .i64 a] w fun e w' => TxR e w w' (ofT f a) (.bool (f a).isSome) ∧ Only (fun _ => False) w w' := by
  obtain ⟨m, Z, ⟨g, hT⟩, hZ⟩ := H.ex
  exact of_any w Z t m n g f hT a ha
theorem lw_old (w0 w : World) (K : Nat → Prop) (t n : Nat) (f : Tt) (H : Lw w0 K w t f n) : Calls Try.prog 26 #[.pointer (some ⟨t, 0, none⟩)] w fun e w' => RN e (OlIs f) ∧ Only (fun _ => False) w w' := by
  obtain ⟨m, Z, hT, hZ⟩ := H.ex
  exact oldest_any w Z t m n f hT
theorem lw_bgn (w0 w : World) (K : Nat → Prop) (t n : Nat) (f : Tt) (H : Lw w0 K w t f n) (hn : n ≤ 4398046511103) : Calls Try.prog 27 #[.pointer (some ⟨t, 0, none⟩)] w fun e w' => RB e w w' n (BgIs f) ∧ Only (fun _ => False) w w' := by
  obtain ⟨m, Z, hT, hZ⟩ := H.ex
  exact begunN_any w Z t m n f hT (by omega)
theorem lw_run (w0 w : World) (K : Nat → Prop) (t n : Nat) (f : Tt) (H : Lw w0 K w t f n) (hn : n ≤ 4398046511103) : Calls Try.prog 25 #[.pointer (some ⟨t, 0, none⟩)] w fun e w' => RI e w w' n f ∧ Only (fun _ => False) w w' := by
  obtain ⟨m, Z, hT, hZ⟩ := H.ex
  exact running_any w Z t m n f hT (by omega)
theorem lw_snaps (w0 w : World) (K : Nat → Prop) (t n : Nat) (f : Tt) (H : Lw w0 K w t f n) (hn : n ≤ 4398046511103) : Calls Try.prog 22 #[.pointer (some ⟨t, 0, none⟩)] w fun e w' => RS e w w' n f ∧ Only (fun _ => False) w w' := by
  obtain ⟨m, Z, hT, hZ⟩ := H.ex
  exact snaps_any w Z t m n f hT hn
end Go.Proofs.Ytmcghpeamnmbpaa
