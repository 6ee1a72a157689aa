/- Both maps side by side. -/
import Derived.Test.YtahmmhmahglonaaERefC
import Derived.Test.YtahmmhmahglonaaEAwake
namespace Go.Proofs.Ytahmmhmahglonaa
open Go.RowKit Go.Maps

set_option maxRecDepth 100000 in
set_option maxHeartbeats 800000 in
theorem sameI_true (w : World) (b1 b2 c1 c2 : Nat) (a1 a2 : Option Addr) (l : List Int) (h1 : IRow w b1 (.slice a1 l.length c1) l) (h2 : IRow w b2 (.slice a2 l.length c2) l) (hlen : l.length ≤ 5864062014700) :
    Calls Try.prog 18 #[.slice a1 l.length c1, .slice a2 l.length c2] w fun e w' => e = .returned (.bool true) ∧ Only (fun _ => False) w w' := by
  have H1 := hide h1
  have H2 := hide h2
  clear h1 h2
  go_enter Try.func18, Try.ntmps18
  go_wp2_with fail
  go_loopw [5] (fun y wr => ∃ (j : Nat), j ≤ l.length ∧ y = .int .i64 (j : Int) ∧ Hid (Only (fun _ => False) w wr)) (fun y _ => l.length - (intOf y).toNat)
  case atStart => exact ⟨0, by omega, rfl, hide (Only.refl _ _)⟩
  case round =>
    obtain ⟨j, hj, rfl, HO⟩ := hrel
    by_cases hlt : j < l.length
    · obtain ⟨g1, e1, _, _, k1⟩ := (H1.out.kept HO.out (fun _ _ => id)).at_ hlt
      obtain ⟨g2, e2, _, _, k2⟩ := (H2.out.kept HO.out (fun _ _ => id)).at_ hlt
      obtain ⟨z, hz⟩ : ∃ z, l[j] = z := ⟨_, rfl⟩
      rw [hz] at k1 k2
      have hj0 : (0 : Int) ≤ (j : Int) := by omega
      have hj1 : (j : Int) < (l.length : Int) := by omega
      clear hz
      subst e1
      subst e2
      go_wp2_with fail
      go_region
      go_wp2_with fail
      go_roundw
      case rel => exact ⟨j + 1, by omega, by go_num, hide (HO.out.trans (Only.drew _ _) (fun _ _ h => h))⟩
      case measure => simp [intOf]; omega
    · go_wp2_with fail
      go_ret
      exact ⟨rfl, HO.out⟩
theorem inew_any (w : World) : Calls Try.prog 8 #[] w fun e w' => e = .returned (.pointer (some ⟨w.heap.size, 0, none⟩)) ∧ w' = w.alloc (.cells #[.slice none 0 0] 46) := by
  go_enter Try.func8, Try.ntmps8
  go_wp2
  go_ret
  exact ⟨rfl, rfl⟩
theorem IRow.own_ {w : World} {base n c g : Nat} {L : List Int} (h : IRow w base (.slice (some ⟨g, 0, none⟩) n c) L) : w.ownsRow base 3 1 (.slice (some ⟨g, 0, none⟩) n c) n (L.map iv) ∧ L.length = n := by
  have hl : L.length = n := by
    obtain ⟨ao, cp, e⟩ := h.form
    injection e with _ e _
    exact e.symm
  unfold IRow at h
  rw [hl] at h
  exact ⟨h, hl⟩
theorem IRow.store {w : World} {base n c g : Nat} {L : List Int} (h : IRow w base (.slice (some ⟨g, 0, none⟩) n c) L) (j : Nat) (u : Int) :
    IRow (w.setCell ⟨g, j, none⟩ (.int .i64 u)) base (.slice (some ⟨g, 0, none⟩) n c) (L.set j u) ∧ Only (fun k => k = g) w (w.setCell ⟨g, j, none⟩ (.int .i64 u)) := by
  obtain ⟨ho, hl⟩ := h.own_
  refine ⟨?_, Only.setCell (S := fun k => k = g) w ⟨g, j, none⟩ _ rfl⟩
  have hs := (ho.stored j (.int .i64 u)).1
  unfold IRow
  rw [List.length_set, hl]
  have e : (L.map iv).set j (.int .i64 u) = (L.set j u).map iv := by rw [List.map_set]; rfl
  rw [← e]
  exact hs
theorem IRow.free {w : World} {base n c g : Nat} {L : List Int} (h : IRow w base (.slice (some ⟨g, 0, none⟩) n c) L) (j : Nat) : w.frozen? ⟨g, j, none⟩ = false := h.own_.1.frozenAt j
structure Pa (w W : World) (t m r base n1 n2 : Nat) (f1 f2 : Kn) : Prop where
  sk : Sk w W t m n1 f1
  rm : ∃ ao cp L, Rm W r base n2 f2 ao cp L
  n1 : r ≠ t
  n2 : r ≠ m
  b1 : t < base
  b2 : m < base
  lr : w.heap.size ≤ r
  bs : base ≤ W.heap.size
/-- What is kept: blocks but the maps' own. -/
def Kq (m r : Nat) (W W' : World) : Prop := Only (fun i => i = m ∨ i = r) W W'
theorem Only.kq {m r : Nat} {W W' : World} (H : Only (fun _ => False) W W') : Kq m r W W' := H.mono (fun _ _ e => e.elim)
theorem Pa.more {w W W' : World} {t m r base n1 n2 : Nat} {f1 f2 : Kn} (H : Pa w W t m r base n1 n2 f1 f2) (ho : Only (fun _ => False) W W') : Pa w W' t m r base n1 n2 f1 f2 := by
  obtain ⟨ao, cp, L, hr⟩ := H.rm
  exact ⟨H.sk.more ho, ⟨ao, cp, L, hr.more ho⟩, H.n1, H.n2, H.b1, H.b2, H.lr, Nat.le_trans H.bs ho.size⟩
theorem Pa.code {w W W' : World} {t m r base n1 n1' n2 : Nat} {f1 g1 f2 : Kn} (H : Pa w W t m r base n1 n2 f1 f2) (hl : Sk w W' t m n1' g1) (hk : Only (fun i => i = m) W W') : Pa w W' t m r base n1' n2 g1 f2 ∧ Kq m r W W' := by
  obtain ⟨ao, cp, L, hr⟩ := H.rm
  have e2 := H.b2
  have e5 := H.n2
  exact ⟨⟨hl, ⟨ao, cp, L, hr.kept hk e5 (fun k hb e => by omega)⟩, H.n1, H.n2, H.b1, e2, H.lr, Nat.le_trans H.bs hk.size⟩, hk.mono (fun i _ e => .inl e)⟩
theorem Pa.doc {w W W' : World} {t m r base n1 n2 n2' : Nat} {f1 f2 g2 : Kn} (H : Pa w W t m r base n1 n2 f1 f2) (hr : ∃ ao cp L, Rm W' r base n2' g2 ao cp L) (ho : Only (fun i => i = r) W W') : Pa w W' t m r base n1 n2' f1 g2 ∧ Kq m r W W' := by
  have e5 := H.lr
  have hs : Sk w W' t m n1 f1 := ⟨H.sk.sp.kept ho (fun e => H.n1 e.symm) (fun e => H.n2 e.symm), H.sk.only.trans ho (fun i hi e => by subst e; exact absurd e5 (by omega)), H.sk.lt0, H.sk.lt1⟩
  exact ⟨⟨hs, hr, H.n1, H.n2, H.b1, H.b2, e5, Nat.le_trans H.bs ho.size⟩, ho.mono (fun i _ e => .inr e)⟩
theorem pa_start {w w1 : World} {t m : Nat} (H : Sk w w1 t m 0 Kn.none) : Pa w (w1.alloc (.cells #[.slice none 0 0] 46)) t m w1.heap.size (w1.heap.size + 1) 0 0 Kn.none Kn.none := by
  have hs := H.sp.sizes
  refine ⟨H.more (Only.alloc _ _ _), ⟨none, 0, [], ⟨by simp, by simp, ORow.nil _ _, ⟨List.Pairwise.nil, fun k b => ?_⟩, by simp, by omega⟩⟩, by omega, by omega, by omega, by omega, H.only.size, by simp⟩
  constructor
  · intro e; cases e
  · intro e; cases e
section
variable {w W : World} {t m r base n1 n2 : Nat} {f1 f2 : Kn} (H : Pa w W t m r base n1 n2 f1 f2)
include H
theorem pa_set (p x : Int) (hp : N64 p) (hn : n1 < maxLen) : Calls Try.prog 11 #[.pointer (some ⟨t, 0, none⟩), .int .i64 p, .int .i64 x] W fun e w' =>
    e = .returned (.tuple #[]) ∧ Pa w w' t m r base (n1 + 1) n2 (f1.set p x) f2 ∧ Kq m r W w' := by
  refine (sk_set H.sk p x hp hn).mono ?_
  rintro e w' ⟨rfl, h1, h2⟩
  exact ⟨rfl, H.code h1 h2⟩
theorem pa_iset (p x : Int) (hn : n2 < 5864062014700) : Calls Try.prog 12 #[.pointer (some ⟨r, 0, none⟩), .int .i64 p, .int .i64 x] W fun e w' =>
    e = .returned (.tuple #[]) ∧ Pa w w' t m r base n1 (n2 + 1) f1 (f2.set p x) ∧ Kq m r W w' := by
  obtain ⟨ao, cp, L, hr⟩ := H.rm
  refine (iset_any W r base n2 f2 ao cp L hr hn H.bs p x).mono ?_
  rintro e w' ⟨rfl, h1, h2⟩
  exact ⟨rfl, H.doc h1 h2⟩
theorem pa_drop (p : Int) (hp : N64 p) : Calls Try.prog 9 #[.pointer (some ⟨t, 0, none⟩), .int .i64 p] W fun e w' =>
    e = .returned (.tuple #[]) ∧ Pa w w' t m r base (n1 + 1) n2 (f1.drop p) f2 ∧ Kq m r W w' := by
  refine (sk_drop H.sk p hp).mono ?_
  rintro e w' ⟨rfl, h1, h2⟩
  exact ⟨rfl, H.code h1 h2⟩
theorem pa_idrop (p : Int) (hn : n2 ≤ 5864062014700) : Calls Try.prog 10 #[.pointer (some ⟨r, 0, none⟩), .int .i64 p] W fun e w' =>
    e = .returned (.tuple #[]) ∧ Pa w w' t m r base n1 (n2 + 1) f1 (f2.drop p) ∧ Kq m r W w' := by
  obtain ⟨ao, cp, L, hr⟩ := H.rm
  refine (idrop_any W r base n2 f2 ao cp L hr hn H.bs p).mono ?_
  rintro e w' ⟨rfl, ⟨a2, c2, L2, h1⟩, h2⟩
  exact ⟨rfl, H.doc ⟨a2, c2, L2, ⟨h1.c0, h1.f0, h1.h, h1.hi, by have := h1.hn; omega, h1.rb⟩⟩ h2⟩
theorem pa_find (room : Int) : Calls Try.prog 13 #[.pointer (some ⟨t, 0, none⟩), .int .i64 room] W fun e w' =>
    ∃ p ok, e = .returned (.tuple #[.int .i64 p, .bool ok]) ∧ FdIs f1 room p ok ∧ Pa w w' t m r base n1 n2 f1 f2 ∧ Only (fun _ => False) W w' := by
  refine (sk_find H.sk room).mono ?_
  rintro e w' ⟨p, ok, rfl, h1, _, h2⟩
  exact ⟨p, ok, rfl, h1, H.more h2, h2⟩
theorem pa_ifind {p room : Int} {ok : Bool} (h : FdIs f2 room p ok) (hn : n2 ≤ 5864062014700) : Calls Try.prog 14 #[.pointer (some ⟨r, 0, none⟩), .int .i64 room] W fun e w' =>
    e = .returned (.tuple #[.int .i64 p, .bool ok]) ∧ w' = W := by
  obtain ⟨ao, cp, L, hr⟩ := H.rm
  refine (ifind_any W r base n2 f2 ao cp L hr hn room).mono ?_
  rintro e w' ⟨⟨q, also, rfl, h1⟩, rfl⟩
  obtain ⟨rfl, rfl⟩ := h.one h1
  exact ⟨rfl, rfl⟩
theorem pa_room (p : Int) (hp : N64 p) : Calls Try.prog 15 #[.pointer (some ⟨t, 0, none⟩), .int .i64 p] W fun e w' =>
    e = .returned (.tuple #[.int .i64 ((f1 p).getD 0), .bool (f1 p).isSome]) ∧ w' = W := sk_room H.sk p hp
theorem pa_iroom (p : Int) (hn : n2 ≤ 5864062014700) : Calls Try.prog 16 #[.pointer (some ⟨r, 0, none⟩), .int .i64 p] W fun e w' =>
    e = .returned (.tuple #[.int .i64 ((f2 p).getD 0), .bool (f2 p).isSome]) ∧ w' = W := by
  obtain ⟨ao, cp, L, hr⟩ := H.rm
  exact iroom_any W r base n2 f2 ao cp L hr hn p
theorem pa_pages (hn : n1 ≤ 5864062014700) : Calls Try.prog 17 #[.pointer (some ⟨t, 0, none⟩)] W fun e w' =>
    ∃ ao cp L, e = .returned (.slice ao L.length cp) ∧ PgIs f1 L ∧ IRow w' W.heap.size (.slice ao L.length cp) L ∧ L.length ≤ n1 ∧ Pa w w' t m r base n1 n2 f1 f2 ∧ Only (fun _ => False) W w' := by
  refine (sk_pages H.sk hn).mono ?_
  rintro e w' ⟨ao, cp, L, rfl, h1, h2, h3, _, h4⟩
  exact ⟨ao, cp, L, rfl, h1, h2, h3, H.more h4, h4⟩
theorem pa_ipages {M : List Int} (hM : PgIs f2 M) (hn : n2 ≤ 5864062014700) : Calls Try.prog 19 #[.pointer (some ⟨r, 0, none⟩)] W fun e w' =>
    ∃ ao cp, e = .returned (.slice ao M.length cp) ∧ IRow w' W.heap.size (.slice ao M.length cp) M ∧ Pa w w' t m r base n1 n2 f1 f2 ∧ Only (fun _ => False) W w' := by
  obtain ⟨ao, cp, L, hr⟩ := H.rm
  refine (ipages_any W r base n2 f2 ao cp L hr hn).mono ?_
  rintro e w' ⟨a2, c2, L2, rfl, h1, h2, h3, h4⟩
  obtain rfl := hM.one h1
  exact ⟨a2, c2, rfl, h2, H.more h4, h4⟩
end
/-- A change that came in, in a variable. -/
structure Bx (W : World) (b m r : Nat) (c : Bool) (x s : Int) : Prop where
  c0 : W.cell? ⟨b, 0, none⟩ = some (.bool c)
  c1 : W.cell? ⟨b, 1, none⟩ = some (.int .i64 x)
  c2 : W.cell? ⟨b, 2, none⟩ = some (.int .i64 s)
  n1 : b ≠ m
  n2 : b ≠ r
theorem Bx.kept {W W' : World} {b m r : Nat} {c : Bool} {x s : Int} (H : Bx W b m r c x s) (k : Kq m r W W') : Bx W' b m r c x s := by
  have hb := World.block_lt_of_cell? W _ H.c0
  have hS : ¬ (b = m ∨ b = r) := by rintro (e | e); exact H.n1 e; exact H.n2 e
  exact ⟨(Only.cell k (p := ⟨b, 0, none⟩) hb hS).trans H.c0, (Only.cell k (p := ⟨b, 1, none⟩) hb hS).trans H.c1, (Only.cell k (p := ⟨b, 2, none⟩) hb hS).trans H.c2, H.n1, H.n2⟩
theorem Bx.new {w W : World} {t m r base n1 n2 : Nat} {f1 f2 : Kn} (H : Pa w W t m r base n1 n2 f1 f2) (c : Bool) (x s : Int) : Bx (W.alloc (.cells #[.bool c, .int .i64 x, .int .i64 s] 28)) W.heap.size m r c x s := by
  have h1 := H.sk.sp.sizes
  obtain ⟨ao, cp, L, hr⟩ := H.rm
  have h2 := World.block_lt_of_cell? W _ hr.c0
  have h2 : r < W.heap.size := h2
  refine ⟨by simp, by simp, by simp, by omega, by omega⟩
end Go.Proofs.Ytahmmhmahglonaa
