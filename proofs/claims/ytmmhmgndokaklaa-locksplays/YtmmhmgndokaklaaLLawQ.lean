/- The state of LocksPlays' walk: both tables. -/
import Derived.Test.YtmmhmgndokaklaaLRefF
import Derived.Deep.RegionHeld3
namespace Go.Proofs.Ytmmhmgndokaklaa
open Go.RowKit Go.Maps

theorem jtry_any (w : World) (r base n : Nat) (T : Tb) (hT : T.Ok) (aH aW : Option Addr) (cH cW : Nat) (HL WL : List (ByteArray × Int)) (H : Rt w r base n T aH aW cH cW HL WL) (hn : n < 4398046511104) (hb : base ≤ w.heap.size) (who : Int) (key : ByteArray) :
    Calls Try.prog 13 #[.pointer (some ⟨r, 0, none⟩), .int .i64 who, .string key] w fun e w' => e = .returned (.tuple #[.bool (T.tryR who key).1, .int .i64 (T.tryR who key).2.1]) ∧ (∃ aH' cH' aW' cW' HL' WL', Rt w' r base (n + 1) (T.tryR who key).2.2 aH' aW' cH' cW' HL' WL') ∧ Only (fun i => i = r) w w' := by
  have e0 : (T.quit who).hold key = T.hold key := rfl
  cases hf : T.hold key with
  | none =>
    have : T.tryR who key = (true, 0, (T.quit who).grab who key) := by
      unfold Tb.tryR
      rw [e0, hf]
    rw [this]
    refine (jtry_none w r base n T aH aW cH cW HL WL H hn hb who key hf).mono ?_
    rintro e w' ⟨a1, a2, a3, a4, a5, a6, h1, h2, h3⟩
    exact ⟨h1, ⟨_, _, _, _, _, _, h2⟩, h3⟩
  | some ho =>
    by_cases hne : ho = who
    · have : T.tryR who key = (true, 0, T.quit who) := by
        unfold Tb.tryR
        rw [e0, hf]
        have hg : (T.quit who).grab who key = T.quit who := Tb.grab_same (by rw [e0, hf, hne])
        simp [hne, hg]
      rw [this]
      refine (jtry_own w r base n T aH aW cH cW HL WL H hn hb who key (by rw [hf, hne])).mono ?_
      rintro e w' ⟨h1, ⟨a1, a2, a3, a4, a5, a6, h⟩, h3⟩
      exact ⟨h1, ⟨_, _, _, _, _, _, ⟨h.c0, h.c1, h.f0, h.f1, h.h, h.wr, h.hi, h.wi, by have := h.hn; omega, by have := h.wn; omega, h.rb⟩⟩, h3⟩
    · refine (jtry_held w r base n T hT aH aW cH cW HL WL H hn hb who ho key hf hne).mono ?_
      rintro e w' ⟨⟨hR, rfl, hT⟩ | ⟨hR, rfl, hT⟩, hO⟩
      · have : T.tryR who key = (false, 181, T.quit who) := by
          unfold Tb.tryR
          rw [e0, hf]
          simp [hne, hR]
        rw [this]
        exact ⟨rfl, hT, hO⟩
      · have : T.tryR who key = (false, 0, (T.quit who).queue who key) := by
          unfold Tb.tryR
          rw [e0, hf]
          simp [hne, hR]
        rw [this]
        exact ⟨rfl, hT, hO⟩
theorem Lk.keep2 {w W W' : World} {t h m n : Nat} {T : Tb} {S : Nat → Prop} (H : Lk w W t h m n T) (ho : Only S W W') (h0 : ¬ S t) (h1 : ¬ S h) (h2 : ¬ S m) (hS : ∀ i, i < w.heap.size → ¬ S i) : Lk w W' t h m n T :=
  ⟨H.tab.kept ho h0 h1 h2, H.only.trans ho (fun i hi e => hS i hi e), H.lt0, H.lt1, H.lt2⟩
structure Pa (w W : World) (t h m r base n1 n2 : Nat) (T1 T2 : Tb) : Prop where
  lk : Lk w W t h m n1 T1
  rt : ∃ aH cH aW cW HL WL, Rt W r base n2 T2 aH aW cH cW HL WL
  n1 : r ≠ t
  n2 : r ≠ h
  n3 : r ≠ m
  b1 : t < base
  b2 : h < base
  b3 : m < base
  lr : w.heap.size ≤ r
  bs : base ≤ W.heap.size
/-- What is kept: blocks but the tables' own. -/
def Kq (h m r : Nat) (W W' : World) : Prop := Only (fun i => i = h ∨ i = m ∨ i = r) W W'
theorem Only.kq {h m r : Nat} {W W' : World} (H : Only (fun _ => False) W W') : Kq h m r W W' := H.mono (fun _ _ e => e.elim)
theorem Kq.trans {h m r : Nat} {a b c : World} (H : Kq h m r a b) (K : Kq h m r b c) : Kq h m r a c := Only.trans H K (fun _ _ e => e)
theorem Pa.more {w W W' : World} {t h m r base n1 n2 : Nat} {T1 T2 : Tb} (H : Pa w W t h m r base n1 n2 T1 T2) (ho : Only (fun _ => False) W W') : Pa w W' t h m r base n1 n2 T1 T2 := by
  obtain ⟨aH, cH, aW, cW, HL, WL, hr⟩ := H.rt
  exact ⟨H.lk.more ho, ⟨aH, cH, aW, cW, HL, WL, hr.more ho⟩, H.n1, H.n2, H.n3, H.b1, H.b2, H.b3, H.lr, Nat.le_trans H.bs ho.size⟩
theorem Pa.code {w W W' : World} {t h m r base n1 n1' n2 : Nat} {T1 T1' T2 : Tb} (H : Pa w W t h m r base n1 n2 T1 T2) (hl : Lk w W' t h m n1' T1') (hk : Kp h m W W') : Pa w W' t h m r base n1' n2 T1' T2 ∧ Kq h m r W W' := by
  obtain ⟨aH, cH, aW, cW, HL, WL, hr⟩ := H.rt
  have e2 := H.b2
  have e3 := H.b3
  have e5 := H.n2
  have e6 := H.n3
  refine ⟨⟨hl, ⟨aH, cH, aW, cW, HL, WL, hr.kept hk.only (fun e => by rcases e with e | e; exact e5 e; exact e6 e) (fun k hb e => by rcases e with e | e <;> omega)⟩, H.n1, H.n2, H.n3, H.b1, e2, e3, H.lr, Nat.le_trans H.bs hk.only.size⟩, hk.only.mono (fun i _ e => ?_)⟩
  rcases e with e | e
  · exact .inl e
  · exact .inr (.inl e)
theorem Pa.doc {w W W' : World} {t h m r base n1 n2 n2' : Nat} {T1 T2 T2' : Tb} (H : Pa w W t h m r base n1 n2 T1 T2) (hr : ∃ aH cH aW cW HL WL, Rt W' r base n2' T2' aH aW cH cW HL WL) (ho : Only (fun i => i = r) W W') : Pa w W' t h m r base n1 n2' T1 T2' ∧ Kq h m r W W' := by
  have e5 := H.lr
  exact ⟨⟨H.lk.keep2 ho (fun e => H.n1 e.symm) (fun e => H.n2 e.symm) (fun e => H.n3 e.symm) (fun i hi e => by omega), hr, H.n1, H.n2, H.n3, H.b1, H.b2, H.b3, e5, Nat.le_trans H.bs ho.size⟩, ho.mono (fun i _ e => .inr (.inr e))⟩
theorem pa_start {w w1 : World} {t h m : Nat} (H : Lk w w1 t h m 0 Tb.new) : Pa w (w1.alloc (.cells #[.slice none 0 0, .slice none 0 0] 27)) t h m w1.heap.size (w1.heap.size + 1) 0 0 Tb.new Tb.new := by
  have hs := H.tab.sizes
  refine ⟨H.more (Only.alloc _ _ _), ⟨none, 0, none, 0, [], [], ⟨by simp, by simp, by simp, by simp, HRow.nil _ _, HRow.nil _ _, ⟨List.Pairwise.nil, fun k b => ?_⟩, ⟨List.Pairwise.nil, fun k b => ?_⟩, by simp, by simp, by omega⟩⟩, by omega, by omega, by omega, by omega, by omega, by omega, H.only.size, by simp⟩
  · constructor
    · intro e; cases e
    · intro e; cases e
  · constructor
    · intro e; cases e
    · intro e; cases e
section
variable {w W : World} {t h m r base n1 n2 : Nat} {T1 T2 : Tb} (H : Pa w W t h m r base n1 n2 T1 T2)
include H
theorem pa_holder (k : ByteArray) (hk : k.size ≤ maxLen) : Calls Try.prog 14 #[.pointer (some ⟨t, 0, none⟩), .string k] W fun e w' => e = .returned (.tuple #[.int .i64 ((T1.hold k).getD 0), .bool (T1.hold k).isSome]) ∧ w' = W := lk_holder H.lk k hk
theorem pa_jholder (k : ByteArray) (hn : n2 ≤ 4398046511104) : Calls Try.prog 15 #[.pointer (some ⟨r, 0, none⟩), .string k] W fun e w' => e = .returned (.tuple #[.int .i64 ((T2.hold k).getD 0), .bool (T2.hold k).isSome]) ∧ w' = W := by
  obtain ⟨aH, cH, aW, cW, HL, WL, hr⟩ := H.rt
  exact jholder_any W r base n2 T2 aH aW cH cW HL WL hr hn k
theorem pa_waits (x : Int) (hx : N64 x) : Calls Try.prog 16 #[.pointer (some ⟨t, 0, none⟩), .int .i64 x] W fun e w' => e = .returned (.tuple #[.string ((T1.wait x).getD ⟨#[]⟩), .bool (T1.wait x).isSome]) ∧ Only (fun _ => False) W w' := lwaits_any W t h m n1 T1 H.lk.tab x hx
theorem pa_jfor (x : Int) (hn : n2 ≤ 4398046511104) : Calls Try.prog 17 #[.pointer (some ⟨r, 0, none⟩), .int .i64 x] W fun e w' => e = .returned (.tuple #[.string ((T2.wait x).getD ⟨#[]⟩), .bool (T2.wait x).isSome]) ∧ w' = W := by
  obtain ⟨aH, cH, aW, cW, HL, WL, hr⟩ := H.rt
  exact jfor_any W r base n2 T2 aH aW cH cW HL WL hr hn x
theorem pa_try (who : Int) (k : ByteArray) (hw : N64 who) (hk : k.size ≤ maxLen) (hn : n1 < 4398046511104) : Calls Try.prog 12 #[.pointer (some ⟨t, 0, none⟩), .int .i64 who, .string k] W fun e w' =>
    e = .returned (.tuple #[.bool (T1.tryR who k).1, .int .i64 (T1.tryR who k).2.1]) ∧ Pa w w' t h m r base (n1 + 1) n2 (T1.tryR who k).2.2 T2 ∧ Kq h m r W w' := by
  refine (lk_try H.lk who k hw hk hn).mono ?_
  rintro e w' ⟨rfl, h1, h2⟩
  exact ⟨rfl, H.code h1 h2⟩
theorem pa_jtry (hT : T2.Ok) (who : Int) (k : ByteArray) (hn : n2 < 4398046511104) : Calls Try.prog 13 #[.pointer (some ⟨r, 0, none⟩), .int .i64 who, .string k] W fun e w' =>
    e = .returned (.tuple #[.bool (T2.tryR who k).1, .int .i64 (T2.tryR who k).2.1]) ∧ Pa w w' t h m r base n1 (n2 + 1) T1 (T2.tryR who k).2.2 ∧ Kq h m r W w' := by
  obtain ⟨aH, cH, aW, cW, HL, WL, hr⟩ := H.rt
  refine (jtry_any W r base n2 T2 hT aH aW cH cW HL WL hr hn H.bs who k).mono ?_
  rintro e w' ⟨rfl, h1, h2⟩
  exact ⟨rfl, H.doc h1 h2⟩
theorem pa_release (who : Int) (hw : N64 who) (hn : n1 ≤ 4398046511104) : Calls Try.prog 10 #[.pointer (some ⟨t, 0, none⟩), .int .i64 who] W fun e w' =>
    ∃ a c L, e = .returned (.slice a L.length c) ∧ FreeIs (T1.quit who) who L ∧ IRow w' W.heap.size (.slice a L.length c) L ∧ L.length ≤ n1 ∧ Pa w w' t h m r base n1 n2 (T1.freed who) T2 ∧ Kq h m r W w' := by
  refine (lk_release H.lk who hw hn).mono ?_
  rintro e w' ⟨v, L, rfl, h1, h2, h3, h4, h5⟩
  obtain ⟨a, c, rfl⟩ := h2.form
  exact ⟨a, c, L, rfl, h1, h2, h3, H.code h4 h5⟩
theorem pa_jrelease (hT : T2.Ok) (who : Int) (hn : n2 ≤ 4398046511104) : Calls Try.prog 11 #[.pointer (some ⟨r, 0, none⟩), .int .i64 who] W fun e w' =>
    ∃ a c L, e = .returned (.slice a L.length c) ∧ FreeIs (T2.quit who) who L ∧ IRow w' W.heap.size (.slice a L.length c) L ∧ L.length ≤ n2 ∧ Pa w w' t h m r base n1 n2 T1 (T2.freed who) ∧ Only (fun i => i = r) W w' := by
  obtain ⟨aH, cH, aW, cW, HL, WL, hr⟩ := H.rt
  refine (jrelease_any W r base n2 T2 hT aH aW cH cW HL WL hr hn H.bs who).mono ?_
  rintro e w' ⟨v, L, b1, b2, b3, b4, b5, b6, rfl, h1, h2, h3, h4, h5⟩
  obtain ⟨a, c, rfl⟩ := h2.form
  exact ⟨a, c, L, rfl, h1, h2, h3, (H.doc ⟨_, _, _, _, _, _, h4⟩ h5).1, h5⟩
theorem pa_held (who : Int) (hn : n1 ≤ 4398046511104) : Calls Try.prog 19 #[.pointer (some ⟨t, 0, none⟩), .int .i64 who] W fun e w' =>
    ∃ a c L, e = .returned (.slice a L.length c) ∧ HeldIs T1 who L ∧ SRow w' W.heap.size (.slice a L.length c) L ∧ L.length ≤ n1 ∧ Only (fun _ => False) W w' := by
  refine (lheld_any W t h m n1 T1 H.lk.tab who hn).mono ?_
  rintro e w' ⟨v, L, rfl, h1, h2, h3, h4⟩
  obtain ⟨a, c, rfl⟩ := h2.form
  exact ⟨a, c, L, rfl, h1, h2, h3, h4⟩
theorem pa_jheld (who : Int) (hn : n2 ≤ 4398046511104) : Calls Try.prog 20 #[.pointer (some ⟨r, 0, none⟩), .int .i64 who] W fun e w' =>
    ∃ a c L, e = .returned (.slice a L.length c) ∧ HeldIs T2 who L ∧ SRow w' W.heap.size (.slice a L.length c) L ∧ L.length ≤ n2 ∧ Only (fun _ => False) W w' := by
  obtain ⟨aH, cH, aW, cW, HL, WL, hr⟩ := H.rt
  refine (jheld_any W r base n2 T2 aH aW cH cW HL WL hr hn who).mono ?_
  rintro e w' ⟨v, L, rfl, h1, h2, h3, h4⟩
  obtain ⟨a, c, rfl⟩ := h2.form
  exact ⟨a, c, L, rfl, h1, h2, h3, h4⟩
theorem pa_waiting (hn : n1 ≤ 4398046511104) : Calls Try.prog 21 #[.pointer (some ⟨t, 0, none⟩)] W fun e w' =>
    ∃ a c L, e = .returned (.slice a L.length c) ∧ WaitIs T1 L ∧ IRow w' W.heap.size (.slice a L.length c) L ∧ L.length ≤ n1 ∧ Only (fun _ => False) W w' := by
  refine (lwaiting_any W t h m n1 T1 H.lk.tab hn).mono ?_
  rintro e w' ⟨v, L, rfl, h1, h2, h3, h4⟩
  obtain ⟨a, c, rfl⟩ := h2.form
  exact ⟨a, c, L, rfl, h1, h2, h3, h4⟩
theorem pa_jwaiting (hn : n2 ≤ 4398046511104) : Calls Try.prog 22 #[.pointer (some ⟨r, 0, none⟩)] W fun e w' =>
    ∃ a c L, e = .returned (.slice a L.length c) ∧ WaitIs T2 L ∧ IRow w' W.heap.size (.slice a L.length c) L ∧ L.length ≤ n2 ∧ Only (fun _ => False) W w' := by
  obtain ⟨aH, cH, aW, cW, HL, WL, hr⟩ := H.rt
  refine (jwaiting_any W r base n2 T2 aH aW cH cW HL WL hr hn).mono ?_
  rintro e w' ⟨v, L, rfl, h1, h2, h3, h4⟩
  obtain ⟨a, c, rfl⟩ := h2.form
  exact ⟨a, c, L, rfl, h1, h2, h3, h4⟩
end
/-- A call that came in, in a variable. -/
structure Bx (W : World) (b h m r : Nat) (c : Bool) (x : Int) (s : ByteArray) : Prop where
  c0 : W.cell? ⟨b, 0, none⟩ = some (.bool c)
  c1 : W.cell? ⟨b, 1, none⟩ = some (.int .i64 x)
  c2 : W.cell? ⟨b, 2, none⟩ = some (.string s)
  n1 : b ≠ h
  n2 : b ≠ m
  n3 : b ≠ r
theorem Bx.kept {W W' : World} {b h m r : Nat} {c : Bool} {x : Int} {s : ByteArray} (H : Bx W b h m r c x s) (k : Kq h m r W W') : Bx W' b h m r c x s := by
  have hl := World.block_lt_of_cell? W _ H.c0
  have hS : ¬ (b = h ∨ b = m ∨ b = r) := by rintro (e | e | e); exact H.n1 e; exact H.n2 e; exact H.n3 e
  exact ⟨(Only.cell k (p := ⟨b, 0, none⟩) hl hS).trans H.c0, (Only.cell k (p := ⟨b, 1, none⟩) hl hS).trans H.c1, (Only.cell k (p := ⟨b, 2, none⟩) hl hS).trans H.c2, H.n1, H.n2, H.n3⟩
theorem Bx.new {w W : World} {t h m r base n1 n2 : Nat} {T1 T2 : Tb} (H : Pa w W t h m r base n1 n2 T1 T2) (c : Bool) (x : Int) (s : ByteArray) : Bx (W.alloc (.cells #[.bool c, .int .i64 x, .string s] 29)) W.heap.size h m r c x s := by
  have := H.lk.tab.sizes
  obtain ⟨aH, cH, aW, cW, HL, WL, hr⟩ := H.rt
  have := World.block_lt_of_cell? W _ hr.c0
  simp only at this
  refine ⟨by simp, by simp, by simp, by omega, by omega, by omega⟩
theorem yieldsIf_load_cell {ops : Array Oper} {S : World → Prop} {op : Oper} {a : Act} {v : Value} (hw : Region.wanted op (yielded ops a.tmps) = true) (ty : TypeId) (x : Operand) (ho : op.op = .load ty x)
    (p : Addr) (hx : a.eval x = .pointer (some p)) (hS : ∀ w, S w → w.cell? p = some v) (hl : ∀ w, w.cell? p = some v → (loadVar ty p).run Try.prog w = .ok v w) : YieldsIf Try.prog ops S op v a :=
  .inl ⟨hw, fun w hw' => by
    unfold execOp
    simp only [ho, hx, Instr.loadAt, Instr.sureAddr, Sem.run_bind, Sem.run_pure, Result.andThen_ok, hl w (hS w hw')]⟩
theorem ld_int {w : World} {p : Addr} {v : Value} (h : w.cell? p = some v) : (loadVar 3 p).run Try.prog w = .ok v w := by simp [loadVar, go_sem, h]
theorem pa_up {w W : World} {t h m r base n1 n2 : Nat} {T1 T2 : Tb} (H : Pa w W t h m r base n1 n2 T1 T2) : Pa w W t h m r base (n1 + 1) (n2 + 1) T1 T2 := by
  obtain ⟨aH, cH, aW, cW, HL, WL, h0⟩ := H.rt
  exact ⟨H.lk.mono (by omega), ⟨aH, cH, aW, cW, HL, WL, ⟨h0.c0, h0.c1, h0.f0, h0.f1, h0.h, h0.wr, h0.hi, h0.wi, by have := h0.hn; omega, by have := h0.wn; omega, h0.rb⟩⟩, H.n1, H.n2, H.n3, H.b1, H.b2, H.b3, H.lr, H.bs⟩
theorem srow_store {w : World} {base cp g : Nat} {L : List ByteArray} {n : Nat} (h : SRow w base (.slice (some ⟨g, 0, none⟩) n cp) L) (hn : L.length = n) (j : Nat) (u : ByteArray) :
    SRow (w.setCell ⟨g, j, none⟩ (.string u)) base (.slice (some ⟨g, 0, none⟩) n cp) (L.set j u) ∧ (L.set j u).length = n ∧ w.frozen? ⟨g, j, none⟩ = false := by
  subst hn
  refine ⟨?_, by simp, ?_⟩
  · have := (World.ownsRow.stored h j (.string u)).1
    unfold SRow
    rw [List.length_set, List.map_set]
    exact this
  · exact World.ownsRow.frozenAt h j
end Go.Proofs.Ytmmhmgndokaklaa
