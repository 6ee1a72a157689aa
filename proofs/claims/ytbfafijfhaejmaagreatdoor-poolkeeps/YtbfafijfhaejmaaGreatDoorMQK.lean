/- For any number of frames and any list of acts the statement PoolKeeps returns true: a page is what it was set to last, and none is written ahead of the log; no condition on them. Go's own tables of the library hold what they are laid with. -/
import Derived.Test.YtbfafijfhaejmaaGreatDoorMQH
import Derived.Deep.CutBlock
import Derived.Test.YtbfafijfhaejmaaGreatDoorCards
import Derived.Test.YtbfafijfhaejmaaGreatDoorTie
import Derived.Deep.DeepHandedRow
import Derived.Lib.LaidTab
namespace Go.Proofs.YtbfafijfhaejmaaGreatDoor
open Go.RowKit

theorem pw_sync {w W : World} {p d l : Nat} {F : Nat → Prop} {t fl : Nat} {C K : Nat → Option Pg} (h : Pw w W p d l F t fl C K) :
    Calls Tryz.prog 25 #[.pointer (some ⟨d, 0, none⟩)] W fun e w' => e = .returned (.int .i64 0) ∧ Pn w W w' p d l F t C := by
  obtain ⟨fb, mb, g, m, P, D, G, v7, v8, T, h1, h2, h3, ⟨g1, g2, g3, g4, g5, g6, g7, g8⟩, h5⟩ := h.ex
  obtain ⟨a1, a2⟩ := inv_sync h2
  refine (sync_any W d g m D h1.dsk).mono ?_
  rintro e w' ⟨rfl, hD, ho⟩
  have hS : Sw w w' p d l fb mb g m P D.sync.1 G v7 v8 T :=
    ⟨h1.pool.kept ho h1.xp.1 h1.xf.1 h1.xm.1 (fun B hB => (h1.xT B hB).1), hD, h1.log.kept ho h1.xl (fun k hk => (h1.x7 k hk).1) (fun k hk => (h1.x8 k hk).1), h1.ok, h1.sf, h1.tb, h1.pok, h1.xp, h1.xf, h1.xm, h1.xT, h1.xl, h1.x7, h1.x8, h1.only.trans ho (fun k hk e => by have := h1.lo.2.2.2.2 k e; omega), h1.lo⟩
  refine ⟨by rw [a1], pn_mk h h5 hS (K' := K) ⟨a2.sz, a2.gn, a2.gf, a2.gl, a2.ln, a2.fr, a2.ne, a2.va, a2.kc, a2.kv, a2.dk⟩ h3 ⟨g1, g3, g4, g5, g6, g7, g8⟩ (fun _ e => e) (.inl rfl) (fun k e => .inl e) (fun k e => .inl e) ho (fun k hk => .inl hk)⟩
theorem pw_synced {w W : World} {p d l : Nat} {F : Nat → Prop} {t fl : Nat} {C K : Nat → Option Pg} (h : Pw w W p d l F t fl C K) :
    Calls Tryz.prog 27 #[.pointer (some ⟨p, 0, none⟩)] W fun e w' => e = .returned (.tuple #[]) ∧ Pn w W w' p d l F t C := by
  obtain ⟨fb, mb, g, m, P, D, G, v7, v8, T, h1, h2, h3, ⟨g1, g2, g3, g4, g5, g6, g7, g8⟩, h5⟩ := h.ex
  obtain ⟨B, ao, cp, hv, hs⟩ := h1.sh
  refine (sh_synced hs).mono ?_
  rintro e w' ⟨rfl, hs', ho⟩
  have hr : ShR W w' p d l fb mb g m B ao cp v8 T ⟨0, P.synced, D, G⟩ := ⟨W.heap.size, _, hs', fun k e => e.1, fun k hk e => ⟨e, by omega⟩, .inr (Nat.le_refl _), ho.mono (fun k _ e => .inr (.inr (.inl e)))⟩
  obtain ⟨mb', T', hS', hT, hm⟩ := h1.back2 hv hr (ok_synced h1.pok) (Lg.Alike.refl G)
  exact ⟨rfl, pn_mk h h5 hS' (K' := K) ⟨h2.sz, h2.gn, h2.gf, h2.gl, h2.ln, h2.fr, h2.ne, h2.va, h2.kc, h2.kv, h2.dk⟩ h3 ⟨g1, g3, g4, g5, g6, g7, g8⟩ hT hm (fun k e => .inl e) (fun k e => .inl e) ho (fun k hk => .inr (.inr (.inl hk)))⟩
/-- What a page's sectors are decoded to. -/
def kdec (o : Option Pg) : Pg × Int := match o with
  | some p => (p, 0)
  | none => (.none, 30)
theorem read_lies {D : Dk} {N : Nat} {f : Nat → List UInt8} (h : D.Wk N f) (a : Nat) (ha : a + 8 ≤ N) (o : Option Pg) (hv : ∀ p, o = some p → p.valid) (hf : ∀ i, i < 8 → f (a + i) = lies o i) : ∃ l, D.read (a : Int) 8 = (l, 0) ∧ dec l = kdec o := by
  have hr : D.read (a : Int) 8 = (((List.range 8).map fun i => lies o i).flatten, 0) := by
    unfold Dk.read
    rw [h.dead, if_neg (by simp), h.len, if_pos (by unfold hasB; simp; omega)]
    have e : D.bytes (a : Int).toNat (8 : Int).toNat = ((List.range 8).map fun i => lies o i).flatten := by
      unfold Dk.bytes
      rw [Int.toNat_natCast, show (8 : Int).toNat = 8 from rfl]
      have e2 : ((List.range 8).map fun i => D.cur (a + i)) = (List.range 8).map fun i => lies o i := by
        apply List.map_congr_left
        intro i hi
        have hi := List.mem_range.1 hi
        rw [h.cur (a + i) (by omega), hf i hi]
      rw [e2]
    rw [e]
  refine ⟨_, hr, ?_⟩
  cases o with
  | some p =>
    have hp := hv p rfl
    show dec ((List.range 8).map fun i => (p.enc.drop (64 * i)).take 64).flatten = (p, 0)
    rw [chunk_all, List.take_of_length_le (by rw [enc_len p hp.fit.2.2]; omega), dec_enc p hp]
  | none =>
    have e : ((List.range 8).map fun i => lies none i).flatten = List.replicate 512 0 := by decide +kernel
    rw [e]
    exact aw_none
theorem pw_read {w W : World} {p d l : Nat} {F : Nat → Prop} {t fl : Nat} {C K : Nat → Option Pg} (h : Pw w W p d l F t fl C K) (k : Nat) (hk : k < 12) :
    Calls Tryz.prog 32 #[.pointer (some ⟨d, 0, none⟩), .int .i64 (200 + 8 * (k : Int)), .int .i64 8] W fun e w' => ∃ N : ByteArray, e = .returned (.tuple #[.string N, .int .i64 0]) ∧ dec (bl N) = kdec (K k) ∧ Only (fun _ => False) W w' := by
  obtain ⟨fb, mb, g, m, P, D, G, v7, v8, T, h1, h2, h3, hG, h5⟩ := h.ex
  obtain ⟨f, f1, f2⟩ := h2.dk
  have hs := h2.sz
  obtain ⟨ll, a1, a2⟩ := read_lies f1 (P.frm + 8 * k) (by omega) (K k) (fun q hq => (h2.kv k q hq).1) (f2 k (by omega))
  rw [h3.1, show (((200 + 8 * k : Nat)) : Int) = 200 + 8 * (k : Int) by omega] at a1
  have hx := dread_any W d g m D h1.dsk (200 + 8 * (k : Int)) 8 (by omega)
  rw [a1] at hx
  exact Calls.mono hx fun e w' hx => ⟨⟨ll.toArray⟩, hx.1, by show dec ll.toArray.toList = _; rw [← a2], hx.2⟩
theorem pw_flushed {w W : World} {p d l : Nat} {F : Nat → Prop} {t fl : Nat} {C K : Nat → Option Pg} (h : Pw w W p d l F t fl C K) : Calls Tryz.prog 42 #[.pointer (some ⟨l, 0, none⟩)] W fun e w' => e = .returned (.int .i64 (fl : Int)) ∧ w' = W := by
  obtain ⟨fb, mb, g, m, P, D, G, v7, v8, T, h1, h2, h3, hG, h5⟩ := h.ex
  have := qa_flushed h1
  rw [hG.2.1] at this
  exact this
theorem pw_early {w W : World} {p d l : Nat} {F : Nat → Prop} {t fl : Nat} {C K : Nat → Option Pg} (h : Pw w W p d l F t fl C K) (k : Nat) (q : Pg) (hq : K k = some q) : q.lsn < (fl : Int) := by
  obtain ⟨fb, mb, g, m, P, D, G, v7, v8, T, h1, h2, h3, hG, h5⟩ := h.ex
  have := (h2.kv k q hq).2.2
  rw [hG.2.1] at this
  exact this
/-- One pool apart from the blocks X. -/
structure Oq (w W : World) (p d l : Nat) (X : Nat → Prop) (t fl : Nat) (C K : Nat → Option Pg) : Prop where
  ex : ∃ F, Pw w W p d l F t fl C K ∧ ∀ k, X k → ¬ F k
  x : ∀ k, X k → w.heap.size ≤ k ∧ k < W.heap.size
  only : Only (fun _ => False) w W
/-- What a call leaves. -/
def On (w W W' : World) (p d l : Nat) (X : Nat → Prop) (t : Nat) (C : Nat → Option Pg) : Prop := ∃ fl K, Oq w W' p d l X t fl C K ∧ Only (Kx w X) W W'
theorem on_mk {w W W' : World} {p d l : Nat} {X F : Nat → Prop} {t t' fl : Nat} {C C' K : Nat → Option Pg} (h : Oq w W p d l X t fl C K) (h1 : Pw w W p d l F t fl C K) (h4 : ∀ k, X k → ¬ F k) (hn : Pn w W W' p d l F t' C') : On w W W' p d l X t' C' := by
  obtain ⟨F', fl', K', n1, n2, n3⟩ := hn
  refine ⟨fl', K', ⟨⟨F', n1, fun k hk e => ?_⟩, fun k hk => ⟨(h.x k hk).1, Nat.lt_of_lt_of_le (h.x k hk).2 n3.size⟩, n1.only⟩, n3.mono (fun k _ hk => ⟨fun e => h4 k e hk, (h1.lt k hk).1⟩)⟩
  rcases n2 k e with e1 | e1
  · exact h4 k hk e1
  · have := (h.x k hk).2; omega
theorem Oq.kept {w W W' : World} {p d l : Nat} {X X' : Nat → Prop} {t fl : Nat} {C K : Nat → Option Pg} (h : Oq w W p d l X t fl C K) (ho : Only X W W') (hX : ∀ k, X' k → X k ∨ W.heap.size ≤ k ∧ k < W'.heap.size) : Oq w W' p d l X' t fl C K := by
  obtain ⟨F, h1, h4⟩ := h.ex
  have hw : Only (fun _ => False) w W' := h.only.trans ho (fun k hk e => by have := (h.x k e).1; omega)
  have hsz := ho.size
  have hz := h.only.size
  refine ⟨⟨F, h1.kept ho (fun k hk e => h4 k e hk) hw, fun k hk => ?_⟩, fun k hk => ?_, hw⟩
  · rcases hX k hk with e | e
    · exact h4 k e
    · exact fun e2 => by have := (h1.lt k e2).2; omega
  · rcases hX k hk with e | e
    · have := h.x k e; omega
    · omega
theorem Oq.more {w W W' : World} {p d l : Nat} {X : Nat → Prop} {t fl : Nat} {C K : Nat → Option Pg} (h : Oq w W p d l X t fl C K) (ho : Only (fun _ => False) W W') : Oq w W' p d l X t fl C K := h.kept (ho.mono (fun _ _ e => e.elim)) (fun _ e => .inl e)
theorem Oq.down {w W : World} {p d l : Nat} {X X' : Nat → Prop} {t fl : Nat} {C K : Nat → Option Pg} (h : Oq w W p d l X t fl C K) (hX : ∀ k, X' k → X k) : Oq w W p d l X' t fl C K := h.kept (Only.refl _ _) (fun k e => .inl (hX k e))
theorem Oq.var {w W : World} {p d l : Nat} {X : Nat → Prop} {t fl : Nat} {C K : Nat → Option Pg} (h : Oq w W p d l X t fl C K) (o : Obj) : Oq w (W.alloc o) p d l (fun k => X k ∨ k = W.heap.size) t fl C K :=
  h.kept ((onlyA W o).mono (fun _ _ e => e.elim)) (fun k e => by
    rcases e with e | e
    · exact .inl e
    · exact .inr ⟨by omega, by simp; omega⟩)
theorem ow_append {w W : World} {p d l : Nat} {X : Nat → Prop} {t fl : Nat} {C K : Nat → Option Pg} (h : Oq w W p d l X t fl C K) (ht : t ≤ 9000) :
    Calls Tryz.prog 18 #[.pointer (some ⟨l, 0, none⟩), .agg (nt.cells Loc.none)] W fun e w' => e = .returned (.tuple #[.int .i64 (t : Int), .int .i64 0]) ∧ On w W w' p d l X (ntl t) C := by
  obtain ⟨F, h1, h4⟩ := h.ex
  exact (pw_append h1 ht).mono fun e w' hx => ⟨hx.1, on_mk h h1 h4 hx.2⟩
theorem ow_set {w W : World} {p d l : Nat} {X : Nat → Prop} {t fl : Nat} {C K : Nat → Option Pg} (h : Oq w W p d l X t fl C K) (n : Nat) (hn : n < 12) (pick : Int) (body : Pg) (Bb : Nat) (ab : Option Addr) (cb : Nat) (hS : Strs w Bb ab body.items) (hh : body.high.size ≤ 140737488355328) (hl : body.lsn < (t : Int)) :
    Calls Tryz.prog 21 #[.pointer (some ⟨p, 0, none⟩), .int .i64 (n : Int), .agg #[.int .i64 body.lsn, .int .i64 body.kind, .int .i64 body.level, .int .i64 body.right, .string body.high, .slice ab body.items.length cb], .int .i64 pick] W fun e w' =>
      e = .returned (.int .i64 body.setC) ∧ On w W w' p d l X t (setP C n body) := by
  obtain ⟨F, h1, h4⟩ := h.ex
  exact (pw_set h1 n hn pick body Bb ab cb (hS.more h.only) (fun h0 e => by have := (h1.lt Bb e).1; have := hS.lt h0; omega) hh hl).mono fun e w' hx => ⟨hx.1, on_mk h h1 h4 hx.2⟩
theorem ow_fetch {w W : World} {p d l : Nat} {X : Nat → Prop} {t fl : Nat} {C K : Nat → Option Pg} (h : Oq w W p d l X t fl C K) (n : Nat) (hn : n < 12) (pick : Int) (pg : Pg) (c : Int) (hp : fetP (C n) = pg) (hc : fetC (C n) = c) :
    Calls Tryz.prog 15 #[.pointer (some ⟨p, 0, none⟩), .int .i64 (n : Int), .int .i64 pick] W fun e w' =>
      ∃ Bq aq cq, e = .returned (.tuple #[.agg #[.int .i64 pg.lsn, .int .i64 pg.kind, .int .i64 pg.level, .int .i64 pg.right, .string pg.high, .slice aq pg.items.length cq], .int .i64 c]) ∧ Strs w' Bq aq pg.items ∧ On w W w' p d l X t C := by
  subst hp hc
  obtain ⟨F, h1, h4⟩ := h.ex
  refine (pw_fetch h1 n hn pick).mono ?_
  rintro e w' ⟨Bq, aq, cq, he, b1, b2, b3, hx⟩
  exact ⟨Bq, aq, cq, he, b1, on_mk h h1 h4 hx⟩
theorem ow_write {w W : World} {p d l : Nat} {X : Nat → Prop} {t fl : Nat} {C K : Nat → Option Pg} (h : Oq w W p d l X t fl C K) (n : Nat) (hn : n < 12) : Calls Tryz.prog 23 #[.pointer (some ⟨p, 0, none⟩), .int .i64 (n : Int)] W fun e w' => e = .returned (.int .i64 0) ∧ On w W w' p d l X t C := by
  obtain ⟨F, h1, h4⟩ := h.ex
  exact (pw_write h1 n hn).mono fun e w' hx => ⟨hx.1, on_mk h h1 h4 hx.2⟩
theorem ow_sync {w W : World} {p d l : Nat} {X : Nat → Prop} {t fl : Nat} {C K : Nat → Option Pg} (h : Oq w W p d l X t fl C K) : Calls Tryz.prog 25 #[.pointer (some ⟨d, 0, none⟩)] W fun e w' => e = .returned (.int .i64 0) ∧ On w W w' p d l X t C := by
  obtain ⟨F, h1, h4⟩ := h.ex
  exact (pw_sync h1).mono fun e w' hx => ⟨hx.1, on_mk h h1 h4 hx.2⟩
theorem ow_synced {w W : World} {p d l : Nat} {X : Nat → Prop} {t fl : Nat} {C K : Nat → Option Pg} (h : Oq w W p d l X t fl C K) : Calls Tryz.prog 27 #[.pointer (some ⟨p, 0, none⟩)] W fun e w' => e = .returned (.tuple #[]) ∧ On w W w' p d l X t C := by
  obtain ⟨F, h1, h4⟩ := h.ex
  exact (pw_synced h1).mono fun e w' hx => ⟨hx.1, on_mk h h1 h4 hx.2⟩
theorem ow_read {w W : World} {p d l : Nat} {X : Nat → Prop} {t fl : Nat} {C K : Nat → Option Pg} (h : Oq w W p d l X t fl C K) (k : Nat) (hk : k < 12) : Calls Tryz.prog 32 #[.pointer (some ⟨d, 0, none⟩), .int .i64 (200 + 8 * (k : Int)), .int .i64 8] W fun e w' => ∃ N : ByteArray, e = .returned (.tuple #[.string N, .int .i64 0]) ∧ dec (bl N) = kdec (K k) ∧ Only (fun _ => False) W w' := by
  obtain ⟨F, h1, h4⟩ := h.ex
  exact pw_read h1 k hk
theorem ow_flushed {w W : World} {p d l : Nat} {X : Nat → Prop} {t fl : Nat} {C K : Nat → Option Pg} (h : Oq w W p d l X t fl C K) : Calls Tryz.prog 42 #[.pointer (some ⟨l, 0, none⟩)] W fun e w' => e = .returned (.int .i64 (fl : Int)) ∧ w' = W := by
  obtain ⟨F, h1, h4⟩ := h.ex
  exact pw_flushed h1
theorem ow_early {w W : World} {p d l : Nat} {X : Nat → Prop} {t fl : Nat} {C K : Nat → Option Pg} (h : Oq w W p d l X t fl C K) (k : Nat) (q : Pg) (hq : K k = some q) : q.lsn < (fl : Int) := by
  obtain ⟨F, h1, h4⟩ := h.ex
  exact pw_early h1 k q hq
end Go.Proofs.YtbfafijfhaejmaaGreatDoor

namespace Go.Proofs.YtbfafijfhaejmaaGreatDoor
open Go.RowKit

theorem Tryz.infoPage : (Tryz.prog.info? 45).map (fun i => (i.zero, i.size, i.bytes)) = some (some (.agg #[.int .i64 0, .int .i64 0, .int .i64 0, .int .i64 0, .string ⟨#[]⟩, .slice none 0 0]), 6, 72) := by kernel_rfl
theorem Tryz.infoBool : (Tryz.prog.info? 4).map (fun i => (i.zero, i.size, i.bytes)) = some (some (.bool false), 1, 1) := by kernel_rfl
/-- A page's cells. -/
def pcl (p : Pg) (ao : Option Addr) (cp : Nat) : List Value := [.int .i64 p.lsn, .int .i64 p.kind, .int .i64 p.level, .int .i64 p.right, .string p.high, .slice ao p.items.length cp]
/-- Which were set, in block b. -/
structure Iss (W : World) (b : Nat) (C : Nat → Option Pg) : Prop where
  at_ : ∀ k, k < 12 → W.cell? ⟨b, k, none⟩ = some (.bool (C k).isSome)
  fz : ∀ k, W.frozen? ⟨b, k, none⟩ = false
  lt : b < W.heap.size
/-- What they were set to, in block b; their items came in. -/
structure Las (w W : World) (b : Nat) (C : Nat → Option Pg) : Prop where
  at_ : ∀ k, k < 12 → ∃ B ao cp, W.rangeAt b (k * 6) (pcl (fetP (C k)) ao cp) ∧ Strs w B ao (fetP (C k)).items
  fz : ∀ k, W.frozen? ⟨b, k, none⟩ = false
  lt : b < W.heap.size
theorem Iss.kept {S : Nat → Prop} {W W' : World} {b : Nat} {C : Nat → Option Pg} (h : Iss W b C) (ho : Only S W W') (hS : ¬ S b) : Iss W' b C :=
  ⟨fun k hk => (ho.cell (p := ⟨b, k, none⟩) h.lt hS).trans (h.at_ k hk), fun k => (ho.frozen (p := ⟨b, k, none⟩) h.lt hS).trans (h.fz k), Nat.lt_of_lt_of_le h.lt ho.size⟩
theorem Las.kept {S : Nat → Prop} {w W W' : World} {b : Nat} {C : Nat → Option Pg} (h : Las w W b C) (ho : Only S W W') (hS : ¬ S b) : Las w W' b C :=
  ⟨fun k hk => by
    obtain ⟨B, ao, cp, h1, h2⟩ := h.at_ k hk
    exact ⟨B, ao, cp, range_go h1 ho hS, h2⟩, fun k => (ho.frozen (p := ⟨b, k, none⟩) h.lt hS).trans (h.fz k), Nat.lt_of_lt_of_le h.lt ho.size⟩
theorem iss_make (W : World) : ∃ W', (Instr.makeSlice 64 (.int .i64 12) (.int .i64 12)).run Tryz.prog W = .ok (.slice (some ⟨W.heap.size, 0, none⟩) 12 12) W' ∧ Iss W' W.heap.size (fun _ => none) ∧ Only (fun _ => False) W W' := by
  obtain ⟨i0, hi, hz0, hz1, hz2⟩ := info_parts Tryz.infoBool
  obtain ⟨w1, hmk, hown, hgr⟩ := run_make_full (P := Tryz.prog) W W.heap.size 64 4 i0 (.bool false) 1 Tryz.underlying64 hi hz0 hz1 .i64 .i64 12 (by rw [hz2]; omega) (by unfold maxLen; omega) (Nat.le_refl _)
  refine ⟨w1, hmk, ⟨fun k hk => ?_, fun k => hown.frozenAt k, ?_⟩, Only.grown hgr (fun k hk => by cases hk)⟩
  · rw [hown.cellAt k (by omega)]
    have e : (Value.bool false).cells = #[.bool false] := rfl
    rw [e, toList_madeCells_one, List.getElem?_replicate, if_pos (by omega)]
    rfl
  · have := hown.cellAt 0 (by omega)
    have e : (Value.bool false).cells = #[.bool false] := rfl
    rw [e, toList_madeCells_one] at this
    have hh : w1.cell? ⟨W.heap.size, 0, none⟩ = some (.bool false) := by rw [this]; rfl
    exact World.block_lt_of_cell? w1 _ hh
theorem las_make (w W : World) : ∃ W', (Instr.makeSlice 76 (.int .i64 12) (.int .i64 12)).run Tryz.prog W = .ok (.slice (some ⟨W.heap.size, 0, none⟩) 12 12) W' ∧ Las w W' W.heap.size (fun _ => none) ∧ Only (fun _ => False) W W' := by
  obtain ⟨i0, hi, hz0, hz1, hz2⟩ := info_parts Tryz.infoPage
  obtain ⟨w1, hmk, hown, hgr⟩ := run_make_full (P := Tryz.prog) W W.heap.size 76 45 i0 _ 6 Tryz.underlying76 hi hz0 hz1 .i64 .i64 12 (by rw [hz2]; omega) (by unfold maxLen; omega) (Nat.le_refl _)
  have hc : ∀ k, k < 12 → ∀ j (v : Value), (pcl Pg.none none 0)[j]? = some v → w1.cell? ⟨W.heap.size, k * 6 + j, none⟩ = some v := fun k hk j v hv => by
    have hj : j < 6 := (List.getElem?_eq_some_iff.1 hv).1
    rw [hown.cellAt (k * 6 + j) (by omega)]
    have e : ((Value.agg #[.int .i64 0, .int .i64 0, .int .i64 0, .int .i64 0, .string ⟨#[]⟩, .slice none 0 0]).cells) = #[.int .i64 0, .int .i64 0, .int .i64 0, .int .i64 0, .string ⟨#[]⟩, .slice none 0 0] := rfl
    rw [e]
    unfold madeCells
    simp only [Array.toList_map, Array.toList_range, List.getElem?_map, List.getElem?_range (show k * 6 + j < 12 * 6 by omega), Option.map_some]
    rw [show (k * 6 + j) % (#[Value.int .i64 0, .int .i64 0, .int .i64 0, .int .i64 0, .string ⟨#[]⟩, .slice none 0 0] : Array Value).size = j by show (k * 6 + j) % 6 = j; omega]
    rw [← hv]
    match j, hj with
    | 0, _ => rfl
    | 1, _ => rfl
    | 2, _ => rfl
    | 3, _ => rfl
    | 4, _ => rfl
    | 5, _ => rfl
  refine ⟨w1, hmk, ⟨fun k hk => ⟨0, none, 0, hc k hk, Strs.nil _ _ _⟩, fun k => hown.frozenAt k, ?_⟩, Only.grown hgr (fun k hk => by cases hk)⟩
  have hh : w1.cell? ⟨W.heap.size, 0 * 6 + 0, none⟩ = some (.int .i64 0) := hc 0 (by omega) 0 _ rfl
  exact World.block_lt_of_cell? w1 _ hh
/-- A page is laid in its place. -/
theorem Las.put {w W : World} {b : Nat} {C : Nat → Option Pg} (h : Las w W b C) (n : Nat) (hn : n < 12) (body : Pg) (B : Nat) (ab : Option Addr) (cb : Nat) (hS : Strs w B ab body.items) : Las w (W.setCells b (n * 6) (pcl body ab cb)) b (fun k => if k = n then some body else C k) ∧ Only (fun k => k = b) W (W.setCells b (n * 6) (pcl body ab cb)) := by
  have ho : Only (fun k => k = b) W (W.setCells b (n * 6) (pcl body ab cb)) := only_cells8 b (pcl body ab cb) (n * 6) W
  refine ⟨⟨fun k hk => ?_, fun k => by rw [World.frozen?_setCells]; exact h.fz k, Nat.lt_of_lt_of_le h.lt ho.size⟩, ho⟩
  by_cases e : k = n
  · subst e
    rw [if_pos rfl]
    obtain ⟨B2, ao2, cp2, h1, h2⟩ := h.at_ k hk
    refine ⟨B, ab, cb, World.rangeAt_setCells_same W b (k * 6) _ (fun q hq => ⟨h1.isSome q hq, h.fz _⟩), hS⟩
  · rw [if_neg e]
    obtain ⟨B2, ao2, cp2, h1, h2⟩ := h.at_ k hk
    refine ⟨B2, ao2, cp2, World.rangeAt_setCells_apart h1 b (n * 6) _ (.inr ?_), h2⟩
    show k * 6 + 6 ≤ n * 6 ∨ n * 6 + 6 ≤ k * 6
    omega
theorem Iss.put {W : World} {b : Nat} {C : Nat → Option Pg} (h : Iss W b C) (n : Nat) (hn : n < 12) (body : Pg) : Iss (W.setCell ⟨b, n, none⟩ (.bool true)) b (fun k => if k = n then some body else C k) := by
  refine ⟨fun k hk => ?_, fun k => by simpa using h.fz k, by simpa using h.lt⟩
  by_cases e : k = n
  · subst e
    rw [if_pos rfl]
    exact World.cell?_setCell_same _ _ _ (h.at_ k hk)
  · rw [if_neg e]
    exact (World.cell?_setCell_other _ _ _ _ (by intro e2; injection e2 with _ e2; exact e e2.symm)).trans (h.at_ k hk)
theorem setCells6 (W : World) (fb o : Nat) (v0 v1 v2 v3 v4 v5 : Value) : W.setCells fb o [v0, v1, v2, v3, v4, v5] = (((((W.setCell ⟨fb, o, none⟩ v0).setCell ⟨fb, o + 1, none⟩ v1).setCell ⟨fb, o + 2, none⟩ v2).setCell ⟨fb, o + 3, none⟩ v3).setCell ⟨fb, o + 4, none⟩ v4).setCell ⟨fb, o + 5, none⟩ v5 := rfl
theorem load_pgo {w : World} {b o : Nat} {p : Pg} {ao : Option Addr} {cp : Nat} (h : w.rangeAt b o (pcl p ao cp)) : (loadVar 45 ⟨b, o, none⟩).run Tryz.prog w = .ok (.agg #[.int .i64 p.lsn, .int .i64 p.kind, .int .i64 p.level, .int .i64 p.right, .string p.high, .slice ao p.items.length cp]) w := by
  have c0 : w.cell? ⟨b, o, none⟩ = _ := h 0 _ rfl
  have c1 := h 1 _ rfl
  have c2 := h 2 _ rfl
  have c3 := h 3 _ rfl
  have c4 := h 4 _ rfl
  have c5 := h 5 _ rfl
  simp [loadVar, go_sem, c0, c1, c2, c3, c4, c5]
theorem yieldsIf_load_pgo {ops : Array Oper} {S : World → Prop} {op : Oper} {a : Act} {p : Pg} {ao : Option Addr} {cp : Nat} (hw : Region.wanted op (yielded ops a.tmps) = true) (x : Operand) (ho : op.op = .load 45 x)
    (b o : Nat) (hx : a.eval x = .pointer (some ⟨b, o, none⟩)) (hS : ∀ w, S w → w.rangeAt b o (pcl p ao cp)) : YieldsIf Tryz.prog ops S op (.agg #[.int .i64 p.lsn, .int .i64 p.kind, .int .i64 p.level, .int .i64 p.right, .string p.high, .slice ao p.items.length cp]) a :=
  .inl ⟨hw, fun w hw' => by
    unfold execOp
    simp only [ho, hx, Instr.loadAt, Instr.sureAddr, Sem.run_bind, Sem.run_pure, Result.andThen_ok, load_pgo (hS w hw')]⟩
theorem ld_bool {w : World} {p : Addr} {v : Value} (h : w.cell? p = some v) : (loadVar 4 p).run Tryz.prog w = .ok v w := by simp [loadVar, go_sem, h]
/-- One pool and the two rows; X the blocks of the law's own. -/
structure Kp (w W : World) (p d l lb ib : Nat) (X : Nat → Prop) (t fl : Nat) (C K Ca : Nat → Option Pg) : Prop where
  ow : Oq w W p d l X t fl C K
  is : Iss W ib Ca
  la : Las w W lb Ca
  xl : X lb
  xi : X ib
  ne : lb ≠ ib
theorem kp_on {w W W' : World} {p d l lb ib : Nat} {X : Nat → Prop} {t t' fl : Nat} {C C' K Ca : Nat → Option Pg} (h : Kp w W p d l lb ib X t fl C K Ca) (hn : On w W W' p d l X t' C') : ∃ fl' K', Kp w W' p d l lb ib X t' fl' C' K' Ca ∧ Only (Kx w X) W W' := by
  obtain ⟨fl', K', h1, h2⟩ := hn
  exact ⟨fl', K', ⟨h1, h.is.kept h2 (fun e => e.1 h.xi), h.la.kept h2 (fun e => e.1 h.xl), h.xl, h.xi, h.ne⟩, h2⟩
theorem Kp.more {w W W' : World} {p d l lb ib : Nat} {X : Nat → Prop} {t fl : Nat} {C K Ca : Nat → Option Pg} (h : Kp w W p d l lb ib X t fl C K Ca) (ho : Only (fun _ => False) W W') : Kp w W' p d l lb ib X t fl C K Ca := ⟨h.ow.more ho, h.is.kept ho (fun e => e), h.la.kept ho (fun e => e), h.xl, h.xi, h.ne⟩
theorem Kp.down {w W : World} {p d l lb ib : Nat} {X X' : Nat → Prop} {t fl : Nat} {C K Ca : Nat → Option Pg} (h : Kp w W p d l lb ib X t fl C K Ca) (hX : ∀ k, X' k → X k) (hl : X' lb) (hi : X' ib) : Kp w W p d l lb ib X' t fl C K Ca := ⟨h.ow.down hX, h.is, h.la, hl, hi, h.ne⟩
theorem Kp.var {w W : World} {p d l lb ib : Nat} {X : Nat → Prop} {t fl : Nat} {C K Ca : Nat → Option Pg} (h : Kp w W p d l lb ib X t fl C K Ca) (o : Obj) : Kp w (W.alloc o) p d l lb ib (fun k => X k ∨ k = W.heap.size) t fl C K Ca := ⟨h.ow.var o, h.is.kept (onlyA W o) (fun e => e), h.la.kept (onlyA W o) (fun e => e), .inl h.xl, .inl h.xi, h.ne⟩
/-- A variable of the law's own is changed. -/
theorem Kp.own {w W W' : World} {p d l lb ib b : Nat} {X : Nat → Prop} {t fl : Nat} {C K Ca : Nat → Option Pg} (h : Kp w W p d l lb ib X t fl C K Ca) (ho : Only (fun k => k = b) W W') (hb : X b) (h1 : lb ≠ b) (h2 : ib ≠ b) : Kp w W' p d l lb ib X t fl C K Ca :=
  ⟨h.ow.kept (ho.mono (fun _ _ e => e ▸ hb)) (fun _ e => .inl e), h.is.kept ho h2, h.la.kept ho h1, h.xl, h.xi, h.ne⟩
/-- The two rows behind a Set. -/
theorem Kp.put {w W : World} {p d l lb ib : Nat} {X : Nat → Prop} {t fl : Nat} {C K Ca : Nat → Option Pg} (h : Kp w W p d l lb ib X t fl C K Ca) (n : Nat) (hn : n < 12) (body : Pg) (B : Nat) (ab : Option Addr) (cb : Nat) (hS : Strs w B ab body.items) (hC : C = fun k => if k = n then some body else Ca k) :
    Kp w ((W.setCells lb (n * 6) (pcl body ab cb)).setCell ⟨ib, n, none⟩ (.bool true)) p d l lb ib X t fl C K C ∧ Only (fun k => k = lb ∨ k = ib) W ((W.setCells lb (n * 6) (pcl body ab cb)).setCell ⟨ib, n, none⟩ (.bool true)) := by
  obtain ⟨l1, l2⟩ := h.la.put n hn body B ab cb hS
  have o2' : Only (fun k => k = ib) (W.setCells lb (n * 6) (pcl body ab cb)) ((W.setCells lb (n * 6) (pcl body ab cb)).setCell ⟨ib, n, none⟩ (.bool true)) := Only.setCell (S := fun k => k = ib) _ ⟨ib, n, none⟩ _ rfl
  have o12 : Only (fun k => k = lb ∨ k = ib) W ((W.setCells lb (n * 6) (pcl body ab cb)).setCell ⟨ib, n, none⟩ (.bool true)) := (l2.mono (fun k _ e => .inl e)).trans (o2'.mono (fun k _ e => .inr e)) (fun _ _ e => e)
  subst hC
  exact ⟨⟨h.ow.kept (o12.mono (fun k _ e => by rcases e with e | e; exact e ▸ h.xl; exact e ▸ h.xi)) (fun _ e => .inl e), (h.is.kept l2 (fun e => h.ne e.symm)).put n hn body, l1.kept o2' h.ne, h.xl, h.xi, h.ne⟩, o12⟩
theorem kp_start {w W : World} {p d l : Nat} {F : Nat → Prop} {t fl : Nat} {C K : Nat → Option Pg} {lb ib : Nat} (h : Pw w W p d l F t fl C K) (hl : w.heap.size ≤ lb ∧ ¬ F lb) (hi : w.heap.size ≤ ib ∧ ¬ F ib) (h1 : Iss W ib C) (h2 : Las w W lb C) (hne : lb ≠ ib) : Kp w W p d l lb ib (fun k => k = lb ∨ k = ib) t fl C K C :=
  ⟨⟨⟨F, h, fun k e => by rcases e with e | e <;> subst e; exact hl.2; exact hi.2⟩, fun k e => by rcases e with e | e <;> subst e; exact ⟨hl.1, h2.lt⟩; exact ⟨hi.1, h1.lt⟩, h.only⟩, h1, h2, .inl rfl, .inr rfl, hne⟩
end Go.Proofs.YtbfafijfhaejmaaGreatDoor

namespace Go.Proofs.YtbfafijfhaejmaaGreatDoor
open Go.RowKit

theorem Pag.lsn {w : World} {b : Nat} {v0 v1 v2 v3 v4 v5 : Value} (h : Pag w b v0 v1 v2 v3 v4 v5) (u : Value) : Pag (w.setCell ⟨b, 0, none⟩ u) b u v1 v2 v3 v4 v5 := by
  have k : ∀ (j : Nat) (v : Value), j ≠ 0 → w.cell? ⟨b, j, none⟩ = some v → (w.setCell ⟨b, 0, none⟩ u).cell? ⟨b, j, none⟩ = some v := fun j v hj hc =>
    (World.cell?_setCell_other _ _ _ _ (by intro e; injection e with _ e; exact hj e.symm)).trans hc
  exact ⟨World.cell?_setCell_same _ _ _ h.c0, k _ _ (by decide) h.c1, k _ _ (by decide) h.c2, k _ _ (by decide) h.c3, k _ _ (by decide) h.c4, k _ _ (by decide) h.c5, by simpa using h.f0, by simpa using h.f1, by simpa using h.f2, by simpa using h.f3, by simpa using h.f4, by simpa using h.f5, by simpa using h.lt⟩
/-- A page with another place. -/
def Pg.at_ (p : Pg) (t : Int) : Pg := { p with lsn := t }
set_option maxRecDepth 100000 in
set_option maxHeartbeats 6400000 in
theorem keeps_law (w : World) (fz : Int) (B cp : Nat) (ao : Option Addr) (L : List Qo) (hQ : Qos w B ao L) :
    Calls Tryz.prog 4 #[.int .i64 fz, .slice ao L.length cp] w fun e w' => e = .returned (.bool true) ∧ Only (fun _ => False) w w' := by
  have hlen := hQ.len
  have HQ := hide hQ
  clear hQ
  obtain ⟨V, hV⟩ : ∃ V, Value.agg (nt.cells Loc.none) = V := ⟨_, rfl⟩
  have HN := hide (fun W => note_any W)
  have HAA := hide (fun (W : World) (p d l : Nat) X t fl C K (h : Oq w W p d l X t fl C K) ht => ow_append h ht)
  simp only [hV] at HN HAA
  clear hV
  obtain ⟨r1, r2, r3⟩ := take_rem (pick := fz) (n := 6) (by omega)
  obtain ⟨t1, ht1⟩ : ∃ t1, fz.tmod 6 = t1 := ⟨_, rfl⟩
  rw [show ((6 : Nat) : Int) = 6 from rfl, ht1] at r1 r2 r3
  obtain ⟨m6, hm⟩ : ∃ m : Nat, fz % 6 = (m : Int) := ⟨(fz % 6).toNat, by omega⟩
  have hm6 : (m6 : Int) < 6 := by omega
  rw [hm] at r3
  clear hm
  go_enter Tryz.func4, Tryz.ntmps4
  go_wp2_with fail
  refine (fr_disk w).mono ?_
  rintro e w1 ⟨d, g, m, rfl, hD, ho, hk⟩
  have HF := hide (fr_log hD ho hk)
  clear hD ho hk
  go_wp2_with fail
  refine HF.out.mono ?_
  rintro e w2 ⟨l, D, rfl, hW, hD, hL, hnl, hlw, ho, hk⟩
  have HP := hide (fr_pool hW hD hL hnl hlw ho hk (1 + m6) (by omega) (by omega))
  rw [show (((1 + m6 : Nat)) : Int) = 1 + (m6 : Int) by omega] at HP
  clear hW hD hL hnl hlw ho hk HF
  go_wp2_with fail
  refine HP.out.mono ?_
  rintro e w3 ⟨p, F, rfl, hF, ho, hp⟩
  have HP3 := hide (hp w (Only.refl _ _))
  clear hF ho hp HP ht1 r1 r2 r3 hm6
  obtain ⟨W4, hmk4, hLas, hO4⟩ := las_make w w3
  obtain ⟨W5, hmk5, hIss, hO5⟩ := iss_make W4
  have HS0 : Hid (Kp w W5 p d l w3.heap.size W4.heap.size (fun k => k = w3.heap.size ∨ k = W4.heap.size) 1 1 (fun _ => none) (fun _ => none) (fun _ => none)) := by
    have z1 := hLas.lt
    have z2 := hO4.size
    have z3 := HP3.out.only.size
    exact kp_start ((HP3.out.more hO4).more hO5) ⟨z3, fun e => by have := (HP3.out.lt _ e).2; omega⟩ ⟨by omega, fun e => by have := (HP3.out.lt _ e).2; omega⟩ hIss (hLas.kept hO5 (fun e => e)) (by omega)
  clear hLas hO4 hIss hO5 HP3
  go_wp2_with fail
  obtain ⟨lb, hlb⟩ : ∃ b, w3.heap.size = b := ⟨_, rfl⟩
  obtain ⟨ib, hib⟩ : ∃ b, W4.heap.size = b := ⟨_, rfl⟩
  rw [hlb, hib] at HS0
  rw [hlb, hib]
  clear hlb hib hmk4 hmk5
  go_loopw [13] (fun y wr => ∃ (j t fl : Nat) (C K : Nat → Option Pg), j ≤ L.length ∧ j ≤ 200 ∧ t ≤ 1 + 33 * j ∧ y = .int .i64 (j : Int) ∧ Hid (Kp w wr p d l lb ib (fun k => k = lb ∨ k = ib) t fl C K C)) (fun y _ => 200 - (intOf y).toNat)
  case atStart => exact ⟨0, 1, 1, _, _, by omega, by omega, by omega, rfl, HS0⟩
  case round =>
    clear HS0
    obtain ⟨j, t, fl, C, K, hj, hj1, ht, rfl, HS⟩ := hrel
    by_cases hlt : j < L.length
    · by_cases h200 : j < 200
      · obtain ⟨o, e1, hc⟩ := (HQ.out.more HS.out.ow.only).at_ (by omega)
        have hrn := hc j hlt
        have HIN := hide (HQ.out.each L[j] (List.getElem_mem hlt))
        obtain ⟨z, hz⟩ : ∃ z, L[j] = z := ⟨_, rfl⟩
        rw [hz] at HIN hrn
        subst e1
        have k0 : wr.cell? ⟨B, o + j * 9, none⟩ = some (.int .i64 z.ask) := hrn 0 _ rfl
        have k1 : wr.cell? ⟨B, o + j * 9 + 1, none⟩ = some (.int .i64 z.page) := hrn 1 _ rfl
        have k2 : wr.cell? ⟨B, o + j * 9 + 2, none⟩ = some (.int .i64 z.pick) := hrn 2 _ rfl
        have k3 : wr.cell? ⟨B, o + j * 9 + 3, none⟩ = some (.int .i64 z.body.lsn) := hrn 3 _ rfl
        have k4 : wr.cell? ⟨B, o + j * 9 + 4, none⟩ = some (.int .i64 z.body.kind) := hrn 4 _ rfl
        have k5 : wr.cell? ⟨B, o + j * 9 + 5, none⟩ = some (.int .i64 z.body.level) := hrn 5 _ rfl
        have k6 : wr.cell? ⟨B, o + j * 9 + 6, none⟩ = some (.int .i64 z.body.right) := hrn 6 _ rfl
        have k7 : wr.cell? ⟨B, o + j * 9 + 7, none⟩ = some (.string z.body.high) := hrn 7 _ rfl
        have k8 : wr.cell? ⟨B, o + j * 9 + 8, none⟩ = some (.slice z.ab z.body.items.length z.cb) := hrn 8 _ rfl
        clear hc hz hrn
        have HXN : Hid (lb ≠ wr.heap.size ∧ ib ≠ wr.heap.size) := by
          have a1 := HS.out.la.lt
          have a2 := HS.out.is.lt
          exact ⟨by omega, by omega⟩
        have HOB0 := hide (Ob.new wr z)
        have HS1 := hide (HS.out.var (.cells #[.int .i64 z.ask, .int .i64 z.page, .int .i64 z.pick, .int .i64 z.body.lsn, .int .i64 z.body.kind, .int .i64 z.body.level, .int .i64 z.body.right, .string z.body.high, .slice z.ab z.body.items.length z.cb] 47))
        go_upto_region 14 with fail
        obtain ⟨xb, hxb⟩ : ∃ b, wr.heap.size = b := ⟨_, rfl⟩
        obtain ⟨W, hW⟩ : ∃ W, W = wr.alloc (.cells #[.int .i64 z.ask, .int .i64 z.page, .int .i64 z.pick, .int .i64 z.body.lsn, .int .i64 z.body.kind, .int .i64 z.body.level, .int .i64 z.body.right, .string z.body.high, .slice z.ab z.body.items.length z.cb] 47) := ⟨_, rfl⟩
        rw [hxb] at HOB0 HS1 HXN ⊢
        rw [← hW] at HOB0 HS1 ⊢
        clear hW hxb k0 k1 k2 k3 k4 k5 k6 k7 k8 HS
        obtain ⟨r1, r2, r3⟩ := take_rem (pick := z.page) (n := 12) (by omega)
        obtain ⟨t1, ht1⟩ : ∃ t1, z.page.tmod 12 = t1 := ⟨_, rfl⟩
        rw [show ((12 : Nat) : Int) = 12 from rfl, ht1] at r1 r2 r3
        obtain ⟨n, hn⟩ : ∃ n : Nat, z.page % 12 = (n : Int) := ⟨(z.page % 12).toNat, by omega⟩
        have hn12 : n < 12 := by omega
        rw [hn] at r3
        have HN12 := hide hn12
        clear hn hn12
        have b1 := HOB0.out.c1
        have b0 := HOB0.out.c0
        go_upto_block 2 with fail
        clear b0 b1 r1 r2 r3 ht1
        go_cut [85] (fun _ wc => ∃ (t' fl' : Nat) (C' K' : Nat → Option Pg), t' ≤ 1 + 33 * (j + 1) ∧ Hid (Kp w wc p d l lb ib (fun k => (k = lb ∨ k = ib) ∨ k = xb) t' fl' C' K' C') ∧ Hid (Ob wc xb z))
        case first =>
          by_cases h1 : z.ask = 1
          · have a1 : (z.ask == 1) = true := by simp [h1]
            clear h1
            go_wp2_with fail
            refine (HN.out _).mono ?_
            rintro e w3 ⟨rfl, ho3⟩
            have HS3 := hide (HS1.out.more ho3)
            have HOB3 := hide (HOB0.out.kept ho3 (fun e => e))
            clear ho3
            go_wp2_with fail
            refine (HAA.out _ _ _ _ _ _ _ _ _ HS3.out.ow (by omega)).mono ?_
            rintro e w6 ⟨rfl, hn6⟩
            obtain ⟨fl6, K6, hs6, ho6⟩ := kp_on HS3.out hn6
            have HS6 := hide hs6
            have HOB6 := hide (HOB3.out.kept ho6 (fun e => e.1 (.inr rfl)))
            clear hn6 hs6 ho6 HS3 HOB3 HS1 HOB0
            have b3 := HOB6.out.c3
            have b4 := HOB6.out.c4
            have b5 := HOB6.out.c5
            have b6 := HOB6.out.c6
            have b7 := HOB6.out.c7
            have b8 := HOB6.out.c8
            go_upto_region 19 with fail
            clear b3 b4 b5 b6 b7 b8
            have HPB0 := hide (Pag.new w6 (.int .i64 z.body.lsn) (.int .i64 z.body.kind) (.int .i64 z.body.level) (.int .i64 z.body.right) (.string z.body.high) (.slice z.ab z.body.items.length z.cb))
            have HS7 := hide (HS6.out.var (.cells #[.int .i64 z.body.lsn, .int .i64 z.body.kind, .int .i64 z.body.level, .int .i64 z.body.right, .string z.body.high, .slice z.ab z.body.items.length z.cb] 45))
            have HOB7 := hide (HOB6.out.kept (onlyA w6 (.cells #[.int .i64 z.body.lsn, .int .i64 z.body.kind, .int .i64 z.body.level, .int .i64 z.body.right, .string z.body.high, .slice z.ab z.body.items.length z.cb] 45)) (fun e => e))
            have HBN : Hid (lb ≠ w6.heap.size ∧ ib ≠ w6.heap.size ∧ xb ≠ w6.heap.size) := by
              have a1 := HS6.out.la.lt
              have a2 := HS6.out.is.lt
              have a3 := HOB6.out.lt
              exact ⟨by omega, by omega, by omega⟩
            obtain ⟨bb, hbb⟩ : ∃ b, w6.heap.size = b := ⟨_, rfl⟩
            obtain ⟨W7, hW7⟩ : ∃ W, W = w6.alloc (.cells #[.int .i64 z.body.lsn, .int .i64 z.body.kind, .int .i64 z.body.level, .int .i64 z.body.right, .string z.body.high, .slice z.ab z.body.items.length z.cb] 45) := ⟨_, rfl⟩
            rw [hbb] at HPB0 HS7 HBN ⊢
            rw [← hW7] at HPB0 HS7 HOB7 ⊢
            clear hW7 hbb
            obtain ⟨q0, q1, q2, q3, q4, q5, f0, f1, f2, f3, f4, f5, fq⟩ := HPB0.out
            go_upto_region 20 with fail
            clear q0 q1 q2 q3 q4 q5 f0 f1 f2 f3 f4 f5 fq
            have HPB := hide (HPB0.out.lsn (.int .i64 (t : Int)))
            have HS8 := hide (HS7.out.own (Only.setCell (S := fun k => k = bb) W7 ⟨bb, 0, none⟩ (.int .i64 (t : Int)) rfl) (.inr rfl) HBN.out.1 HBN.out.2.1)
            have HOB8 := hide (HOB7.out.kept (Only.setCell (S := fun k => k = bb) W7 ⟨bb, 0, none⟩ (.int .i64 (t : Int)) rfl) HBN.out.2.2)
            obtain ⟨W8, hW8⟩ : ∃ W, W = W7.setCell ⟨bb, 0, none⟩ (.int .i64 (t : Int)) := ⟨_, rfl⟩
            rw [← hW8] at HPB HS8 HOB8 ⊢
            have htl := (ntl_le t).1
            obtain ⟨bd, hbd⟩ : ∃ bd, bd = z.body.at_ (t : Int) := ⟨_, rfl⟩
            have HSA := hide (ow_set HS8.out.ow n HN12.out z.pick bd z.B z.ab z.cb (by rw [hbd]; exact HIN.out.strs) (by rw [hbd]; exact HIN.out.high) (by rw [hbd]; show (t : Int) < _; omega))
            have HSTR : Hid (Strs w z.B z.ab bd.items) := by rw [hbd]; exact HIN.out.strs
            obtain ⟨d0, hd0⟩ : bd.lsn = (t : Int) ∧ True := by rw [hbd]; exact ⟨rfl, trivial⟩
            have d1 : bd.kind = z.body.kind := by rw [hbd]; rfl
            have d2 : bd.level = z.body.level := by rw [hbd]; rfl
            have d3 : bd.right = z.body.right := by rw [hbd]; rfl
            have d4 : bd.high = z.body.high := by rw [hbd]; rfl
            have d5 : bd.items.length = z.body.items.length := by rw [hbd]; rfl
            have HPBD : Hid (Pag W8 bb (.int .i64 bd.lsn) (.int .i64 bd.kind) (.int .i64 bd.level) (.int .i64 bd.right) (.string bd.high) (.slice z.ab bd.items.length z.cb)) := by
              unfold Hid
              rw [hbd]
              exact HPB.out
            clear hbd d0 hd0 d1 d2 d3 d4 d5 HPB HPB0 HS7 HOB7 hW8 HS6 HOB6
            obtain ⟨sc, hsc⟩ : ∃ sc, bd.setC = sc := ⟨_, rfl⟩
            rw [hsc] at HSA
            have HSC := hide hsc
            clear hsc
            obtain ⟨q0, q1, q2, q3, q4, q5, f0, f1, f2, f3, f4, f5, fq⟩ := HPBD.out
            have b2 := HOB8.out.c2
            go_wp2_with fail
            refine HSA.out.mono ?_
            rintro e w9 ⟨rfl, hn9⟩
            obtain ⟨fl9, K9, hs9, ho9⟩ := kp_on HS8.out hn9
            have HS9 := hide hs9
            have HOB9 := hide (HOB8.out.kept ho9 (fun e => e.1 (.inl (.inr rfl))))
            have HPB9 := hide (HPBD.out.kept ho9 (fun e => e.1 (.inr rfl)))
            have HT9 := hide (show ntl t ≤ 1 + 33 * (j + 1) by have := (ntl_le t).2; omega)
            clear hn9 hs9 ho9 HS8 HOB8 HPBD HSA q0 q1 q2 q3 q4 q5 f0 f1 f2 f3 f4 f5 fq b2 htl
            by_cases h0 : sc = 0
            · subst h0
              obtain ⟨q0, q1, q2, q3, q4, q5, _⟩ := HPB9.out
              have HST := hide (HS9.out.put n HN12.out bd z.B z.ab z.cb HSTR.out (by unfold setP; rw [if_pos HSC.out]))
              have hn12 := HN12.out
              obtain ⟨Bz, az, cz, hrz, _⟩ := HS9.out.la.at_ n hn12
              have l0 : w9.cell? ⟨lb, n * 6, none⟩ = _ := hrz 0 _ rfl
              have l1 := hrz 1 _ rfl
              have l2 := hrz 2 _ rfl
              have l3 := hrz 3 _ rfl
              have l4 := hrz 4 _ rfl
              have l5 := hrz 5 _ rfl
              have i0 := HS9.out.is.at_ n hn12
              have fi := HS9.out.is.fz n
              have fl0 := HS9.out.la.fz (n * 6)
              have fl1 := HS9.out.la.fz (n * 6 + 1)
              have fl2 := HS9.out.la.fz (n * 6 + 2)
              have fl3 := HS9.out.la.fz (n * 6 + 3)
              have fl4 := HS9.out.la.fz (n * 6 + 4)
              have fl5 := HS9.out.la.fz (n * 6 + 5)
              have hne := HS9.out.ne
              clear hrz
              go_wp2_with fail
              go_meet
              exact ⟨ntl t, fl9, _, K9, HT9.out, HST.out.1.down (fun k e => .inl e) (.inl (.inl rfl)) (.inl (.inr rfl)), HOB9.out.kept HST.out.2 (fun e => by rcases e with e | e; exact HXN.out.1 e.symm; exact HXN.out.2 e.symm)⟩
            · have a2 : (sc == 0) = false := by simp [h0]
              go_wp2_with fail
              go_meet
              refine ⟨ntl t, fl9, C, K9, HT9.out, ?_, HOB9⟩
              have hs := HS9.out
              unfold setP at hs
              rw [if_neg (by rw [HSC.out]; exact h0)] at hs
              exact hs.down (fun k e => .inl e) (.inl (.inl rfl)) (.inl (.inr rfl))
          · have a1 : (z.ask == 1) = false := by simp [h1]
            clear h1
            by_cases h2 : z.ask = 2
            · have a2 : (z.ask == 2) = true := by simp [h2]
              clear h2
              go_wp2_with fail
              refine (ow_write HS1.out.ow n HN12.out).mono ?_
              rintro e w6 ⟨rfl, hn6⟩
              obtain ⟨fl6, K6, hs6, ho6⟩ := kp_on HS1.out hn6
              have HS6 := hide hs6
              have HOB6 := hide (HOB0.out.kept ho6 (fun e => e.1 (.inr rfl)))
              clear hn6 hs6 ho6
              go_wp2_with fail
              go_meet
              exact ⟨t, fl6, C, K6, by omega, HS6, HOB6⟩
            · have a2 : (z.ask == 2) = false := by simp [h2]
              clear h2
              by_cases h3 : z.ask = 3
              · have a3 : (z.ask == 3) = true := by simp [h3]
                clear h3
                go_wp2_with fail
                refine (ow_sync HS1.out.ow).mono ?_
                rintro e w6 ⟨rfl, hn6⟩
                obtain ⟨fl6, K6, hs6, ho6⟩ := kp_on HS1.out hn6
                have HS6 := hide hs6
                have HOB6 := hide (HOB0.out.kept ho6 (fun e => e.1 (.inr rfl)))
                clear hn6 hs6 ho6
                go_wp2_with fail
                refine (ow_synced HS6.out.ow).mono ?_
                rintro e w7 ⟨rfl, hn7⟩
                obtain ⟨fl7, K7, hs7, ho7⟩ := kp_on HS6.out hn7
                have HS7 := hide hs7
                have HOB7 := hide (HOB6.out.kept ho7 (fun e => e.1 (.inr rfl)))
                clear hn7 hs7 ho7
                go_wp2_with fail
                go_meet
                exact ⟨t, fl7, C, K7, by omega, HS7, HOB7⟩
              · have a3 : (z.ask == 3) = false := by simp [h3]
                clear h3
                go_wp2_with fail
                go_meet
                exact ⟨t, fl, C, K, by omega, HS1, HOB0⟩
        case rest =>
          obtain ⟨t2, fl2, C2, K2, ht2, HS2, HOB2⟩ := hcut
          clear HS1 HOB0
          obtain ⟨pg, hpg⟩ : ∃ pg, fetP (C2 n) = pg := ⟨_, rfl⟩
          obtain ⟨fc, hfc⟩ : ∃ fc, fetC (C2 n) = fc := ⟨_, rfl⟩
          obtain ⟨sm, hsm⟩ : ∃ sm, (C2 n).isSome = sm := ⟨_, rfl⟩
          have HG := hide (And.intro hpg hfc)
          have HFC : Hid (sm = true ∧ fc = 0 ∨ sm = false ∧ fc = 60) := by
            rw [← hsm, ← hfc]
            unfold fetC
            cases (C2 n).isSome
            · exact .inr ⟨rfl, rfl⟩
            · exact .inl ⟨rfl, rfl⟩
          have HSM0 := hide hsm
          clear hpg hfc hsm
          have x2 := HOB2.out.c2
          go_wp2_with fail
          clear x2
          refine (ow_fetch HS2.out.ow n HN12.out _ pg fc HG.out.1 HG.out.2).mono ?_
          rintro e w5 ⟨Bq, aq, cq, rfl, hS5, hn5⟩
          obtain ⟨fl5, K5, hs5, ho5⟩ := kp_on HS2.out hn5
          have HS5 := hide hs5
          have HT5 := hide hS5
          clear hS5 hn5 hs5 ho5 HS2 HOB2
          go_upto_region 30 with fail
          have HPS := hide (Pag.new w5 (.int .i64 pg.lsn) (.int .i64 pg.kind) (.int .i64 pg.level) (.int .i64 pg.right) (.string pg.high) (.slice aq pg.items.length cq))
          have hoa := onlyA w5 (.cells #[.int .i64 pg.lsn, .int .i64 pg.kind, .int .i64 pg.level, .int .i64 pg.right, .string pg.high, .slice aq pg.items.length cq] 45)
          obtain ⟨sb, hsb⟩ : ∃ b, w5.heap.size = b := ⟨_, rfl⟩
          obtain ⟨W6, hW6⟩ : ∃ W, W = w5.alloc (.cells #[.int .i64 pg.lsn, .int .i64 pg.kind, .int .i64 pg.level, .int .i64 pg.right, .string pg.high, .slice aq pg.items.length cq] 45) := ⟨_, rfl⟩
          rw [hsb] at HPS ⊢
          rw [← hW6] at HPS hoa ⊢
          have HS6 := hide (HS5.out.more hoa)
          have HT6 := hide (HT5.out.more hoa)
          clear hsb hW6 hoa HS5 HT5
          have hnn : (n : Int) < 12 := by have := HN12.out; omega
          have HI6 : Hid (∀ U, Only (fun _ => False) W6 U → U.cell? ⟨ib, n, none⟩ = some (.bool sm)) := fun U hU => by rw [← HSM0.out]; exact (HS6.out.more hU).is.at_ n HN12.out
          obtain ⟨Bl, al, cl, hrl, hsl⟩ := HS6.out.la.at_ n HN12.out
          rw [HG.out.1] at hrl hsl
          have HRL := hide (fun (U : World) (hU : Only (fun _ => False) W6 U) => range_go hrl hU (fun e => e))
          have HSL := hide (hsl.more HS6.out.ow.only)
          clear hrl hsl HSM0
          go_cut [157] (fun y wc => y = .bool false ∧ Hid (Only (fun _ => False) W6 wc))
          case first =>
            rcases HFC.out with ⟨e1, e2⟩ | ⟨e1, e2⟩
            · subst e1 e2
              refine wp_region_noPanic ?_
              refine wp_region_held_drew (S := fun U => Only (fun _ => False) W6 U) (by kernel_rfl) (Only.drew _ _) (fun hHeld => ?_)
              refine wpAnyH_take (i := 0) (oi := { dst := some 136, op := Op.move (Operand.tmp 12), type := 64, pos := "law.go:169", after := #[], guard := none }) (v := .slice (some ⟨ib, 0, none⟩) 12 12) rfl (by kernel_rfl) (by kernel_rfl) (by kernel_rfl) (fun _ _ _ h => h) (Or.inl ⟨by rfl, fun w' hSw => by clear hSw; go_simp⟩) (by assumption) ?_
              simp only [Act.put, List.setIfInBounds_toArray, List.set_cons_zero, List.set_cons_succ]
              refine wpAnyH_take (i := 1) (oi := { dst := some 137, op := Op.move (Operand.tmp 15), type := 3, pos := "law.go:169", after := #[], guard := none }) (v := .int .i64 (n : Int)) rfl (by kernel_rfl) (by kernel_rfl) (by kernel_rfl) (fun _ _ _ h => h) (Or.inl ⟨by rfl, fun w' hSw => by clear hSw; go_simp⟩) (by assumption) ?_
              simp only [Act.put, List.setIfInBounds_toArray, List.set_cons_zero, List.set_cons_succ]
              refine wpAnyH_take (i := 4) (oi := { dst := some 140, op := Op.move (Operand.tmp 20), type := 24, pos := "law.go:169", after := #[], guard := none }) (v := .int .i64 0) rfl (by kernel_rfl) (by kernel_rfl) (by kernel_rfl) (fun _ _ _ h => h) (Or.inl ⟨by rfl, fun w' hSw => by clear hSw; go_simp⟩) (by assumption) ?_
              simp only [Act.put, List.setIfInBounds_toArray, List.set_cons_zero, List.set_cons_succ]
              refine wpAnyH_take (i := 2) (oi := { dst := some 138, op := Op.indexAddr 64 (Operand.tmp 136) (Operand.tmp 137), type := 0, pos := "law.go:169", after := #[{ on := 0, ground := Ground.data }, { on := 1, ground := Ground.data }], guard := none }) (v := .pointer (some ⟨ib, n, none⟩)) rfl (by kernel_rfl) (by kernel_rfl) (by kernel_rfl) (fun _ _ _ h => h) (Or.inl ⟨by rfl, fun w' hSw => by clear hSw; go_simp⟩) (by assumption) ?_
              simp only [Act.put, List.setIfInBounds_toArray, List.set_cons_zero, List.set_cons_succ]
              refine wpAnyH_take (i := 5) (oi := { dst := some 141, op := Op.binOp BinOp.eql 24 (Operand.tmp 140) (Operand.const (Value.int IntKind.i64 0)) 24, type := 4, pos := "law.go:169", after := #[{ on := 4, ground := Ground.data }], guard := none }) (v := .bool true) rfl (by kernel_rfl) (by kernel_rfl) (by kernel_rfl) (fun _ _ _ h => h) (Or.inl ⟨by rfl, fun w' hSw => by clear hSw; go_simp⟩) (by assumption) ?_
              simp only [Act.put, List.setIfInBounds_toArray, List.set_cons_zero, List.set_cons_succ]
              refine wpAnyH_take (i := 3) (oi := { dst := some 139, op := Op.load 4 (Operand.tmp 138), type := 4, pos := "law.go:169", after := #[{ on := 2, ground := Ground.data }], guard := none }) (v := .bool true) rfl (by kernel_rfl) (by kernel_rfl) (by kernel_rfl) (fun _ _ _ h => h) (yieldsIf_load_cell (by rfl) 4 _ rfl _ rfl (fun W hW => HI6.out W hW) (fun W hc => ld_bool hc)) (by assumption) ?_
              simp only [Act.put, List.setIfInBounds_toArray, List.set_cons_zero, List.set_cons_succ]
              refine wpAnyH_take (i := 6) (oi := { dst := some 142, op := Op.binOp BinOp.neq 4 (Operand.tmp 139) (Operand.tmp 141) 4, type := 4, pos := "law.go:169", after := #[{ on := 3, ground := Ground.data }, { on := 5, ground := Ground.data }], guard := none }) (v := .bool false) rfl (by kernel_rfl) (by kernel_rfl) (by kernel_rfl) (fun _ _ _ h => h) (Or.inl ⟨by rfl, fun w' hSw => by clear hSw; go_simp⟩) (by assumption) ?_
              simp only [Act.put, List.setIfInBounds_toArray, List.set_cons_zero, List.set_cons_succ]
              refine wpAnyH_take (i := 7) (oi := { dst := some 143, op := Op.move (Operand.tmp 142), type := 4, pos := "law.go:169", after := #[{ on := 6, ground := Ground.data }], guard := none }) (v := .bool false) rfl (by kernel_rfl) (by kernel_rfl) (by kernel_rfl) (fun _ _ _ h => h) (Or.inl ⟨by rfl, fun w' hSw => by clear hSw; go_simp⟩) (by assumption) ?_
              simp only [Act.put, List.setIfInBounds_toArray, List.set_cons_zero, List.set_cons_succ]
              refine wpAnyH_take (i := 8) (oi := { dst := some 144, op := Op.move (Operand.tmp 12), type := 64, pos := "law.go:169", after := #[{ on := 7, ground := Ground.guard }], guard := some (7, false) }) (v := .slice (some ⟨ib, 0, none⟩) 12 12) rfl (by kernel_rfl) (by kernel_rfl) (by kernel_rfl) (fun _ _ _ h => h) (Or.inl ⟨by rfl, fun w' hSw => by clear hSw; go_simp⟩) (by assumption) ?_
              simp only [Act.put, List.setIfInBounds_toArray, List.set_cons_zero, List.set_cons_succ]
              refine wpAnyH_take (i := 9) (oi := { dst := some 145, op := Op.move (Operand.tmp 15), type := 3, pos := "law.go:169", after := #[{ on := 7, ground := Ground.guard }], guard := some (7, false) }) (v := .int .i64 (n : Int)) rfl (by kernel_rfl) (by kernel_rfl) (by kernel_rfl) (fun _ _ _ h => h) (Or.inl ⟨by rfl, fun w' hSw => by clear hSw; go_simp⟩) (by assumption) ?_
              simp only [Act.put, List.setIfInBounds_toArray, List.set_cons_zero, List.set_cons_succ]
              refine wpAnyH_take (i := 10) (oi := { dst := some 146, op := Op.indexAddr 64 (Operand.tmp 144) (Operand.tmp 145), type := 0, pos := "law.go:169", after := #[{ on := 8, ground := Ground.data }, { on := 9, ground := Ground.data }, { on := 7, ground := Ground.guard }], guard := some (7, false) }) (v := .pointer (some ⟨ib, n, none⟩)) rfl (by kernel_rfl) (by kernel_rfl) (by kernel_rfl) (fun _ _ _ h => h) (Or.inl ⟨by rfl, fun w' hSw => by clear hSw; go_simp⟩) (by assumption) ?_
              simp only [Act.put, List.setIfInBounds_toArray, List.set_cons_zero, List.set_cons_succ]
              refine wpAnyH_take (i := 11) (oi := { dst := some 147, op := Op.load 4 (Operand.tmp 146), type := 4, pos := "law.go:169", after := #[{ on := 10, ground := Ground.data }, { on := 7, ground := Ground.guard }], guard := some (7, false) }) (v := .bool true) rfl (by kernel_rfl) (by kernel_rfl) (by kernel_rfl) (fun _ _ _ h => h) (yieldsIf_load_cell (by rfl) 4 _ rfl _ rfl (fun W hW => HI6.out W hW) (fun W hc => ld_bool hc)) (by assumption) ?_
              simp only [Act.put, List.setIfInBounds_toArray, List.set_cons_zero, List.set_cons_succ]
              refine wpAnyH_take (i := 12) (oi := { dst := some 148, op := Op.move (Operand.tmp 147), type := 4, pos := "law.go:169", after := #[{ on := 11, ground := Ground.data }, { on := 7, ground := Ground.chain }, { on := 7, ground := Ground.guard }], guard := some (7, false) }) (v := .bool true) rfl (by kernel_rfl) (by kernel_rfl) (by kernel_rfl) (fun _ _ _ h => h) (Or.inl ⟨by rfl, fun w' hSw => by clear hSw; go_simp⟩) (by assumption) ?_
              simp only [Act.put, List.setIfInBounds_toArray, List.set_cons_zero, List.set_cons_succ]
              refine wpAnyH_take (i := 13) (oi := { dst := some 149, op := Op.load 45 (Operand.tmp 19), type := 45, pos := "law.go:169", after := #[{ on := 12, ground := Ground.guard }], guard := some (12, true) }) (v := .agg #[.int .i64 pg.lsn, .int .i64 pg.kind, .int .i64 pg.level, .int .i64 pg.right, .string pg.high, .slice aq pg.items.length cq]) rfl (by kernel_rfl) (by kernel_rfl) (by kernel_rfl) (fun _ _ _ h => h) (yieldsIf_load_pg (by rfl) _ rfl _ rfl (fun W hW => HPS.out.more hW)) (by assumption) ?_
              simp only [Act.put, List.setIfInBounds_toArray, List.set_cons_zero, List.set_cons_succ]
              refine wpAnyH_take (i := 14) (oi := { dst := some 150, op := Op.move (Operand.tmp 11), type := 76, pos := "law.go:169", after := #[{ on := 12, ground := Ground.guard }], guard := some (12, true) }) (v := .slice (some ⟨lb, 0, none⟩) 12 12) rfl (by kernel_rfl) (by kernel_rfl) (by kernel_rfl) (fun _ _ _ h => h) (Or.inl ⟨by rfl, fun w' hSw => by clear hSw; go_simp⟩) (by assumption) ?_
              simp only [Act.put, List.setIfInBounds_toArray, List.set_cons_zero, List.set_cons_succ]
              refine wpAnyH_take (i := 15) (oi := { dst := some 151, op := Op.move (Operand.tmp 15), type := 3, pos := "law.go:169", after := #[{ on := 12, ground := Ground.guard }], guard := some (12, true) }) (v := .int .i64 (n : Int)) rfl (by kernel_rfl) (by kernel_rfl) (by kernel_rfl) (fun _ _ _ h => h) (Or.inl ⟨by rfl, fun w' hSw => by clear hSw; go_simp⟩) (by assumption) ?_
              simp only [Act.put, List.setIfInBounds_toArray, List.set_cons_zero, List.set_cons_succ]
              refine wpAnyH_take (i := 16) (oi := { dst := some 152, op := Op.indexAddr 76 (Operand.tmp 150) (Operand.tmp 151), type := 0, pos := "law.go:169", after := #[{ on := 14, ground := Ground.data }, { on := 15, ground := Ground.data }, { on := 12, ground := Ground.guard }], guard := some (12, true) }) (v := .pointer (some ⟨lb, n * 6, none⟩)) rfl (by kernel_rfl) (by kernel_rfl) (by kernel_rfl) (fun _ _ _ h => h) (Or.inl ⟨by rfl, fun w' hSw => by clear hSw; go_simp⟩) (by assumption) ?_
              simp only [Act.put, List.setIfInBounds_toArray, List.set_cons_zero, List.set_cons_succ]
              refine wpAnyH_take (i := 17) (oi := { dst := some 153, op := Op.load 45 (Operand.tmp 152), type := 45, pos := "law.go:169", after := #[{ on := 16, ground := Ground.data }, { on := 12, ground := Ground.guard }], guard := some (12, true) }) (v := .agg #[.int .i64 pg.lsn, .int .i64 pg.kind, .int .i64 pg.level, .int .i64 pg.right, .string pg.high, .slice al pg.items.length cl]) rfl (by kernel_rfl) (by kernel_rfl) (by kernel_rfl) (fun _ _ _ h => h) (yieldsIf_load_pgo (by rfl) _ rfl _ _ rfl (fun W hW => HRL.out W hW)) (by assumption) ?_
              simp only [Act.put, List.setIfInBounds_toArray, List.set_cons_zero, List.set_cons_succ]
              refine wpAnyH_ready (rs := [18]) (by kernel_rfl) (by simp) ?_
              refine AllReadyH.cons (o := { dst := some 154, op := Op.call { callee := Callee.value (Operand.func 17), args := #[Operand.tmp 149, Operand.tmp 153], argTypes := #[45, 45] }, type := 4, pos := "law.go:169", after := #[{ on := 13, ground := Ground.data }, { on := 17, ground := Ground.data }, { on := 12, ground := Ground.chain }, { on := 12, ground := Ground.guard }], guard := some (12, true) }) rfl (fun K hK => ?_) (AllReadyH.nil)
              go_simp
              have HSM := hide (ysame_any _ pg.lsn pg.kind pg.level pg.right pg.lsn pg.kind pg.level pg.right pg.high pg.high Bq Bl cq cl aq al pg.items pg.items (HT6.out.more (Only.drew _ _)) (HSL.out.more (Only.drew _ _)))
              rw [show decide (pg.lsn = pg.lsn ∧ pg.kind = pg.kind ∧ pg.level = pg.level ∧ pg.right = pg.right ∧ pg.high = pg.high ∧ pg.items = pg.items) = true by simp] at HSM
              refine HSM.out.mono ?_
              rintro e w7 ⟨rfl, ho7⟩
              have HO7 := hide (o2 (Only.drew _ W6) ho7)
              clear ho7 HSM
              refine hK.out _ _ (HO7.out) (fun hHeld => ?_)
              clear hK K
              try simp only [Act.put, List.setIfInBounds_toArray, List.set_cons_zero, List.set_cons_succ]
              refine wpAnyH_take (i := 19) (oi := { dst := some 155, op := Op.unOp UnOp.not 4 (Operand.tmp 154), type := 4, pos := "law.go:169", after := #[{ on := 18, ground := Ground.data }, { on := 12, ground := Ground.guard }], guard := some (12, true) }) (v := .bool false) rfl (by kernel_rfl) (by kernel_rfl) (by kernel_rfl) (fun _ _ _ h => h) (Or.inl ⟨by rfl, fun w' hSw => by clear hSw; go_simp⟩) (by assumption) ?_
              simp only [Act.put, List.setIfInBounds_toArray, List.set_cons_zero, List.set_cons_succ]
              refine wpAnyH_take (i := 20) (oi := { dst := some 156, op := Op.pick (Operand.tmp 148) (Operand.tmp 155) (Operand.const (Value.bool false)), type := 4, pos := "law.go:169", after := #[{ on := 12, ground := Ground.data }, { on := 19, ground := Ground.data }, { on := 7, ground := Ground.guard }], guard := some (7, false) }) (v := .bool false) rfl (by kernel_rfl) (by kernel_rfl) (by kernel_rfl) (fun _ _ _ h => h) (Or.inl ⟨by rfl, fun w' hSw => by clear hSw; go_simp⟩) (by assumption) ?_
              simp only [Act.put, List.setIfInBounds_toArray, List.set_cons_zero, List.set_cons_succ]
              refine wpAnyH_take (i := 21) (oi := { dst := some 157, op := Op.pick (Operand.tmp 143) (Operand.const (Value.bool true)) (Operand.tmp 156), type := 4, pos := "law.go:169", after := #[{ on := 7, ground := Ground.data }, { on := 20, ground := Ground.data }], guard := none }) (v := .bool false) rfl (by kernel_rfl) (by kernel_rfl) (by kernel_rfl) (fun _ _ _ h => h) (Or.inl ⟨by rfl, fun w' hSw => by clear hSw; go_simp⟩) (by assumption) ?_
              simp only [Act.put, List.setIfInBounds_toArray, List.set_cons_zero, List.set_cons_succ]
              refine wpAnyH_done (by kernel_rfl) ?_ _
              refine NoPanic.normal ?_
              go_wp2_with fail
              go_meet
              exact ⟨rfl, HO7⟩
            · subst e1 e2
              refine wp_region_noPanic ?_
              refine wp_region_held_drew (S := fun U => Only (fun _ => False) W6 U) (by kernel_rfl) (Only.drew _ _) (fun hHeld => ?_)
              refine wpAnyH_take (i := 0) (oi := { dst := some 136, op := Op.move (Operand.tmp 12), type := 64, pos := "law.go:169", after := #[], guard := none }) (v := .slice (some ⟨ib, 0, none⟩) 12 12) rfl (by kernel_rfl) (by kernel_rfl) (by kernel_rfl) (fun _ _ _ h => h) (Or.inl ⟨by rfl, fun w' hSw => by clear hSw; go_simp⟩) (by assumption) ?_
              simp only [Act.put, List.setIfInBounds_toArray, List.set_cons_zero, List.set_cons_succ]
              refine wpAnyH_take (i := 1) (oi := { dst := some 137, op := Op.move (Operand.tmp 15), type := 3, pos := "law.go:169", after := #[], guard := none }) (v := .int .i64 (n : Int)) rfl (by kernel_rfl) (by kernel_rfl) (by kernel_rfl) (fun _ _ _ h => h) (Or.inl ⟨by rfl, fun w' hSw => by clear hSw; go_simp⟩) (by assumption) ?_
              simp only [Act.put, List.setIfInBounds_toArray, List.set_cons_zero, List.set_cons_succ]
              refine wpAnyH_take (i := 4) (oi := { dst := some 140, op := Op.move (Operand.tmp 20), type := 24, pos := "law.go:169", after := #[], guard := none }) (v := .int .i64 60) rfl (by kernel_rfl) (by kernel_rfl) (by kernel_rfl) (fun _ _ _ h => h) (Or.inl ⟨by rfl, fun w' hSw => by clear hSw; go_simp⟩) (by assumption) ?_
              simp only [Act.put, List.setIfInBounds_toArray, List.set_cons_zero, List.set_cons_succ]
              refine wpAnyH_take (i := 2) (oi := { dst := some 138, op := Op.indexAddr 64 (Operand.tmp 136) (Operand.tmp 137), type := 0, pos := "law.go:169", after := #[{ on := 0, ground := Ground.data }, { on := 1, ground := Ground.data }], guard := none }) (v := .pointer (some ⟨ib, n, none⟩)) rfl (by kernel_rfl) (by kernel_rfl) (by kernel_rfl) (fun _ _ _ h => h) (Or.inl ⟨by rfl, fun w' hSw => by clear hSw; go_simp⟩) (by assumption) ?_
              simp only [Act.put, List.setIfInBounds_toArray, List.set_cons_zero, List.set_cons_succ]
              refine wpAnyH_take (i := 5) (oi := { dst := some 141, op := Op.binOp BinOp.eql 24 (Operand.tmp 140) (Operand.const (Value.int IntKind.i64 0)) 24, type := 4, pos := "law.go:169", after := #[{ on := 4, ground := Ground.data }], guard := none }) (v := .bool false) rfl (by kernel_rfl) (by kernel_rfl) (by kernel_rfl) (fun _ _ _ h => h) (Or.inl ⟨by rfl, fun w' hSw => by clear hSw; go_simp⟩) (by assumption) ?_
              simp only [Act.put, List.setIfInBounds_toArray, List.set_cons_zero, List.set_cons_succ]
              refine wpAnyH_take (i := 3) (oi := { dst := some 139, op := Op.load 4 (Operand.tmp 138), type := 4, pos := "law.go:169", after := #[{ on := 2, ground := Ground.data }], guard := none }) (v := .bool false) rfl (by kernel_rfl) (by kernel_rfl) (by kernel_rfl) (fun _ _ _ h => h) (yieldsIf_load_cell (by rfl) 4 _ rfl _ rfl (fun W hW => HI6.out W hW) (fun W hc => ld_bool hc)) (by assumption) ?_
              simp only [Act.put, List.setIfInBounds_toArray, List.set_cons_zero, List.set_cons_succ]
              refine wpAnyH_take (i := 6) (oi := { dst := some 142, op := Op.binOp BinOp.neq 4 (Operand.tmp 139) (Operand.tmp 141) 4, type := 4, pos := "law.go:169", after := #[{ on := 3, ground := Ground.data }, { on := 5, ground := Ground.data }], guard := none }) (v := .bool false) rfl (by kernel_rfl) (by kernel_rfl) (by kernel_rfl) (fun _ _ _ h => h) (Or.inl ⟨by rfl, fun w' hSw => by clear hSw; go_simp⟩) (by assumption) ?_
              simp only [Act.put, List.setIfInBounds_toArray, List.set_cons_zero, List.set_cons_succ]
              refine wpAnyH_take (i := 7) (oi := { dst := some 143, op := Op.move (Operand.tmp 142), type := 4, pos := "law.go:169", after := #[{ on := 6, ground := Ground.data }], guard := none }) (v := .bool false) rfl (by kernel_rfl) (by kernel_rfl) (by kernel_rfl) (fun _ _ _ h => h) (Or.inl ⟨by rfl, fun w' hSw => by clear hSw; go_simp⟩) (by assumption) ?_
              simp only [Act.put, List.setIfInBounds_toArray, List.set_cons_zero, List.set_cons_succ]
              refine wpAnyH_take (i := 8) (oi := { dst := some 144, op := Op.move (Operand.tmp 12), type := 64, pos := "law.go:169", after := #[{ on := 7, ground := Ground.guard }], guard := some (7, false) }) (v := .slice (some ⟨ib, 0, none⟩) 12 12) rfl (by kernel_rfl) (by kernel_rfl) (by kernel_rfl) (fun _ _ _ h => h) (Or.inl ⟨by rfl, fun w' hSw => by clear hSw; go_simp⟩) (by assumption) ?_
              simp only [Act.put, List.setIfInBounds_toArray, List.set_cons_zero, List.set_cons_succ]
              refine wpAnyH_take (i := 9) (oi := { dst := some 145, op := Op.move (Operand.tmp 15), type := 3, pos := "law.go:169", after := #[{ on := 7, ground := Ground.guard }], guard := some (7, false) }) (v := .int .i64 (n : Int)) rfl (by kernel_rfl) (by kernel_rfl) (by kernel_rfl) (fun _ _ _ h => h) (Or.inl ⟨by rfl, fun w' hSw => by clear hSw; go_simp⟩) (by assumption) ?_
              simp only [Act.put, List.setIfInBounds_toArray, List.set_cons_zero, List.set_cons_succ]
              refine wpAnyH_take (i := 10) (oi := { dst := some 146, op := Op.indexAddr 64 (Operand.tmp 144) (Operand.tmp 145), type := 0, pos := "law.go:169", after := #[{ on := 8, ground := Ground.data }, { on := 9, ground := Ground.data }, { on := 7, ground := Ground.guard }], guard := some (7, false) }) (v := .pointer (some ⟨ib, n, none⟩)) rfl (by kernel_rfl) (by kernel_rfl) (by kernel_rfl) (fun _ _ _ h => h) (Or.inl ⟨by rfl, fun w' hSw => by clear hSw; go_simp⟩) (by assumption) ?_
              simp only [Act.put, List.setIfInBounds_toArray, List.set_cons_zero, List.set_cons_succ]
              refine wpAnyH_take (i := 11) (oi := { dst := some 147, op := Op.load 4 (Operand.tmp 146), type := 4, pos := "law.go:169", after := #[{ on := 10, ground := Ground.data }, { on := 7, ground := Ground.guard }], guard := some (7, false) }) (v := .bool false) rfl (by kernel_rfl) (by kernel_rfl) (by kernel_rfl) (fun _ _ _ h => h) (yieldsIf_load_cell (by rfl) 4 _ rfl _ rfl (fun W hW => HI6.out W hW) (fun W hc => ld_bool hc)) (by assumption) ?_
              simp only [Act.put, List.setIfInBounds_toArray, List.set_cons_zero, List.set_cons_succ]
              refine wpAnyH_take (i := 12) (oi := { dst := some 148, op := Op.move (Operand.tmp 147), type := 4, pos := "law.go:169", after := #[{ on := 11, ground := Ground.data }, { on := 7, ground := Ground.chain }, { on := 7, ground := Ground.guard }], guard := some (7, false) }) (v := .bool false) rfl (by kernel_rfl) (by kernel_rfl) (by kernel_rfl) (fun _ _ _ h => h) (Or.inl ⟨by rfl, fun w' hSw => by clear hSw; go_simp⟩) (by assumption) ?_
              simp only [Act.put, List.setIfInBounds_toArray, List.set_cons_zero, List.set_cons_succ]
              refine wpAnyH_take (i := 13) (oi := { dst := some 149, op := Op.load 45 (Operand.tmp 19), type := 45, pos := "law.go:169", after := #[{ on := 12, ground := Ground.guard }], guard := some (12, true) }) (v := undef) rfl (by kernel_rfl) (by kernel_rfl) (by kernel_rfl) (fun _ _ _ h => h) (Or.inr ⟨by rfl, rfl⟩) (by assumption) ?_
              simp only [Act.put, List.setIfInBounds_toArray, List.set_cons_zero, List.set_cons_succ]
              refine wpAnyH_take (i := 14) (oi := { dst := some 150, op := Op.move (Operand.tmp 11), type := 76, pos := "law.go:169", after := #[{ on := 12, ground := Ground.guard }], guard := some (12, true) }) (v := undef) rfl (by kernel_rfl) (by kernel_rfl) (by kernel_rfl) (fun _ _ _ h => h) (Or.inr ⟨by rfl, rfl⟩) (by assumption) ?_
              simp only [Act.put, List.setIfInBounds_toArray, List.set_cons_zero, List.set_cons_succ]
              refine wpAnyH_take (i := 15) (oi := { dst := some 151, op := Op.move (Operand.tmp 15), type := 3, pos := "law.go:169", after := #[{ on := 12, ground := Ground.guard }], guard := some (12, true) }) (v := undef) rfl (by kernel_rfl) (by kernel_rfl) (by kernel_rfl) (fun _ _ _ h => h) (Or.inr ⟨by rfl, rfl⟩) (by assumption) ?_
              simp only [Act.put, List.setIfInBounds_toArray, List.set_cons_zero, List.set_cons_succ]
              refine wpAnyH_take (i := 16) (oi := { dst := some 152, op := Op.indexAddr 76 (Operand.tmp 150) (Operand.tmp 151), type := 0, pos := "law.go:169", after := #[{ on := 14, ground := Ground.data }, { on := 15, ground := Ground.data }, { on := 12, ground := Ground.guard }], guard := some (12, true) }) (v := undef) rfl (by kernel_rfl) (by kernel_rfl) (by kernel_rfl) (fun _ _ _ h => h) (Or.inr ⟨by rfl, rfl⟩) (by assumption) ?_
              simp only [Act.put, List.setIfInBounds_toArray, List.set_cons_zero, List.set_cons_succ]
              refine wpAnyH_take (i := 17) (oi := { dst := some 153, op := Op.load 45 (Operand.tmp 152), type := 45, pos := "law.go:169", after := #[{ on := 16, ground := Ground.data }, { on := 12, ground := Ground.guard }], guard := some (12, true) }) (v := undef) rfl (by kernel_rfl) (by kernel_rfl) (by kernel_rfl) (fun _ _ _ h => h) (Or.inr ⟨by rfl, rfl⟩) (by assumption) ?_
              simp only [Act.put, List.setIfInBounds_toArray, List.set_cons_zero, List.set_cons_succ]
              refine wpAnyH_take (i := 18) (oi := { dst := some 154, op := Op.call { callee := Callee.value (Operand.func 17), args := #[Operand.tmp 149, Operand.tmp 153], argTypes := #[45, 45] }, type := 4, pos := "law.go:169", after := #[{ on := 13, ground := Ground.data }, { on := 17, ground := Ground.data }, { on := 12, ground := Ground.chain }, { on := 12, ground := Ground.guard }], guard := some (12, true) }) (v := undef) rfl (by kernel_rfl) (by kernel_rfl) (by kernel_rfl) (fun _ _ _ h => h) (Or.inr ⟨by rfl, rfl⟩) (by assumption) ?_
              simp only [Act.put, List.setIfInBounds_toArray, List.set_cons_zero, List.set_cons_succ]
              refine wpAnyH_take (i := 19) (oi := { dst := some 155, op := Op.unOp UnOp.not 4 (Operand.tmp 154), type := 4, pos := "law.go:169", after := #[{ on := 18, ground := Ground.data }, { on := 12, ground := Ground.guard }], guard := some (12, true) }) (v := undef) rfl (by kernel_rfl) (by kernel_rfl) (by kernel_rfl) (fun _ _ _ h => h) (Or.inr ⟨by rfl, rfl⟩) (by assumption) ?_
              simp only [Act.put, List.setIfInBounds_toArray, List.set_cons_zero, List.set_cons_succ]
              refine wpAnyH_take (i := 20) (oi := { dst := some 156, op := Op.pick (Operand.tmp 148) (Operand.tmp 155) (Operand.const (Value.bool false)), type := 4, pos := "law.go:169", after := #[{ on := 12, ground := Ground.data }, { on := 19, ground := Ground.data }, { on := 7, ground := Ground.guard }], guard := some (7, false) }) (v := .bool false) rfl (by kernel_rfl) (by kernel_rfl) (by kernel_rfl) (fun _ _ _ h => h) (Or.inl ⟨by rfl, fun w' hSw => by clear hSw; go_simp⟩) (by assumption) ?_
              simp only [Act.put, List.setIfInBounds_toArray, List.set_cons_zero, List.set_cons_succ]
              refine wpAnyH_take (i := 21) (oi := { dst := some 157, op := Op.pick (Operand.tmp 143) (Operand.const (Value.bool true)) (Operand.tmp 156), type := 4, pos := "law.go:169", after := #[{ on := 7, ground := Ground.data }, { on := 20, ground := Ground.data }], guard := none }) (v := .bool false) rfl (by kernel_rfl) (by kernel_rfl) (by kernel_rfl) (fun _ _ _ h => h) (Or.inl ⟨by rfl, fun w' hSw => by clear hSw; go_simp⟩) (by assumption) ?_
              simp only [Act.put, List.setIfInBounds_toArray, List.set_cons_zero, List.set_cons_succ]
              refine wpAnyH_done (by kernel_rfl) ?_ _
              refine NoPanic.normal ?_
              go_wp2_with fail
              go_meet
              exact ⟨rfl, Only.drew _ _⟩
          case rest =>
            obtain ⟨rfl, HO7⟩ := hcut
            have HS7 := hide (HS6.out.more HO7.out)
            clear HO7 HS6 HT6 HPS HI6 HRL HSL HFC HG hnn
            go_wp2_with fail
            go_loopw [21] (fun y wi => ∃ k : Nat, k ≤ 12 ∧ y = .int .i64 (k : Int) ∧ Hid (Kp w wi p d l lb ib (fun k => (k = lb ∨ k = ib) ∨ k = xb) t2 fl5 C2 K5 C2)) (fun y _ => 12 - (intOf y).toNat)
            case atStart => exact ⟨0, by omega, rfl, HS7⟩
            case round =>
              clear HS7
              obtain ⟨k, hk, rfl, HI⟩ := hrel
              by_cases hk12 : k < 12
              · have hki : (k : Int) < 12 := by omega
                go_wp2_with fail
                refine (ow_read HI.out.ow k hk12).mono ?_
                rintro e u1 ⟨Nb, rfl, hdec, ho1⟩
                have HI1 := hide (HI.out.more ho1)
                have HDC := hide (fun (U : World) => pdecode_any U Nb)
                obtain ⟨dp, hdp⟩ : ∃ dp, (kdec (K5 k)).1 = dp := ⟨_, rfl⟩
                obtain ⟨dc, hdc⟩ : ∃ dc, (kdec (K5 k)).2 = dc := ⟨_, rfl⟩
                have HD : Hid (dc = 0 ∧ dp.lsn < (fl5 : Int) ∨ dc = 30) := by
                  rw [← hdp, ← hdc]
                  cases hK : K5 k with
                  | none => exact .inr rfl
                  | some q => exact .inl ⟨rfl, ow_early HI.out.ow k q hK⟩
                rw [hdec, hdp, hdc] at HDC
                clear ho1 hdec hdp hdc HI
                go_wp2_with fail
                refine (HDC.out _).mono ?_
                rintro e u2 ⟨B2, a2, c2, rfl, _, _, ho2, _⟩
                have HI2 := hide (HI1.out.more ho2)
                clear ho2 HI1 HDC
                go_upto_region 37 with fail
                have HPW := hide (Pag.new u2 (.int .i64 dp.lsn) (.int .i64 dp.kind) (.int .i64 dp.level) (.int .i64 dp.right) (.string dp.high) (.slice a2 dp.items.length c2))
                have HI3 := hide (HI2.out.more (onlyA u2 (.cells #[.int .i64 dp.lsn, .int .i64 dp.kind, .int .i64 dp.level, .int .i64 dp.right, .string dp.high, .slice a2 dp.items.length c2] 45)))
                obtain ⟨wb, hwb⟩ : ∃ b, u2.heap.size = b := ⟨_, rfl⟩
                obtain ⟨U3, hU3⟩ : ∃ W, W = u2.alloc (.cells #[.int .i64 dp.lsn, .int .i64 dp.kind, .int .i64 dp.level, .int .i64 dp.right, .string dp.high, .slice a2 dp.items.length c2] 45) := ⟨_, rfl⟩
                rw [hwb] at HPW ⊢
                rw [← hU3] at HPW HI3 ⊢
                clear hwb hU3 HI2
                go_cut [187] (fun y wc => y = .bool false ∧ Hid (Only (fun _ => False) U3 wc))
                case first =>
                  rcases HD.out with ⟨e1, hge⟩ | e1
                  · subst e1
                    refine wp_region_noPanic ?_
                    refine wp_region_held_drew (S := fun U => Only (fun _ => False) U3 U) (by kernel_rfl) (Only.drew _ _) (fun hHeld => ?_)
                    refine wpAnyH_take (i := 0) (oi := { dst := some 175, op := Op.move (Operand.tmp 23), type := 24, pos := "law.go:175", after := #[], guard := none }) (v := .int .i64 0) rfl (by kernel_rfl) (by kernel_rfl) (by kernel_rfl) (fun _ _ _ h => h) (Or.inl ⟨by rfl, fun w' hSw => by clear hSw; go_simp⟩) (by assumption) ?_
                    simp only [Act.put, List.setIfInBounds_toArray, List.set_cons_zero, List.set_cons_succ]
                    refine wpAnyH_take (i := 1) (oi := { dst := some 176, op := Op.binOp BinOp.neq 24 (Operand.tmp 175) (Operand.const (Value.int IntKind.i64 0)) 24, type := 4, pos := "law.go:175", after := #[{ on := 0, ground := Ground.data }], guard := none }) (v := .bool false) rfl (by kernel_rfl) (by kernel_rfl) (by kernel_rfl) (fun _ _ _ h => h) (Or.inl ⟨by rfl, fun w' hSw => by clear hSw; go_simp⟩) (by assumption) ?_
                    simp only [Act.put, List.setIfInBounds_toArray, List.set_cons_zero, List.set_cons_succ]
                    refine wpAnyH_take (i := 2) (oi := { dst := some 177, op := Op.move (Operand.tmp 176), type := 4, pos := "law.go:175", after := #[{ on := 1, ground := Ground.data }], guard := none }) (v := .bool false) rfl (by kernel_rfl) (by kernel_rfl) (by kernel_rfl) (fun _ _ _ h => h) (Or.inl ⟨by rfl, fun w' hSw => by clear hSw; go_simp⟩) (by assumption) ?_
                    simp only [Act.put, List.setIfInBounds_toArray, List.set_cons_zero, List.set_cons_succ]
                    refine wpAnyH_take (i := 3) (oi := { dst := some 178, op := Op.move (Operand.tmp 25), type := 24, pos := "law.go:175", after := #[{ on := 2, ground := Ground.guard }], guard := some (2, false) }) (v := .int .i64 0) rfl (by kernel_rfl) (by kernel_rfl) (by kernel_rfl) (fun _ _ _ h => h) (Or.inl ⟨by rfl, fun w' hSw => by clear hSw; go_simp⟩) (by assumption) ?_
                    simp only [Act.put, List.setIfInBounds_toArray, List.set_cons_zero, List.set_cons_succ]
                    refine wpAnyH_take (i := 4) (oi := { dst := some 179, op := Op.binOp BinOp.eql 24 (Operand.tmp 178) (Operand.const (Value.int IntKind.i64 0)) 24, type := 4, pos := "law.go:175", after := #[{ on := 3, ground := Ground.data }, { on := 2, ground := Ground.guard }], guard := some (2, false) }) (v := .bool true) rfl (by kernel_rfl) (by kernel_rfl) (by kernel_rfl) (fun _ _ _ h => h) (Or.inl ⟨by rfl, fun w' hSw => by clear hSw; go_simp⟩) (by assumption) ?_
                    simp only [Act.put, List.setIfInBounds_toArray, List.set_cons_zero, List.set_cons_succ]
                    refine wpAnyH_take (i := 5) (oi := { dst := some 180, op := Op.move (Operand.tmp 179), type := 4, pos := "law.go:175", after := #[{ on := 4, ground := Ground.data }, { on := 2, ground := Ground.chain }, { on := 2, ground := Ground.guard }], guard := some (2, false) }) (v := .bool true) rfl (by kernel_rfl) (by kernel_rfl) (by kernel_rfl) (fun _ _ _ h => h) (Or.inl ⟨by rfl, fun w' hSw => by clear hSw; go_simp⟩) (by assumption) ?_
                    simp only [Act.put, List.setIfInBounds_toArray, List.set_cons_zero, List.set_cons_succ]
                    refine wpAnyH_take (i := 6) (oi := { dst := some 181, op := Op.fieldAddr 45 (Operand.tmp 24) 0, type := 0, pos := "law.go:175", after := #[{ on := 5, ground := Ground.guard }], guard := some (5, true) }) (v := .pointer (some ⟨wb, 0, none⟩)) rfl (by kernel_rfl) (by kernel_rfl) (by kernel_rfl) (fun _ _ _ h => h) (Or.inl ⟨by rfl, fun w' hSw => by clear hSw; go_simp⟩) (by assumption) ?_
                    simp only [Act.put, List.setIfInBounds_toArray, List.set_cons_zero, List.set_cons_succ]
                    refine wpAnyH_take (i := 8) (oi := { dst := some 183, op := Op.move (Operand.tmp 7), type := 30, pos := "law.go:175", after := #[{ on := 5, ground := Ground.guard }], guard := some (5, true) }) (v := .pointer (some ⟨l, 0, none⟩)) rfl (by kernel_rfl) (by kernel_rfl) (by kernel_rfl) (fun _ _ _ h => h) (Or.inl ⟨by rfl, fun w' hSw => by clear hSw; go_simp⟩) (by assumption) ?_
                    simp only [Act.put, List.setIfInBounds_toArray, List.set_cons_zero, List.set_cons_succ]
                    refine wpAnyH_take (i := 7) (oi := { dst := some 182, op := Op.load 3 (Operand.tmp 181), type := 3, pos := "law.go:175", after := #[{ on := 6, ground := Ground.data }, { on := 5, ground := Ground.guard }], guard := some (5, true) }) (v := .int .i64 dp.lsn) rfl (by kernel_rfl) (by kernel_rfl) (by kernel_rfl) (fun _ _ _ h => h) (yieldsIf_load_cell (by rfl) 3 _ rfl _ rfl (fun W hW => (HPW.out.more hW).c0) (fun W hc => ld_int hc)) (by assumption) ?_
                    simp only [Act.put, List.setIfInBounds_toArray, List.set_cons_zero, List.set_cons_succ]
                    refine wpAnyH_ready (rs := [9]) (by kernel_rfl) (by simp) ?_
                    refine AllReadyH.cons (o := { dst := some 184, op := Op.call { callee := Callee.value (Operand.func 42), args := #[Operand.tmp 183], argTypes := #[30] }, type := 3, pos := "law.go:175", after := #[{ on := 8, ground := Ground.data }, { on := 5, ground := Ground.chain }, { on := 5, ground := Ground.guard }], guard := some (5, true) }) rfl (fun K hK => ?_) (AllReadyH.nil)
                    go_simp
                    refine (ow_flushed (HI3.out.more (Only.drew _ _)).ow).mono ?_
                    rintro e u4 ⟨rfl, hw4⟩
                    subst hw4
                    refine hK.out _ _ (Only.drew _ _) (fun hHeld => ?_)
                    clear hK K
                    try simp only [Act.put, List.setIfInBounds_toArray, List.set_cons_zero, List.set_cons_succ]
                    refine wpAnyH_take (i := 10) (oi := { dst := some 185, op := Op.binOp BinOp.geq 3 (Operand.tmp 182) (Operand.tmp 184) 3, type := 4, pos := "law.go:175", after := #[{ on := 7, ground := Ground.data }, { on := 9, ground := Ground.data }, { on := 5, ground := Ground.guard }], guard := some (5, true) }) (v := .bool false) rfl (by kernel_rfl) (by kernel_rfl) (by kernel_rfl) (fun _ _ _ h => h) (Or.inl ⟨by rfl, fun w' hSw => by clear hSw; go_simp⟩) (by assumption) ?_
                    simp only [Act.put, List.setIfInBounds_toArray, List.set_cons_zero, List.set_cons_succ]
                    refine wpAnyH_take (i := 11) (oi := { dst := some 186, op := Op.pick (Operand.tmp 180) (Operand.tmp 185) (Operand.const (Value.bool false)), type := 4, pos := "law.go:175", after := #[{ on := 5, ground := Ground.data }, { on := 10, ground := Ground.data }, { on := 2, ground := Ground.guard }], guard := some (2, false) }) (v := .bool false) rfl (by kernel_rfl) (by kernel_rfl) (by kernel_rfl) (fun _ _ _ h => h) (Or.inl ⟨by rfl, fun w' hSw => by clear hSw; go_simp⟩) (by assumption) ?_
                    simp only [Act.put, List.setIfInBounds_toArray, List.set_cons_zero, List.set_cons_succ]
                    refine wpAnyH_take (i := 12) (oi := { dst := some 187, op := Op.pick (Operand.tmp 177) (Operand.const (Value.bool true)) (Operand.tmp 186), type := 4, pos := "law.go:175", after := #[{ on := 2, ground := Ground.data }, { on := 11, ground := Ground.data }], guard := none }) (v := .bool false) rfl (by kernel_rfl) (by kernel_rfl) (by kernel_rfl) (fun _ _ _ h => h) (Or.inl ⟨by rfl, fun w' hSw => by clear hSw; go_simp⟩) (by assumption) ?_
                    simp only [Act.put, List.setIfInBounds_toArray, List.set_cons_zero, List.set_cons_succ]
                    refine wpAnyH_done (by kernel_rfl) ?_ _
                    refine NoPanic.normal ?_
                    go_wp2_with fail
                    go_meet
                    exact ⟨rfl, Only.drew _ _⟩
                  · subst e1
                    refine wp_region_noPanic ?_
                    refine wp_region_held_drew (S := fun U => Only (fun _ => False) U3 U) (by kernel_rfl) (Only.drew _ _) (fun hHeld => ?_)
                    refine wpAnyH_take (i := 0) (oi := { dst := some 175, op := Op.move (Operand.tmp 23), type := 24, pos := "law.go:175", after := #[], guard := none }) (v := .int .i64 0) rfl (by kernel_rfl) (by kernel_rfl) (by kernel_rfl) (fun _ _ _ h => h) (Or.inl ⟨by rfl, fun w' hSw => by clear hSw; go_simp⟩) (by assumption) ?_
                    simp only [Act.put, List.setIfInBounds_toArray, List.set_cons_zero, List.set_cons_succ]
                    refine wpAnyH_take (i := 1) (oi := { dst := some 176, op := Op.binOp BinOp.neq 24 (Operand.tmp 175) (Operand.const (Value.int IntKind.i64 0)) 24, type := 4, pos := "law.go:175", after := #[{ on := 0, ground := Ground.data }], guard := none }) (v := .bool false) rfl (by kernel_rfl) (by kernel_rfl) (by kernel_rfl) (fun _ _ _ h => h) (Or.inl ⟨by rfl, fun w' hSw => by clear hSw; go_simp⟩) (by assumption) ?_
                    simp only [Act.put, List.setIfInBounds_toArray, List.set_cons_zero, List.set_cons_succ]
                    refine wpAnyH_take (i := 2) (oi := { dst := some 177, op := Op.move (Operand.tmp 176), type := 4, pos := "law.go:175", after := #[{ on := 1, ground := Ground.data }], guard := none }) (v := .bool false) rfl (by kernel_rfl) (by kernel_rfl) (by kernel_rfl) (fun _ _ _ h => h) (Or.inl ⟨by rfl, fun w' hSw => by clear hSw; go_simp⟩) (by assumption) ?_
                    simp only [Act.put, List.setIfInBounds_toArray, List.set_cons_zero, List.set_cons_succ]
                    refine wpAnyH_take (i := 3) (oi := { dst := some 178, op := Op.move (Operand.tmp 25), type := 24, pos := "law.go:175", after := #[{ on := 2, ground := Ground.guard }], guard := some (2, false) }) (v := .int .i64 30) rfl (by kernel_rfl) (by kernel_rfl) (by kernel_rfl) (fun _ _ _ h => h) (Or.inl ⟨by rfl, fun w' hSw => by clear hSw; go_simp⟩) (by assumption) ?_
                    simp only [Act.put, List.setIfInBounds_toArray, List.set_cons_zero, List.set_cons_succ]
                    refine wpAnyH_take (i := 4) (oi := { dst := some 179, op := Op.binOp BinOp.eql 24 (Operand.tmp 178) (Operand.const (Value.int IntKind.i64 0)) 24, type := 4, pos := "law.go:175", after := #[{ on := 3, ground := Ground.data }, { on := 2, ground := Ground.guard }], guard := some (2, false) }) (v := .bool false) rfl (by kernel_rfl) (by kernel_rfl) (by kernel_rfl) (fun _ _ _ h => h) (Or.inl ⟨by rfl, fun w' hSw => by clear hSw; go_simp⟩) (by assumption) ?_
                    simp only [Act.put, List.setIfInBounds_toArray, List.set_cons_zero, List.set_cons_succ]
                    refine wpAnyH_take (i := 5) (oi := { dst := some 180, op := Op.move (Operand.tmp 179), type := 4, pos := "law.go:175", after := #[{ on := 4, ground := Ground.data }, { on := 2, ground := Ground.chain }, { on := 2, ground := Ground.guard }], guard := some (2, false) }) (v := .bool false) rfl (by kernel_rfl) (by kernel_rfl) (by kernel_rfl) (fun _ _ _ h => h) (Or.inl ⟨by rfl, fun w' hSw => by clear hSw; go_simp⟩) (by assumption) ?_
                    simp only [Act.put, List.setIfInBounds_toArray, List.set_cons_zero, List.set_cons_succ]
                    refine wpAnyH_take (i := 6) (oi := { dst := some 181, op := Op.fieldAddr 45 (Operand.tmp 24) 0, type := 0, pos := "law.go:175", after := #[{ on := 5, ground := Ground.guard }], guard := some (5, true) }) (v := undef) rfl (by kernel_rfl) (by kernel_rfl) (by kernel_rfl) (fun _ _ _ h => h) (Or.inr ⟨by rfl, rfl⟩) (by assumption) ?_
                    simp only [Act.put, List.setIfInBounds_toArray, List.set_cons_zero, List.set_cons_succ]
                    refine wpAnyH_take (i := 8) (oi := { dst := some 183, op := Op.move (Operand.tmp 7), type := 30, pos := "law.go:175", after := #[{ on := 5, ground := Ground.guard }], guard := some (5, true) }) (v := undef) rfl (by kernel_rfl) (by kernel_rfl) (by kernel_rfl) (fun _ _ _ h => h) (Or.inr ⟨by rfl, rfl⟩) (by assumption) ?_
                    simp only [Act.put, List.setIfInBounds_toArray, List.set_cons_zero, List.set_cons_succ]
                    refine wpAnyH_take (i := 7) (oi := { dst := some 182, op := Op.load 3 (Operand.tmp 181), type := 3, pos := "law.go:175", after := #[{ on := 6, ground := Ground.data }, { on := 5, ground := Ground.guard }], guard := some (5, true) }) (v := undef) rfl (by kernel_rfl) (by kernel_rfl) (by kernel_rfl) (fun _ _ _ h => h) (Or.inr ⟨by rfl, rfl⟩) (by assumption) ?_
                    simp only [Act.put, List.setIfInBounds_toArray, List.set_cons_zero, List.set_cons_succ]
                    refine wpAnyH_take (i := 9) (oi := { dst := some 184, op := Op.call { callee := Callee.value (Operand.func 42), args := #[Operand.tmp 183], argTypes := #[30] }, type := 3, pos := "law.go:175", after := #[{ on := 8, ground := Ground.data }, { on := 5, ground := Ground.chain }, { on := 5, ground := Ground.guard }], guard := some (5, true) }) (v := undef) rfl (by kernel_rfl) (by kernel_rfl) (by kernel_rfl) (fun _ _ _ h => h) (Or.inr ⟨by rfl, rfl⟩) (by assumption) ?_
                    simp only [Act.put, List.setIfInBounds_toArray, List.set_cons_zero, List.set_cons_succ]
                    refine wpAnyH_take (i := 10) (oi := { dst := some 185, op := Op.binOp BinOp.geq 3 (Operand.tmp 182) (Operand.tmp 184) 3, type := 4, pos := "law.go:175", after := #[{ on := 7, ground := Ground.data }, { on := 9, ground := Ground.data }, { on := 5, ground := Ground.guard }], guard := some (5, true) }) (v := undef) rfl (by kernel_rfl) (by kernel_rfl) (by kernel_rfl) (fun _ _ _ h => h) (Or.inr ⟨by rfl, rfl⟩) (by assumption) ?_
                    simp only [Act.put, List.setIfInBounds_toArray, List.set_cons_zero, List.set_cons_succ]
                    refine wpAnyH_take (i := 11) (oi := { dst := some 186, op := Op.pick (Operand.tmp 180) (Operand.tmp 185) (Operand.const (Value.bool false)), type := 4, pos := "law.go:175", after := #[{ on := 5, ground := Ground.data }, { on := 10, ground := Ground.data }, { on := 2, ground := Ground.guard }], guard := some (2, false) }) (v := .bool false) rfl (by kernel_rfl) (by kernel_rfl) (by kernel_rfl) (fun _ _ _ h => h) (Or.inl ⟨by rfl, fun w' hSw => by clear hSw; go_simp⟩) (by assumption) ?_
                    simp only [Act.put, List.setIfInBounds_toArray, List.set_cons_zero, List.set_cons_succ]
                    refine wpAnyH_take (i := 12) (oi := { dst := some 187, op := Op.pick (Operand.tmp 177) (Operand.const (Value.bool true)) (Operand.tmp 186), type := 4, pos := "law.go:175", after := #[{ on := 2, ground := Ground.data }, { on := 11, ground := Ground.data }], guard := none }) (v := .bool false) rfl (by kernel_rfl) (by kernel_rfl) (by kernel_rfl) (fun _ _ _ h => h) (Or.inl ⟨by rfl, fun w' hSw => by clear hSw; go_simp⟩) (by assumption) ?_
                    simp only [Act.put, List.setIfInBounds_toArray, List.set_cons_zero, List.set_cons_succ]
                    refine wpAnyH_done (by kernel_rfl) ?_ _
                    refine NoPanic.normal ?_
                    go_wp2_with fail
                    go_meet
                    exact ⟨rfl, Only.drew _ _⟩
                case rest =>
                  obtain ⟨rfl, HO4⟩ := hcut
                  have HI4 := hide (HI3.out.more HO4.out)
                  clear HO4 HI3 HPW HD
                  go_wp2_with fail
                  go_roundw
                  case rel => exact ⟨k + 1, by omega, by go_num, HI4⟩
                  case measure => simp [intOf]; omega
              · have hki : ¬ (k : Int) < 12 := by omega
                go_wp2_with fail
                go_roundw
                case rel => exact ⟨j + 1, t2, fl5, C2, K5, by omega, by omega, ht2, by go_num, HI.out.down (fun k e => .inl e) (.inl rfl) (.inr rfl)⟩
                case measure => simp [intOf]; omega
      · have h2 : ¬ (j : Int) < 200 := by omega
        go_wp2_with fail
        refine (oawake_any wr).mono ?_
        rintro e w9 ⟨rfl, ho9⟩
        have HO9 := hide (o2 HS.out.ow.only ho9)
        clear ho9 HS
        go_wp2_with fail
        go_ret
        exact ⟨rfl, HO9.out⟩
    · have h2 : ¬ (j : Int) < (L.length : Int) := by omega
      go_wp2_with fail
      refine (oawake_any wr).mono ?_
      rintro e w9 ⟨rfl, ho9⟩
      have HO9 := hide (o2 HS.out.ow.only ho9)
      clear ho9 HS
      go_wp2_with fail
      go_ret
      exact ⟨rfl, HO9.out⟩
end Go.Proofs.YtbfafijfhaejmaaGreatDoor

namespace Go.Proofs.YtbfafijfhaejmaaGreatDoor
open Go.ChangeShapes Go.WideShapes Go.ChangeAt Go.RowKit

theorem ownKnob_none : ownKnob Tryz.prog.godebug = none := by kernel_rfl
theorem gFirst : Tryz.prog.globalNamed "unicode/utf8.first" = some 1 := by kernel_rfl
theorem gRanges : Tryz.prog.globalNamed "unicode/utf8.acceptRanges" = some 2 := by kernel_rfl
def putCells (cs : Array Value) : Obj → Obj
  | .cells _ t frozen => .cells cs t frozen
  | o => o
def firstCells : Array Value := (Go.Pinned.utf8FirstZ.map fun n : Nat => Value.int .u8 (n : Int)).toArray
def rangeCells : Array Value := #[.int .u8 128, .int .u8 191, .int .u8 160, .int .u8 191, .int .u8 128, .int .u8 159, .int .u8 144, .int .u8 191, .int .u8 128, .int .u8 143, .int .u8 0, .int .u8 0, .int .u8 0, .int .u8 0, .int .u8 0, .int .u8 0, .int .u8 0, .int .u8 0, .int .u8 0, .int .u8 0, .int .u8 0, .int .u8 0, .int .u8 0, .int .u8 0, .int .u8 0, .int .u8 0, .int .u8 0, .int .u8 0, .int .u8 0, .int .u8 0, .int .u8 0, .int .u8 0]
noncomputable def settled (os : Os) : World := World.holding Tryz.prog os ⟨#[], #[], []⟩
/-- A world for the witness: the settled one, the two tables as they are laid. -/
noncomputable def laidWorld (os : Os) : World := { settled os with heap := ((settled os).heap.modify 1 (putCells firstCells)).modify 2 (putCells rangeCells) }
theorem sized_mem {H : Type} {ts : List TypeId} {ds : List (DataW H)} (h : (DataW.weightsEach Tryz.prog ts ds).all (· ≤ reachBytes) = true) {j : Nat} {t : TypeId} {d : DataW H} (ht : ts[j]? = some t) (hd : ds[j]? = some d) : ∀ n ∈ d.weights Tryz.prog t, n ≤ reachBytes := by
  intro n hn
  have := List.all_eq_true.1 h _ (DataW.weights_mem_each ht hd n hn)
  simpa using this
end Go.Proofs.YtbfafijfhaejmaaGreatDoor

namespace Go.Proofs.YtbfafijfhaejmaaGreatDoor.poolKeeps
open Go.ChangeShapes Go.WideShapes Go.ChangeAt Go.RowKit

theorem laid_met (os : Os) : laidMet Tryz.prog Rows.poolKeepsRow.laid ((laidWorld os).forCall (fun _ _ => 0) ⟨#[], #[.int .i64 0, .slice none 0 0], []⟩).memory :=
  laidMet_of_run' 8 (by kernel_rfl) (by kernel_rfl)
set_option maxRecDepth 100000 in
theorem lifted (os : Os) (started : os.Started) (H : Type) (enc : TypeId × Value → H) (F : Stop.Interp) :
    ReturnsInHanded {} Tryz.checked os 4 .any ((OpenSpec.ofChange Rows.poolKeepsSpec).preRow enc Tryz.prog Tryz.f4 Rows.poolKeepsRow.domain false Rows.poolKeepsRow.laid) (((OpenSpec.ofChange Rows.poolKeepsSpec).at F).post enc Tryz.prog Tryz.f4 false true false false) := by
  refine returnsInHanded_of_row (C := Tryz.checked) (s := OpenSpec.ofChange Rows.poolKeepsSpec) ownKnob_none started (by kernel_rfl) Tryz.func4
    (witness_row_at (enc := enc) (C := Tryz.checked) false (laidWorld os) #[.int .i64 0, .slice none 0 0] rfl (by kernel_rfl) (by kernel_rfl) (by kernel_rfl)
      (OpenSpec.preRow_of_cond (x := ([.lit (.int .i64 0), .nil], [], [])) 8 (by kernel_rfl) (by kernel_rfl) (fun k hk => by cases hk) (by kernel_rfl) (laid_met os))) ?_
  intro W base args ds gs before hval0 hW _ _ hsz _ _ _
  have hval : ∀ (j : Nat) t v, Tryz.f4.params[j]? = some t → args[j]? = some v → Value.okWide Tryz.prog W .any base t v := hval0
  have hW' := hW
  obtain ⟨p, q, hA0, hV, rfl, hfz, hnd⟩ := hW
  have hA : DataW.TrodAll enc Tryz.prog W 0 (fun _ => true) true Tryz.f4.params.toList args.toList ds p := hA0
  rw [Tryz.params4] at hA hval hsz
  obtain ⟨v0, vs0, d0, ds0, p0, q0, hargs, rfl, rfl, h0, r0⟩ := trodAll_cons hA
  obtain ⟨v1, vs1, d1, ds1, p1, q1, hargs1, rfl, rfl, h1, r1⟩ := trodAll_cons r0
  obtain ⟨rfl, rfl, rfl⟩ := trodAll_nil r1
  obtain rfl : args = #[v0, v1] := by cases args; simp_all
  obtain ⟨rfl, rfl⟩ := trodVars_none hV
  obtain ⟨a0, rfl, rfl, rfl, w0⟩ := open_int Tryz.underlying3 (hval 0 3 v0 rfl rfl) h0
  obtain ⟨B, ao, cp, l, rfl, hat⟩ := open_oops (hval 1 22 v1 rfl rfl) h1 (sized_mem hsz (j := 1) rfl rfl)
  have lt1 : ∀ x ∈ p1, x.block < W.heap.size := fun x hx => hW'.lt x (by simp [hx])
  clear hA0 hval0
  simp only [List.append_nil] at hW'
  refine (keeps_law W a0 B cp ao l hat).mono fun e W' ⟨he, ho⟩ => ?_
  subst he
  have bel : Below W.heap.size W W' := ho.below (Nat.le_refl _) (fun _ _ h => h)
  exact ⟨_, rfl, _, _, _, [], _, [], hW', trodAll_mk1 (shut_bool Tryz.underlying4 _), (trodAll_cons_mk (shut_int Tryz.underlying3 w0) (trodAll_cons_mk (Below.trod Tryz.laidOut (by kernel_rfl) (of_decide_eq_true (by kernel_rfl)) h1 bel lt1) trodAll_mk0)), rfl, bel.frame _, fun h => by cases h⟩

theorem said : Rows.PoolKeepsSaid :=
  OpenClaim.holds_of_cond 4 Tryz.f4 rfl rfl rfl rfl rfl rfl rfl ⟨rfl, rfl, rfl, rfl, rfl⟩ rfl rfl rfl rfl rfl (by kernel_rfl) Tryz.func4 (by kernel_rfl)
    (of_decide_eq_true (by kernel_rfl)) (by unfold Func.isWrapper; first | (rw [if_pos (by decide +kernel)]; kernel_rfl) | (rw [if_neg (by decide +kernel)]; exact ⟨rfl, rfl⟩))
    (fun os started H enc _ F => by rw [OpenClaim.pre_eq_preRow]; exact lifted os started H enc F)
theorem plain (f : FuncId) (fn : Func) (hf : Tryz.pinned.checked.prog.funcNamed "almonry/almonrylaw06.PoolKeeps" = some f) (hfn : Tryz.pinned.checked.prog.funcs[f]? = some fn) :
    false = Tryz.pinned.checked.prog.looks [] ∧ ∀ (j : Nat) t, fn.params[j]? = some t → Tryz.pinned.checked.prog.wantsStandIn t = false := by
  obtain rfl : f = 4 := Option.some.inj ((show Tryz.prog.funcNamed "almonry/almonrylaw06.PoolKeeps" = some 4 by kernel_rfl).symm.trans hf) |>.symm
  obtain rfl : fn = Tryz.f4 := (Option.some.inj (Tryz.func4.symm.trans hfn)).symm
  refine ⟨by kernel_rfl, fun j t ht => ?_⟩
  rw [Tryz.params4] at ht
  have ht' : t = 3 ∨ t = 22 := by simpa using Array.mem_of_getElem? ht
  rcases ht' with e | e <;> subst e
  · exact (show Tryz.prog.wantsStandIn 3 = false by kernel_rfl)
  · exact (show Tryz.prog.wantsStandIn 22 = false by kernel_rfl)
theorem card : Rows.PoolKeepsCardSaid :=
  Claim7.holds_tied_plain_at .later [] _ _ _ _ said (fun _ h => by cases h) (by kernel_rfl) (fun _ h => by cases h) poolKeeps_row_tie rfl ⟨rfl, rfl⟩ (by kernel_rfl) rfl plain (by kernel_rfl)
end Go.Proofs.YtbfafijfhaejmaaGreatDoor.poolKeeps
namespace Go.Proofs.YtbfafijfhaejmaaGreatDoor
theorem poolKeeps_holds : Rows.PoolKeepsCardSaid := poolKeeps.card
#print axioms poolKeeps_holds
end Go.Proofs.YtbfafijfhaejmaaGreatDoor
