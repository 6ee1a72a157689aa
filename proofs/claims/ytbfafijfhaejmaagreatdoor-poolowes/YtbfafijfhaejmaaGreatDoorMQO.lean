/- For any number of frames, any list of acts and any fates the statement PoolOwes returns true: a page that is not in the dirty table is there behind any crash; no condition on them. Go's own tables of the library hold what they are laid with. -/
import Derived.Test.YtbfafijfhaejmaaGreatDoorMQH
import Derived.Test.YtbfafijfhaejmaaGreatDoorMQG
import Derived.Test.YtbfafijfhaejmaaGreatDoorMDH
import Derived.Deep.CutBlock
import Derived.Test.YtbfafijfhaejmaaGreatDoorCards
import Derived.Test.YtbfafijfhaejmaaGreatDoorTie
import Derived.Deep.DeepHandedRow
import Derived.Lib.LaidTab
namespace Go.Proofs.YtbfafijfhaejmaaGreatDoor
open Go.RowKit

theorem pw_sync {w W : World} {p d l : Nat} {F : Nat → Prop} {t fl : Nat} {C K : Nat → Option Pg} (h : Pw w W p d l F t fl C K) :
    Calls Tryz.prog 25 #[.pointer (some ⟨d, 0, none⟩)] W fun e w' => e = .returned (.int .i64 0) ∧ Pn w W w' p d l F t C := by
  obtain ⟨fb, mb, g, m, P, D, G, v7, v8, T, h1, h2, h3, ⟨g1, g2, g3, g4, g5, g6, g7, g8⟩, h5⟩ := h.ex
  obtain ⟨a1, a2⟩ := inv_sync h2
  refine (sync_any W d g m D h1.dsk).mono ?_
  rintro e w' ⟨rfl, hD, ho⟩
  have hS : Sw w w' p d l fb mb g m P D.sync.1 G v7 v8 T :=
    ⟨h1.pool.kept ho h1.xp.1 h1.xf.1 h1.xm.1 (fun B hB => (h1.xT B hB).1), hD, h1.log.kept ho h1.xl (fun k hk => (h1.x7 k hk).1) (fun k hk => (h1.x8 k hk).1), h1.ok, h1.sf, h1.tb, h1.pok, h1.xp, h1.xf, h1.xm, h1.xT, h1.xl, h1.x7, h1.x8, h1.only.trans ho (fun k hk e => by have := h1.lo.2.2.2.2 k e; omega), h1.lo⟩
  refine ⟨by rw [a1], pn_mk h h5 hS (K' := K) ⟨a2.sz, a2.gn, a2.gf, a2.gl, a2.ln, a2.fr, a2.ne, a2.va, a2.kc, a2.kv, a2.dk⟩ h3 ⟨g1, g3, g4, g5, g6, g7, g8⟩ (fun _ e => e) (.inl rfl) (fun k e => .inl e) (fun k e => .inl e) ho (fun k hk => .inl hk)⟩
theorem pw_synced {w W : World} {p d l : Nat} {F : Nat → Prop} {t fl : Nat} {C K : Nat → Option Pg} (h : Pw w W p d l F t fl C K) :
    Calls Tryz.prog 27 #[.pointer (some ⟨p, 0, none⟩)] W fun e w' => e = .returned (.tuple #[]) ∧ Pn w W w' p d l F t C := by
  obtain ⟨fb, mb, g, m, P, D, G, v7, v8, T, h1, h2, h3, ⟨g1, g2, g3, g4, g5, g6, g7, g8⟩, h5⟩ := h.ex
  obtain ⟨B, ao, cp, hv, hs⟩ := h1.sh
  refine (sh_synced hs).mono ?_
  rintro e w' ⟨rfl, hs', ho⟩
  have hr : ShR W w' p d l fb mb g m B ao cp v8 T ⟨0, P.synced, D, G⟩ := ⟨W.heap.size, _, hs', fun k e => e.1, fun k hk e => ⟨e, by omega⟩, .inr (Nat.le_refl _), ho.mono (fun k _ e => .inr (.inr (.inl e)))⟩
  obtain ⟨mb', T', hS', hT, hm⟩ := h1.back2 hv hr (ok_synced h1.pok) (Lg.Alike.refl G)
  exact ⟨rfl, pn_mk h h5 hS' (K' := K) ⟨h2.sz, h2.gn, h2.gf, h2.gl, h2.ln, h2.fr, h2.ne, h2.va, h2.kc, h2.kv, h2.dk⟩ h3 ⟨g1, g3, g4, g5, g6, g7, g8⟩ hT hm (fun k e => .inl e) (fun k e => .inl e) ho (fun k hk => .inr (.inr (.inl hk)))⟩
/-- What a page's sectors are decoded to. -/
def kdec (o : Option Pg) : Pg × Int := match o with
  | some p => (p, 0)
  | none => (.none, 30)
theorem read_lies {D : Dk} {N : Nat} {f : Nat → List UInt8} (h : D.Wk N f) (a : Nat) (ha : a + 8 ≤ N) (o : Option Pg) (hv : ∀ p, o = some p → p.valid) (hf : ∀ i, i < 8 → f (a + i) = lies o i) : ∃ l, D.read (a : Int) 8 = (l, 0) ∧ dec l = kdec o := by
  have hr : D.read (a : Int) 8 = (((List.range 8).map fun i => lies o i).flatten, 0) := by
    unfold Dk.read
    rw [h.dead, if_neg (by simp), h.len, if_pos (by unfold hasB; simp; omega)]
    have e : D.bytes (a : Int).toNat (8 : Int).toNat = ((List.range 8).map fun i => lies o i).flatten := by
      unfold Dk.bytes
      rw [Int.toNat_natCast, show (8 : Int).toNat = 8 from rfl]
      have e2 : ((List.range 8).map fun i => D.cur (a + i)) = (List.range 8).map fun i => lies o i := by
        apply List.map_congr_left
        intro i hi
        have hi := List.mem_range.1 hi
        rw [h.cur (a + i) (by omega), hf i hi]
      rw [e2]
    rw [e]
  refine ⟨_, hr, ?_⟩
  cases o with
  | some p =>
    have hp := hv p rfl
    show dec ((List.range 8).map fun i => (p.enc.drop (64 * i)).take 64).flatten = (p, 0)
    rw [chunk_all, List.take_of_length_le (by rw [enc_len p hp.fit.2.2]; omega), dec_enc p hp]
  | none =>
    have e : ((List.range 8).map fun i => lies none i).flatten = List.replicate 512 0 := by decide +kernel
    rw [e]
    exact aw_none
theorem pw_read {w W : World} {p d l : Nat} {F : Nat → Prop} {t fl : Nat} {C K : Nat → Option Pg} (h : Pw w W p d l F t fl C K) (k : Nat) (hk : k < 12) :
    Calls Tryz.prog 32 #[.pointer (some ⟨d, 0, none⟩), .int .i64 (200 + 8 * (k : Int)), .int .i64 8] W fun e w' => ∃ N : ByteArray, e = .returned (.tuple #[.string N, .int .i64 0]) ∧ dec (bl N) = kdec (K k) ∧ Only (fun _ => False) W w' := by
  obtain ⟨fb, mb, g, m, P, D, G, v7, v8, T, h1, h2, h3, hG, h5⟩ := h.ex
  obtain ⟨f, f1, f2⟩ := h2.dk
  have hs := h2.sz
  obtain ⟨ll, a1, a2⟩ := read_lies f1 (P.frm + 8 * k) (by omega) (K k) (fun q hq => (h2.kv k q hq).1) (f2 k (by omega))
  rw [h3.1, show (((200 + 8 * k : Nat)) : Int) = 200 + 8 * (k : Int) by omega] at a1
  have hx := dread_any W d g m D h1.dsk (200 + 8 * (k : Int)) 8 (by omega)
  rw [a1] at hx
  exact Calls.mono hx fun e w' hx => ⟨⟨ll.toArray⟩, hx.1, by show dec ll.toArray.toList = _; rw [← a2], hx.2⟩
theorem pw_flushed {w W : World} {p d l : Nat} {F : Nat → Prop} {t fl : Nat} {C K : Nat → Option Pg} (h : Pw w W p d l F t fl C K) : Calls Tryz.prog 42 #[.pointer (some ⟨l, 0, none⟩)] W fun e w' => e = .returned (.int .i64 (fl : Int)) ∧ w' = W := by
  obtain ⟨fb, mb, g, m, P, D, G, v7, v8, T, h1, h2, h3, hG, h5⟩ := h.ex
  have := qa_flushed h1
  rw [hG.2.1] at this
  exact this
theorem pw_early {w W : World} {p d l : Nat} {F : Nat → Prop} {t fl : Nat} {C K : Nat → Option Pg} (h : Pw w W p d l F t fl C K) (k : Nat) (q : Pg) (hq : K k = some q) : q.lsn < (fl : Int) := by
  obtain ⟨fb, mb, g, m, P, D, G, v7, v8, T, h1, h2, h3, hG, h5⟩ := h.ex
  have := (h2.kv k q hq).2.2
  rw [hG.2.1] at this
  exact this
/-- One pool apart from the blocks X. -/
structure Oq (w W : World) (p d l : Nat) (X : Nat → Prop) (t fl : Nat) (C K : Nat → Option Pg) : Prop where
  ex : ∃ F, Pw w W p d l F t fl C K ∧ ∀ k, X k → ¬ F k
  x : ∀ k, X k → w.heap.size ≤ k ∧ k < W.heap.size
  only : Only (fun _ => False) w W
/-- What a call leaves. -/
def On (w W W' : World) (p d l : Nat) (X : Nat → Prop) (t : Nat) (C : Nat → Option Pg) : Prop := ∃ fl K, Oq w W' p d l X t fl C K ∧ Only (Kx w X) W W'
theorem on_mk {w W W' : World} {p d l : Nat} {X F : Nat → Prop} {t t' fl : Nat} {C C' K : Nat → Option Pg} (h : Oq w W p d l X t fl C K) (h1 : Pw w W p d l F t fl C K) (h4 : ∀ k, X k → ¬ F k) (hn : Pn w W W' p d l F t' C') : On w W W' p d l X t' C' := by
  obtain ⟨F', fl', K', n1, n2, n3⟩ := hn
  refine ⟨fl', K', ⟨⟨F', n1, fun k hk e => ?_⟩, fun k hk => ⟨(h.x k hk).1, Nat.lt_of_lt_of_le (h.x k hk).2 n3.size⟩, n1.only⟩, n3.mono (fun k _ hk => ⟨fun e => h4 k e hk, (h1.lt k hk).1⟩)⟩
  rcases n2 k e with e1 | e1
  · exact h4 k hk e1
  · have := (h.x k hk).2; omega
theorem Oq.kept {w W W' : World} {p d l : Nat} {X X' : Nat → Prop} {t fl : Nat} {C K : Nat → Option Pg} (h : Oq w W p d l X t fl C K) (ho : Only X W W') (hX : ∀ k, X' k → X k ∨ W.heap.size ≤ k ∧ k < W'.heap.size) : Oq w W' p d l X' t fl C K := by
  obtain ⟨F, h1, h4⟩ := h.ex
  have hw : Only (fun _ => False) w W' := h.only.trans ho (fun k hk e => by have := (h.x k e).1; omega)
  have hsz := ho.size
  have hz := h.only.size
  refine ⟨⟨F, h1.kept ho (fun k hk e => h4 k e hk) hw, fun k hk => ?_⟩, fun k hk => ?_, hw⟩
  · rcases hX k hk with e | e
    · exact h4 k e
    · exact fun e2 => by have := (h1.lt k e2).2; omega
  · rcases hX k hk with e | e
    · have := h.x k e; omega
    · omega
theorem Oq.more {w W W' : World} {p d l : Nat} {X : Nat → Prop} {t fl : Nat} {C K : Nat → Option Pg} (h : Oq w W p d l X t fl C K) (ho : Only (fun _ => False) W W') : Oq w W' p d l X t fl C K := h.kept (ho.mono (fun _ _ e => e.elim)) (fun _ e => .inl e)
theorem Oq.down {w W : World} {p d l : Nat} {X X' : Nat → Prop} {t fl : Nat} {C K : Nat → Option Pg} (h : Oq w W p d l X t fl C K) (hX : ∀ k, X' k → X k) : Oq w W p d l X' t fl C K := h.kept (Only.refl _ _) (fun k e => .inl (hX k e))
theorem Oq.var {w W : World} {p d l : Nat} {X : Nat → Prop} {t fl : Nat} {C K : Nat → Option Pg} (h : Oq w W p d l X t fl C K) (o : Obj) : Oq w (W.alloc o) p d l (fun k => X k ∨ k = W.heap.size) t fl C K :=
  h.kept ((onlyA W o).mono (fun _ _ e => e.elim)) (fun k e => by
    rcases e with e | e
    · exact .inl e
    · exact .inr ⟨by omega, by simp; omega⟩)
theorem ow_append {w W : World} {p d l : Nat} {X : Nat → Prop} {t fl : Nat} {C K : Nat → Option Pg} (h : Oq w W p d l X t fl C K) (ht : t ≤ 9000) :
    Calls Tryz.prog 18 #[.pointer (some ⟨l, 0, none⟩), .agg (nt.cells Loc.none)] W fun e w' => e = .returned (.tuple #[.int .i64 (t : Int), .int .i64 0]) ∧ On w W w' p d l X (ntl t) C := by
  obtain ⟨F, h1, h4⟩ := h.ex
  exact (pw_append h1 ht).mono fun e w' hx => ⟨hx.1, on_mk h h1 h4 hx.2⟩
theorem ow_set {w W : World} {p d l : Nat} {X : Nat → Prop} {t fl : Nat} {C K : Nat → Option Pg} (h : Oq w W p d l X t fl C K) (n : Nat) (hn : n < 12) (pick : Int) (body : Pg) (Bb : Nat) (ab : Option Addr) (cb : Nat) (hS : Strs w Bb ab body.items) (hh : body.high.size ≤ 140737488355328) (hl : body.lsn < (t : Int)) :
    Calls Tryz.prog 21 #[.pointer (some ⟨p, 0, none⟩), .int .i64 (n : Int), .agg #[.int .i64 body.lsn, .int .i64 body.kind, .int .i64 body.level, .int .i64 body.right, .string body.high, .slice ab body.items.length cb], .int .i64 pick] W fun e w' =>
      e = .returned (.int .i64 body.setC) ∧ On w W w' p d l X t (setP C n body) := by
  obtain ⟨F, h1, h4⟩ := h.ex
  exact (pw_set h1 n hn pick body Bb ab cb (hS.more h.only) (fun h0 e => by have := (h1.lt Bb e).1; have := hS.lt h0; omega) hh hl).mono fun e w' hx => ⟨hx.1, on_mk h h1 h4 hx.2⟩
theorem ow_fetch {w W : World} {p d l : Nat} {X : Nat → Prop} {t fl : Nat} {C K : Nat → Option Pg} (h : Oq w W p d l X t fl C K) (n : Nat) (hn : n < 12) (pick : Int) (pg : Pg) (c : Int) (hp : fetP (C n) = pg) (hc : fetC (C n) = c) :
    Calls Tryz.prog 15 #[.pointer (some ⟨p, 0, none⟩), .int .i64 (n : Int), .int .i64 pick] W fun e w' =>
      ∃ Bq aq cq, e = .returned (.tuple #[.agg #[.int .i64 pg.lsn, .int .i64 pg.kind, .int .i64 pg.level, .int .i64 pg.right, .string pg.high, .slice aq pg.items.length cq], .int .i64 c]) ∧ Strs w' Bq aq pg.items ∧ On w W w' p d l X t C := by
  subst hp hc
  obtain ⟨F, h1, h4⟩ := h.ex
  refine (pw_fetch h1 n hn pick).mono ?_
  rintro e w' ⟨Bq, aq, cq, he, b1, b2, b3, hx⟩
  exact ⟨Bq, aq, cq, he, b1, on_mk h h1 h4 hx⟩
theorem ow_write {w W : World} {p d l : Nat} {X : Nat → Prop} {t fl : Nat} {C K : Nat → Option Pg} (h : Oq w W p d l X t fl C K) (n : Nat) (hn : n < 12) : Calls Tryz.prog 23 #[.pointer (some ⟨p, 0, none⟩), .int .i64 (n : Int)] W fun e w' => e = .returned (.int .i64 0) ∧ On w W w' p d l X t C := by
  obtain ⟨F, h1, h4⟩ := h.ex
  exact (pw_write h1 n hn).mono fun e w' hx => ⟨hx.1, on_mk h h1 h4 hx.2⟩
theorem ow_sync {w W : World} {p d l : Nat} {X : Nat → Prop} {t fl : Nat} {C K : Nat → Option Pg} (h : Oq w W p d l X t fl C K) : Calls Tryz.prog 25 #[.pointer (some ⟨d, 0, none⟩)] W fun e w' => e = .returned (.int .i64 0) ∧ On w W w' p d l X t C := by
  obtain ⟨F, h1, h4⟩ := h.ex
  exact (pw_sync h1).mono fun e w' hx => ⟨hx.1, on_mk h h1 h4 hx.2⟩
theorem ow_synced {w W : World} {p d l : Nat} {X : Nat → Prop} {t fl : Nat} {C K : Nat → Option Pg} (h : Oq w W p d l X t fl C K) : Calls Tryz.prog 27 #[.pointer (some ⟨p, 0, none⟩)] W fun e w' => e = .returned (.tuple #[]) ∧ On w W w' p d l X t C := by
  obtain ⟨F, h1, h4⟩ := h.ex
  exact (pw_synced h1).mono fun e w' hx => ⟨hx.1, on_mk h h1 h4 hx.2⟩
theorem ow_read {w W : World} {p d l : Nat} {X : Nat → Prop} {t fl : Nat} {C K : Nat → Option Pg} (h : Oq w W p d l X t fl C K) (k : Nat) (hk : k < 12) : Calls Tryz.prog 32 #[.pointer (some ⟨d, 0, none⟩), .int .i64 (200 + 8 * (k : Int)), .int .i64 8] W fun e w' => ∃ N : ByteArray, e = .returned (.tuple #[.string N, .int .i64 0]) ∧ dec (bl N) = kdec (K k) ∧ Only (fun _ => False) W w' := by
  obtain ⟨F, h1, h4⟩ := h.ex
  exact pw_read h1 k hk
theorem ow_flushed {w W : World} {p d l : Nat} {X : Nat → Prop} {t fl : Nat} {C K : Nat → Option Pg} (h : Oq w W p d l X t fl C K) : Calls Tryz.prog 42 #[.pointer (some ⟨l, 0, none⟩)] W fun e w' => e = .returned (.int .i64 (fl : Int)) ∧ w' = W := by
  obtain ⟨F, h1, h4⟩ := h.ex
  exact pw_flushed h1
theorem ow_early {w W : World} {p d l : Nat} {X : Nat → Prop} {t fl : Nat} {C K : Nat → Option Pg} (h : Oq w W p d l X t fl C K) (k : Nat) (q : Pg) (hq : K k = some q) : q.lsn < (fl : Int) := by
  obtain ⟨F, h1, h4⟩ := h.ex
  exact pw_early h1 k q hq
end Go.Proofs.YtbfafijfhaejmaaGreatDoor

namespace Go.Proofs.YtbfafijfhaejmaaGreatDoor
open Go.RowKit

theorem Tryz.infoPage : (Tryz.prog.info? 45).map (fun i => (i.zero, i.size, i.bytes)) = some (some (.agg #[.int .i64 0, .int .i64 0, .int .i64 0, .int .i64 0, .string ⟨#[]⟩, .slice none 0 0]), 6, 72) := by kernel_rfl
theorem Tryz.infoBool : (Tryz.prog.info? 4).map (fun i => (i.zero, i.size, i.bytes)) = some (some (.bool false), 1, 1) := by kernel_rfl
/-- A page's cells. -/
def pcl (p : Pg) (ao : Option Addr) (cp : Nat) : List Value := [.int .i64 p.lsn, .int .i64 p.kind, .int .i64 p.level, .int .i64 p.right, .string p.high, .slice ao p.items.length cp]
/-- Which were set, in block b. -/
structure Iss (W : World) (b : Nat) (C : Nat → Option Pg) : Prop where
  at_ : ∀ k, k < 12 → W.cell? ⟨b, k, none⟩ = some (.bool (C k).isSome)
  fz : ∀ k, W.frozen? ⟨b, k, none⟩ = false
  lt : b < W.heap.size
/-- What they were set to, in block b; their items came in. -/
structure Las (w W : World) (b : Nat) (C : Nat → Option Pg) : Prop where
  at_ : ∀ k, k < 12 → ∃ B ao cp, W.rangeAt b (k * 6) (pcl (fetP (C k)) ao cp) ∧ Strs w B ao (fetP (C k)).items
  fz : ∀ k, W.frozen? ⟨b, k, none⟩ = false
  lt : b < W.heap.size
theorem Iss.kept {S : Nat → Prop} {W W' : World} {b : Nat} {C : Nat → Option Pg} (h : Iss W b C) (ho : Only S W W') (hS : ¬ S b) : Iss W' b C :=
  ⟨fun k hk => (ho.cell (p := ⟨b, k, none⟩) h.lt hS).trans (h.at_ k hk), fun k => (ho.frozen (p := ⟨b, k, none⟩) h.lt hS).trans (h.fz k), Nat.lt_of_lt_of_le h.lt ho.size⟩
theorem Las.kept {S : Nat → Prop} {w W W' : World} {b : Nat} {C : Nat → Option Pg} (h : Las w W b C) (ho : Only S W W') (hS : ¬ S b) : Las w W' b C :=
  ⟨fun k hk => by
    obtain ⟨B, ao, cp, h1, h2⟩ := h.at_ k hk
    exact ⟨B, ao, cp, range_go h1 ho hS, h2⟩, fun k => (ho.frozen (p := ⟨b, k, none⟩) h.lt hS).trans (h.fz k), Nat.lt_of_lt_of_le h.lt ho.size⟩
theorem iss_make (W : World) : ∃ W', (Instr.makeSlice 64 (.int .i64 12) (.int .i64 12)).run Tryz.prog W = .ok (.slice (some ⟨W.heap.size, 0, none⟩) 12 12) W' ∧ Iss W' W.heap.size (fun _ => none) ∧ Only (fun _ => False) W W' := by
  obtain ⟨i0, hi, hz0, hz1, hz2⟩ := info_parts Tryz.infoBool
  obtain ⟨w1, hmk, hown, hgr⟩ := run_make_full (P := Tryz.prog) W W.heap.size 64 4 i0 (.bool false) 1 Tryz.underlying64 hi hz0 hz1 .i64 .i64 12 (by rw [hz2]; omega) (by unfold maxLen; omega) (Nat.le_refl _)
  refine ⟨w1, hmk, ⟨fun k hk => ?_, fun k => hown.frozenAt k, ?_⟩, Only.grown hgr (fun k hk => by cases hk)⟩
  · rw [hown.cellAt k (by omega)]
    have e : (Value.bool false).cells = #[.bool false] := rfl
    rw [e, toList_madeCells_one, List.getElem?_replicate, if_pos (by omega)]
    rfl
  · have := hown.cellAt 0 (by omega)
    have e : (Value.bool false).cells = #[.bool false] := rfl
    rw [e, toList_madeCells_one] at this
    have hh : w1.cell? ⟨W.heap.size, 0, none⟩ = some (.bool false) := by rw [this]; rfl
    exact World.block_lt_of_cell? w1 _ hh
theorem las_make (w W : World) : ∃ W', (Instr.makeSlice 76 (.int .i64 12) (.int .i64 12)).run Tryz.prog W = .ok (.slice (some ⟨W.heap.size, 0, none⟩) 12 12) W' ∧ Las w W' W.heap.size (fun _ => none) ∧ Only (fun _ => False) W W' := by
  obtain ⟨i0, hi, hz0, hz1, hz2⟩ := info_parts Tryz.infoPage
  obtain ⟨w1, hmk, hown, hgr⟩ := run_make_full (P := Tryz.prog) W W.heap.size 76 45 i0 _ 6 Tryz.underlying76 hi hz0 hz1 .i64 .i64 12 (by rw [hz2]; omega) (by unfold maxLen; omega) (Nat.le_refl _)
  have hc : ∀ k, k < 12 → ∀ j (v : Value), (pcl Pg.none none 0)[j]? = some v → w1.cell? ⟨W.heap.size, k * 6 + j, none⟩ = some v := fun k hk j v hv => by
    have hj : j < 6 := (List.getElem?_eq_some_iff.1 hv).1
    rw [hown.cellAt (k * 6 + j) (by omega)]
    have e : ((Value.agg #[.int .i64 0, .int .i64 0, .int .i64 0, .int .i64 0, .string ⟨#[]⟩, .slice none 0 0]).cells) = #[.int .i64 0, .int .i64 0, .int .i64 0, .int .i64 0, .string ⟨#[]⟩, .slice none 0 0] := rfl
    rw [e]
    unfold madeCells
    simp only [Array.toList_map, Array.toList_range, List.getElem?_map, List.getElem?_range (show k * 6 + j < 12 * 6 by omega), Option.map_some]
    rw [show (k * 6 + j) % (#[Value.int .i64 0, .int .i64 0, .int .i64 0, .int .i64 0, .string ⟨#[]⟩, .slice none 0 0] : Array Value).size = j by show (k * 6 + j) % 6 = j; omega]
    rw [← hv]
    match j, hj with
    | 0, _ => rfl
    | 1, _ => rfl
    | 2, _ => rfl
    | 3, _ => rfl
    | 4, _ => rfl
    | 5, _ => rfl
  refine ⟨w1, hmk, ⟨fun k hk => ⟨0, none, 0, hc k hk, Strs.nil _ _ _⟩, fun k => hown.frozenAt k, ?_⟩, Only.grown hgr (fun k hk => by cases hk)⟩
  have hh : w1.cell? ⟨W.heap.size, 0 * 6 + 0, none⟩ = some (.int .i64 0) := hc 0 (by omega) 0 _ rfl
  exact World.block_lt_of_cell? w1 _ hh
/-- A page is laid in its place. -/
theorem Las.put {w W : World} {b : Nat} {C : Nat → Option Pg} (h : Las w W b C) (n : Nat) (hn : n < 12) (body : Pg) (B : Nat) (ab : Option Addr) (cb : Nat) (hS : Strs w B ab body.items) : Las w (W.setCells b (n * 6) (pcl body ab cb)) b (fun k => if k = n then some body else C k) ∧ Only (fun k => k = b) W (W.setCells b (n * 6) (pcl body ab cb)) := by
  have ho : Only (fun k => k = b) W (W.setCells b (n * 6) (pcl body ab cb)) := only_cells8 b (pcl body ab cb) (n * 6) W
  refine ⟨⟨fun k hk => ?_, fun k => by rw [World.frozen?_setCells]; exact h.fz k, Nat.lt_of_lt_of_le h.lt ho.size⟩, ho⟩
  by_cases e : k = n
  · subst e
    rw [if_pos rfl]
    obtain ⟨B2, ao2, cp2, h1, h2⟩ := h.at_ k hk
    refine ⟨B, ab, cb, World.rangeAt_setCells_same W b (k * 6) _ (fun q hq => ⟨h1.isSome q hq, h.fz _⟩), hS⟩
  · rw [if_neg e]
    obtain ⟨B2, ao2, cp2, h1, h2⟩ := h.at_ k hk
    refine ⟨B2, ao2, cp2, World.rangeAt_setCells_apart h1 b (n * 6) _ (.inr ?_), h2⟩
    show k * 6 + 6 ≤ n * 6 ∨ n * 6 + 6 ≤ k * 6
    omega
theorem Iss.put {W : World} {b : Nat} {C : Nat → Option Pg} (h : Iss W b C) (n : Nat) (hn : n < 12) (body : Pg) : Iss (W.setCell ⟨b, n, none⟩ (.bool true)) b (fun k => if k = n then some body else C k) := by
  refine ⟨fun k hk => ?_, fun k => by simpa using h.fz k, by simpa using h.lt⟩
  by_cases e : k = n
  · subst e
    rw [if_pos rfl]
    exact World.cell?_setCell_same _ _ _ (h.at_ k hk)
  · rw [if_neg e]
    exact (World.cell?_setCell_other _ _ _ _ (by intro e2; injection e2 with _ e2; exact e e2.symm)).trans (h.at_ k hk)
theorem setCells6 (W : World) (fb o : Nat) (v0 v1 v2 v3 v4 v5 : Value) : W.setCells fb o [v0, v1, v2, v3, v4, v5] = (((((W.setCell ⟨fb, o, none⟩ v0).setCell ⟨fb, o + 1, none⟩ v1).setCell ⟨fb, o + 2, none⟩ v2).setCell ⟨fb, o + 3, none⟩ v3).setCell ⟨fb, o + 4, none⟩ v4).setCell ⟨fb, o + 5, none⟩ v5 := rfl
theorem load_pgo {w : World} {b o : Nat} {p : Pg} {ao : Option Addr} {cp : Nat} (h : w.rangeAt b o (pcl p ao cp)) : (loadVar 45 ⟨b, o, none⟩).run Tryz.prog w = .ok (.agg #[.int .i64 p.lsn, .int .i64 p.kind, .int .i64 p.level, .int .i64 p.right, .string p.high, .slice ao p.items.length cp]) w := by
  have c0 : w.cell? ⟨b, o, none⟩ = _ := h 0 _ rfl
  have c1 := h 1 _ rfl
  have c2 := h 2 _ rfl
  have c3 := h 3 _ rfl
  have c4 := h 4 _ rfl
  have c5 := h 5 _ rfl
  simp [loadVar, go_sem, c0, c1, c2, c3, c4, c5]
theorem yieldsIf_load_pgo {ops : Array Oper} {S : World → Prop} {op : Oper} {a : Act} {p : Pg} {ao : Option Addr} {cp : Nat} (hw : Region.wanted op (yielded ops a.tmps) = true) (x : Operand) (ho : op.op = .load 45 x)
    (b o : Nat) (hx : a.eval x = .pointer (some ⟨b, o, none⟩)) (hS : ∀ w, S w → w.rangeAt b o (pcl p ao cp)) : YieldsIf Tryz.prog ops S op (.agg #[.int .i64 p.lsn, .int .i64 p.kind, .int .i64 p.level, .int .i64 p.right, .string p.high, .slice ao p.items.length cp]) a :=
  .inl ⟨hw, fun w hw' => by
    unfold execOp
    simp only [ho, hx, Instr.loadAt, Instr.sureAddr, Sem.run_bind, Sem.run_pure, Result.andThen_ok, load_pgo (hS w hw')]⟩
theorem ld_bool {w : World} {p : Addr} {v : Value} (h : w.cell? p = some v) : (loadVar 4 p).run Tryz.prog w = .ok v w := by simp [loadVar, go_sem, h]
/-- One pool and the two rows; X the blocks of the law's own. -/
structure Kp (w W : World) (p d l lb ib : Nat) (X : Nat → Prop) (t fl : Nat) (C K Ca : Nat → Option Pg) : Prop where
  ow : Oq w W p d l X t fl C K
  is : Iss W ib Ca
  la : Las w W lb Ca
  xl : X lb
  xi : X ib
  ne : lb ≠ ib
theorem kp_on {w W W' : World} {p d l lb ib : Nat} {X : Nat → Prop} {t t' fl : Nat} {C C' K Ca : Nat → Option Pg} (h : Kp w W p d l lb ib X t fl C K Ca) (hn : On w W W' p d l X t' C') : ∃ fl' K', Kp w W' p d l lb ib X t' fl' C' K' Ca ∧ Only (Kx w X) W W' := by
  obtain ⟨fl', K', h1, h2⟩ := hn
  exact ⟨fl', K', ⟨h1, h.is.kept h2 (fun e => e.1 h.xi), h.la.kept h2 (fun e => e.1 h.xl), h.xl, h.xi, h.ne⟩, h2⟩
theorem Kp.more {w W W' : World} {p d l lb ib : Nat} {X : Nat → Prop} {t fl : Nat} {C K Ca : Nat → Option Pg} (h : Kp w W p d l lb ib X t fl C K Ca) (ho : Only (fun _ => False) W W') : Kp w W' p d l lb ib X t fl C K Ca := ⟨h.ow.more ho, h.is.kept ho (fun e => e), h.la.kept ho (fun e => e), h.xl, h.xi, h.ne⟩
theorem Kp.down {w W : World} {p d l lb ib : Nat} {X X' : Nat → Prop} {t fl : Nat} {C K Ca : Nat → Option Pg} (h : Kp w W p d l lb ib X t fl C K Ca) (hX : ∀ k, X' k → X k) (hl : X' lb) (hi : X' ib) : Kp w W p d l lb ib X' t fl C K Ca := ⟨h.ow.down hX, h.is, h.la, hl, hi, h.ne⟩
theorem Kp.var {w W : World} {p d l lb ib : Nat} {X : Nat → Prop} {t fl : Nat} {C K Ca : Nat → Option Pg} (h : Kp w W p d l lb ib X t fl C K Ca) (o : Obj) : Kp w (W.alloc o) p d l lb ib (fun k => X k ∨ k = W.heap.size) t fl C K Ca := ⟨h.ow.var o, h.is.kept (onlyA W o) (fun e => e), h.la.kept (onlyA W o) (fun e => e), .inl h.xl, .inl h.xi, h.ne⟩
/-- A variable of the law's own is changed. -/
theorem Kp.own {w W W' : World} {p d l lb ib b : Nat} {X : Nat → Prop} {t fl : Nat} {C K Ca : Nat → Option Pg} (h : Kp w W p d l lb ib X t fl C K Ca) (ho : Only (fun k => k = b) W W') (hb : X b) (h1 : lb ≠ b) (h2 : ib ≠ b) : Kp w W' p d l lb ib X t fl C K Ca :=
  ⟨h.ow.kept (ho.mono (fun _ _ e => e ▸ hb)) (fun _ e => .inl e), h.is.kept ho h2, h.la.kept ho h1, h.xl, h.xi, h.ne⟩
/-- The two rows behind a Set. -/
theorem Kp.put {w W : World} {p d l lb ib : Nat} {X : Nat → Prop} {t fl : Nat} {C K Ca : Nat → Option Pg} (h : Kp w W p d l lb ib X t fl C K Ca) (n : Nat) (hn : n < 12) (body : Pg) (B : Nat) (ab : Option Addr) (cb : Nat) (hS : Strs w B ab body.items) (hC : C = fun k => if k = n then some body else Ca k) :
    Kp w ((W.setCells lb (n * 6) (pcl body ab cb)).setCell ⟨ib, n, none⟩ (.bool true)) p d l lb ib X t fl C K C ∧ Only (fun k => k = lb ∨ k = ib) W ((W.setCells lb (n * 6) (pcl body ab cb)).setCell ⟨ib, n, none⟩ (.bool true)) := by
  obtain ⟨l1, l2⟩ := h.la.put n hn body B ab cb hS
  have o2' : Only (fun k => k = ib) (W.setCells lb (n * 6) (pcl body ab cb)) ((W.setCells lb (n * 6) (pcl body ab cb)).setCell ⟨ib, n, none⟩ (.bool true)) := Only.setCell (S := fun k => k = ib) _ ⟨ib, n, none⟩ _ rfl
  have o12 : Only (fun k => k = lb ∨ k = ib) W ((W.setCells lb (n * 6) (pcl body ab cb)).setCell ⟨ib, n, none⟩ (.bool true)) := (l2.mono (fun k _ e => .inl e)).trans (o2'.mono (fun k _ e => .inr e)) (fun _ _ e => e)
  subst hC
  exact ⟨⟨h.ow.kept (o12.mono (fun k _ e => by rcases e with e | e; exact e ▸ h.xl; exact e ▸ h.xi)) (fun _ e => .inl e), (h.is.kept l2 (fun e => h.ne e.symm)).put n hn body, l1.kept o2' h.ne, h.xl, h.xi, h.ne⟩, o12⟩
theorem kp_start {w W : World} {p d l : Nat} {F : Nat → Prop} {t fl : Nat} {C K : Nat → Option Pg} {lb ib : Nat} (h : Pw w W p d l F t fl C K) (hl : w.heap.size ≤ lb ∧ ¬ F lb) (hi : w.heap.size ≤ ib ∧ ¬ F ib) (h1 : Iss W ib C) (h2 : Las w W lb C) (hne : lb ≠ ib) : Kp w W p d l lb ib (fun k => k = lb ∨ k = ib) t fl C K C :=
  ⟨⟨⟨F, h, fun k e => by rcases e with e | e <;> subst e; exact hl.2; exact hi.2⟩, fun k e => by rcases e with e | e <;> subst e; exact ⟨hl.1, h2.lt⟩; exact ⟨hi.1, h1.lt⟩, h.only⟩, h1, h2, .inl rfl, .inr rfl, hne⟩
end Go.Proofs.YtbfafijfhaejmaaGreatDoor

namespace Go.Proofs.YtbfafijfhaejmaaGreatDoor
open Go.RowKit

theorem fresh_writes (cs : List (List UInt8)) : ∀ (D : Dk) (k j : Nat), (j < k ∨ k + cs.length ≤ j) → (D.writes k cs).1.fresh j = D.fresh j := by
  induction cs with
  | nil => exact fun D k j _ => rfl
  | cons b r ih =>
    intro D k j hj
    rw [List.length_cons] at hj
    have h1 : (D.put k b).act.fresh j = D.fresh j := by
      show (if j = k then some b else D.fresh j) = D.fresh j
      rw [if_neg (by omega)]
    unfold Dk.writes
    split
    · exact h1
    · rw [ih _ (k + 1) j (by omega), h1]
/-- Sectors that a write does not reach are pending behind it if they were. -/
theorem fresh_write (D : Dk) (a c : Nat) (l : List UInt8) (hl : l.length = 64 * c) (j : Nat) (hj : j < a ∨ a + c ≤ j) : (D.write (a : Int) l).1.fresh j = D.fresh j := by
  unfold Dk.write
  split
  · rfl
  · split
    · rw [Int.toNat_natCast]
      refine fresh_writes _ D a j ?_
      rw [chunks_len, hl]
      omega
    · rfl
theorem fresh_lays (G : Lg) (hn : 0 < G.n) (hb : ∀ k, (G.block k).length ≤ 54) (c : Nat) : ∀ (k : Nat) (D : Dk) (j : Nat), (j < G.frm ∨ G.frm + G.n ≤ j) → (G.lays k c D).1.fresh j = D.fresh j := by
  induction c with
  | zero => exact fun k D j _ => rfl
  | succ c ih =>
    intro k D j hj
    have hm := Nat.mod_lt k hn
    have h1 : (G.lay1 k D).1.fresh j = D.fresh j := fresh_write D (G.frm + k % G.n) 1 (holdL k (G.block k)) (by rw [hold_len k _ (hb k)]) j (by omega)
    rw [lays_step]
    split
    · rw [ih (k + 1) _ j hj, h1]
    · exact h1
/-- Behind a sync that goes through nothing is pending. -/
theorem fresh_sync {D : Dk} {N : Nat} {f : Nat → List UInt8} (h : D.Wk N f) (j : Nat) : D.sync.1.fresh j = none := by
  unfold Dk.sync
  rw [h.dead, if_neg (by simp), h.armed, if_neg (by decide)]
  rfl
/-- Behind a flush that has something to do nothing is pending. -/
theorem fresh_fl (G : Lg) (hn : 0 < G.n) (N : Nat) (hN : G.frm + G.n ≤ N) (D : Dk) (f : Nat → List UInt8) (h : D.Wk N f) (hne : G.flushed ≠ G.tail) (j : Nat) : (G.fl D).1.fresh j = none := by
  unfold Lg.fl
  rw [if_neg hne]
  obtain ⟨h1, f1, h2, h3⟩ := lays_out G hn N hN (fun k => by unfold Lg.block; rw [List.length_take]; omega) ((G.tail - 2) / 54 + 1 - (G.flushed - 1) / 54) ((G.flushed - 1) / 54) D f h
  unfold Lg.flush
  simp only [h1, if_true]
  rw [if_pos h2.sync.1]
  exact fresh_sync h2 j
/-- What is not owed lasts. -/
def Owe (P : Pl) (D : Dk) : Prop := ∀ k, k < P.pages → P.ow k = none → (∀ i, i < P.fs.length → (P.get i).num = (k : Int) → (P.get i).chg = false) ∧ ∀ i, i < 8 → D.fresh (P.frm + 8 * k + i) = none
theorem owe_new (n pages frames : Nat) (D : Dk) (hD : ∀ j, D.fresh j = none) : Owe (Pl.new n pages frames) D := by
  intro k hk _
  refine ⟨fun i hi _ => ?_, fun i hi => hD _⟩
  unfold Pl.get Pl.new
  rw [List.getD_eq_getElem?_getD]
  by_cases e : i < frames
  · simp [e]; rfl
  · simp [e]; rfl
/-- The table behind a sync. -/
theorem owe_synced (P : Pl) (D : Dk) (hD : ∀ j, D.fresh j = none) : Owe P.synced D := by
  intro k hk ho
  refine ⟨fun i hi he => ?_, fun i hi => hD _⟩
  have hi' : i < P.fs.length := hi
  cases hc : (P.get i).chg with
  | false => exact hc
  | true =>
    exfalso
    have : ∃ f ∈ P.fs, f.chg = true ∧ f.num = (k : Int) := ⟨P.get i, by rw [← get_at hi']; exact List.getElem_mem hi', hc, he⟩
    unfold Pl.synced at ho
    simp only [this, if_true] at ho
    cases ho
/-- A changed frame is written: its page is owed. -/
theorem owe_write {N : Nat} {P : Pl} {D : Dk} {G : Lg} {C K : Nat → Option Pg} (h : Inv N P D G C K) (ho : Owe P D) (i : Nat) (hi : i < P.fs.length) (hc : (P.get i).chg = true) : Owe (P.write D G i (P.get i)).P (P.write D G i (P.get i)).D := by
  obtain ⟨n0, n1, n2⟩ : 0 ≤ (P.get i).num ∧ (P.get i).num < (P.pages : Int) ∧ C (P.get i).num.toNat = some (P.get i).pg := by
    rcases h.fr i hi with e | e
    · rw [hc] at e; cases e.2
    · exact e
  obtain ⟨v1, v2, v3⟩ := h.va _ _ n2
  have hout : (P.get i).pg.out.2 = 0 := by rw [out_ok v1.rng v1.fit]
  have hsz := h.sz
  have hN : P.frm + 8 * (P.get i).num.toNat + 8 ≤ N := by omega
  have hl := (enc_512 (P.get i).pg hout).2
  obtain ⟨f, f1, f2⟩ := h.dk
  have key : ∀ (P1 : Pl) (D1 : Dk) (G1 : Lg) (f1 : Nat → List UInt8), D1.Wk N f1 → P1.fs = P.fs → P1.frm = P.frm → P1.pages = P.pages → Owe P1 D1 → Owe (P1.wr D1 G1 i (P.get i)).P (P1.wr D1 G1 i (P.get i)).D := by
    intro P1 D1 G1 g1 hW e1 e2 e3 ho1
    obtain ⟨b1, b2, b3, b4⟩ := wr_out P1 G1 i (P.get i) N D1 g1 hW hout (by rw [e2]; exact hN)
    have hD : (P1.wr D1 G1 i (P.get i)).D = (D1.write ((P1.frm + 8 * (P.get i).num.toNat : Nat) : Int) (P.get i).pg.enc).1 := by
      unfold Pl.wr
      split <;> rfl
    rw [b2, hD]
    have hi1 : i < P1.fs.length := by rw [e1]; exact hi
    have hg1 : P1.get i = P.get i := by unfold Pl.get; rw [e1]
    have hg := get_set (P := P1) (P' := P1.setF i { P.get i with chg := false }) hi1 rfl
    intro k hk how
    obtain ⟨c1, c2⟩ := ho1 k hk how
    have hkn : k ≠ (P.get i).num.toNat := by
      intro e
      have := c1 i hi1 (by rw [hg1, e]; omega)
      rw [hg1, hc] at this
      cases this
    refine ⟨fun j hj he => ?_, fun q hq => ?_⟩
    · rw [hg j] at he ⊢
      split
      · rfl
      · rename_i ej
        rw [if_neg ej] at he
        exact c1 j (by rw [← len_set (P := P1) (P' := P1.setF i { P.get i with chg := false }) rfl]; exact hj) he
    · show (D1.write ((P1.frm + 8 * (P.get i).num.toNat : Nat) : Int) (P.get i).pg.enc).1.fresh (P1.frm + 8 * k + q) = none
      rw [fresh_write D1 (P1.frm + 8 * (P.get i).num.toNat) 8 _ (by omega) _ (by omega)]
      exact c2 q hq
  unfold Pl.write
  split
  · rename_i hf
    have hne : G.flushed ≠ G.tail := by omega
    obtain ⟨a1, a2, f3, a3, a4⟩ := fl_out G h.gn N (by have := h.gf; omega) D f f1
    rw [if_pos a1]
    exact key P.synced (G.fl D).1 _ f3 a3 rfl rfl rfl (owe_synced P _ (fresh_fl G h.gn N (by have := h.gf; omega) D f f1 hne))
  · exact key P D G f f1 rfl rfl rfl ho
theorem owe_bring {P P' : Pl} {D : Dk} (ho : Owe P D) (i : Nat) (hi : i < P.fs.length) (F : Fm) (hF : F.chg = false) (hfs : P'.fs = P.fs.set i F) (hfm : P'.frm = P.frm) (hpg : P'.pages = P.pages) (how : P'.ow = P.ow) : Owe P' D := by
  have hg := get_set hi hfs
  intro k hk hw
  obtain ⟨c1, c2⟩ := ho k (by rw [← hpg]; exact hk) (by rw [← how]; exact hw)
  refine ⟨fun j hj he => ?_, fun q hq => by rw [hfm]; exact c2 q hq⟩
  rw [hg j] at he ⊢
  split
  · exact hF
  · rename_i ej
    rw [if_neg ej] at he
    exact c1 j (by rw [← len_set hfs]; exact hj) he
theorem owe_take {N : Nat} {P : Pl} {D : Dk} {G : Lg} {C K : Nat → Option Pg} (h : Inv N P D G C K) (ho : Owe P D) (pick : Int) : Owe (P.take D G pick).1.P (P.take D G pick).1.D := by
  unfold Pl.take
  split
  · exact ho
  · obtain ⟨j, hj⟩ : ∃ j, (pick % (P.fs.length : Int)).toNat = j := ⟨_, rfl⟩
    have hl := h.ln
    have hjl : j < P.fs.length := by
      have h1 := Int.emod_lt_of_pos pick (show (0 : Int) < (P.fs.length : Int) by omega)
      have h2 := Int.emod_nonneg pick (show (P.fs.length : Int) ≠ 0 by omega)
      omega
    rw [hj]
    unfold Pl.takeAt
    by_cases hc : (P.get j).chg = true
    · rw [if_pos hc]
      obtain ⟨a1, a2, a3, a4, K', a5⟩ := inv_write h j hjl hc
      rw [if_pos a1]
      exact owe_bring (owe_write h ho j hjl hc) j (by rw [len_set a2]; exact hjl) Fm.none rfl rfl rfl rfl rfl
    · rw [if_neg hc]
      exact owe_bring ho j hjl Fm.none rfl rfl rfl rfl rfl
theorem owe_setAt {P : Pl} {D : Dk} (ho : Owe P D) (i : Nat) (hi : i < P.fs.length) (n : Nat) (body : Pg) : Owe (P.setAt i n body) D := by
  obtain ⟨s1, s2, s3⟩ := setAt_fs P i n body
  have hg := get_set hi s1
  have how : ∀ k, (P.setAt i n body).ow k = none → k ≠ n ∧ P.ow k = none := by
    intro k hk
    unfold Pl.setAt at hk
    split at hk
    · rename_i hs
      refine ⟨fun e => ?_, hk⟩
      have hk' : P.ow k = none := hk
      rw [e] at hk'
      rw [hk'] at hs
      cases hs
    · have hk' : (if k = n then some body.lsn else P.ow k) = none := hk
      split at hk'
      · cases hk'
      · rename_i e
        exact ⟨e, hk'⟩
  intro k hk hw
  obtain ⟨e, hw'⟩ := how k hw
  obtain ⟨c1, c2⟩ := ho k (by rw [← s3]; exact hk) hw'
  refine ⟨fun j hj he => ?_, fun q hq => by rw [s2]; exact c2 q hq⟩
  rw [hg j] at he ⊢
  by_cases ej : j = i
  · rw [if_pos ej] at he
    exact absurd (show (n : Int) = (k : Int) from he) (by omega)
  · rw [if_neg ej] at he ⊢
    exact c1 j (by rw [← len_set s1]; exact hj) he
theorem owe_set {N : Nat} {P : Pl} {D : Dk} {G : Lg} {C K : Nat → Option Pg} (h : Inv N P D G C K) (ho : Owe P D) (n : Nat) (hn : n < P.pages) (body : Pg) (pick : Int) : Owe (P.set D G (n : Int) body pick).P (P.set D G (n : Int) body pick).D := by
  unfold Pl.set
  rw [if_neg (has_in hn)]
  split
  · exact ho
  · split
    · rename_i i hi
      exact owe_setAt ho i (idx_some hi).1 _ body
    · obtain ⟨i, K', t1, t2, t3, _⟩ := inv_take h pick
      rw [t1]
      exact owe_setAt (owe_take h ho pick) i (by rw [t3.len]; exact t2) _ body
theorem owe_fetch {N : Nat} {P : Pl} {D : Dk} {G : Lg} {C K : Nat → Option Pg} (h : Inv N P D G C K) (ho : Owe P D) (n : Nat) (hn : n < P.pages) (pick : Int) : Owe (P.fetch D G (n : Int) pick).1.P (P.fetch D G (n : Int) pick).1.D := by
  unfold Pl.fetch
  rw [if_neg (has_in hn)]
  split
  · exact ho
  · split
    · exact ho
    · obtain ⟨i, K', t1, t2, t3, _⟩ := inv_take h pick
      rw [t1]
      exact owe_bring (owe_take h ho pick) i (by rw [t3.len]; exact t2) _ rfl rfl rfl rfl rfl
theorem owe_writeN {N : Nat} {P : Pl} {D : Dk} {G : Lg} {C K : Nat → Option Pg} (h : Inv N P D G C K) (ho : Owe P D) (n : Nat) (hn : n < P.pages) : Owe (P.writeN D G (n : Int)).P (P.writeN D G (n : Int)).D := by
  unfold Pl.writeN
  rw [if_neg (has_in hn)]
  split
  · rename_i i hi
    split
    · rename_i hc
      exact owe_write h ho i (idx_some hi).1 hc
    · exact ho
  · exact ho
/-- A crash keeps the sectors that are not pending. -/
theorem falls_other (f : Nat → Option (List UInt8)) (how : List Int) (j : Nat) : ∀ (ks : List Nat) (i : Nat) (o : List (List UInt8)), j ∉ ks → (falls f how ks i o).getD j [] = o.getD j [] ∧ (falls f how ks i o).length = o.length := by
  intro ks
  induction ks with
  | nil => exact fun i o _ => ⟨rfl, rfl⟩
  | cons k r ih =>
    intro i o hj
    rw [List.mem_cons, not_or] at hj
    unfold falls
    obtain ⟨a, b⟩ := ih (i + 1) (o.set k (fell (o.getD k []) ((f k).getD []) (how.getD i 0))) hj.2
    rw [a, b, getD_set, if_neg (fun e => hj.1 e.1)]
    exact ⟨rfl, by simp⟩
theorem falls_length (f : Nat → Option (List UInt8)) (how : List Int) : ∀ (ks : List Nat) (i : Nat) (o : List (List UInt8)), (falls f how ks i o).length = o.length := by
  intro ks
  induction ks with
  | nil => exact fun i o => rfl
  | cons k r ih =>
    intro i o
    unfold falls
    rw [ih]
    simp
theorem crash_wk {D : Dk} {N : Nat} {f : Nat → List UInt8} (h : D.Wk N f) (how : List Int) : (D.crash how).Wk N (D.crash how).cur ∧ ∀ j, j < N → D.fresh j = none → (D.crash how).cur j = f j := by
  refine ⟨⟨rfl, rfl, by show (falls D.fresh how D.pend 0 D.old).length = N; rw [falls_length, h.len], fun _ _ => rfl⟩, fun j hj hf => ?_⟩
  have hp : j ∉ D.pend := by
    unfold Dk.pend
    rw [List.mem_filter, hf]
    exact fun e => by cases e.2
  show (falls D.fresh how D.pend 0 D.old).getD j [] = f j
  rw [(falls_other D.fresh how j D.pend 0 D.old hp).1, ← h.cur j hj]
  unfold Dk.cur
  rw [hf]
  rfl
/-- What a page that is not owed is read as behind any crash. -/
theorem owe_crash {N : Nat} {P : Pl} {D : Dk} {G : Lg} {C K : Nat → Option Pg} (h : Inv N P D G C K) (ho : Owe P D) (how : List Int) (k : Nat) (hk : k < P.pages) (hw : P.ow k = none) : (D.crash how).Wk N (D.crash how).cur ∧ ∀ i, i < 8 → (D.crash how).cur (P.frm + 8 * k + i) = lies (C k) i := by
  obtain ⟨f, f1, f2⟩ := h.dk
  obtain ⟨c1, c2⟩ := ho k hk hw
  obtain ⟨a, b⟩ := crash_wk f1 how
  have hs := h.sz
  refine ⟨a, fun i hi => ?_⟩
  rw [b _ (by omega) (c2 i hi), f2 k hk i hi, h.kc k c1]
end Go.Proofs.YtbfafijfhaejmaaGreatDoor

namespace Go.Proofs.YtbfafijfhaejmaaGreatDoor
open Go.RowKit

/-- A pool told by its pages: C as they were set, K as they lie on the disk; t the log's tail, fl what lasts of it; F its blocks. -/
structure Po (w W : World) (p d l : Nat) (F : Nat → Prop) (t fl : Nat) (C K : Nat → Option Pg) : Prop where
  ex : ∃ fb mb g m P D G v7 v8 T, Sw w W p d l fb mb g m P D G v7 v8 T ∧ Inv 2000 P D G C K ∧ Owe P D ∧ (P.frm = 200 ∧ P.pages = 12) ∧ (G.tail = t ∧ G.flushed = fl ∧ G.n = 200 ∧ G.frm = 0 ∧ G.start = 1 ∧ G.reserved = 0 ∧ G.places.length ≤ t ∧ G.stream.length ≤ t) ∧ ∀ k, foot W p d l fb mb g m v7 v8 T k → F k
  lt : ∀ k, F k → w.heap.size ≤ k ∧ k < W.heap.size
  only : Only (fun _ => False) w W
theorem Po.kept {S : Nat → Prop} {w W W' : World} {p d l : Nat} {F : Nat → Prop} {t fl : Nat} {C K : Nat → Option Pg} (h : Po w W p d l F t fl C K) (ho : Only S W W') (hS : ∀ k, F k → ¬ S k) (hw : Only (fun _ => False) w W') : Po w W' p d l F t fl C K := by
  obtain ⟨fb, mb, g, m, P, D, G, v7, v8, T, h1, h2, hO, h3, h4, h5⟩ := h.ex
  exact ⟨⟨fb, mb, g, m, P, D, G, v7, v8, _, h1.kept ho (fun k hk => hS k (h5 k hk)) hw, h2, hO, h3, h4, fun k hk => h5 k (foot_kept k hk)⟩, fun k hk => ⟨(h.lt k hk).1, Nat.lt_of_lt_of_le (h.lt k hk).2 ho.size⟩, hw⟩
theorem Po.more {w W W' : World} {p d l : Nat} {F : Nat → Prop} {t fl : Nat} {C K : Nat → Option Pg} (h : Po w W p d l F t fl C K) (ho : Only (fun _ => False) W W') : Po w W' p d l F t fl C K := h.kept ho (fun _ _ e => e) (o2 h.only ho)
/-- What a call leaves. -/
def Pm (w W W' : World) (p d l : Nat) (F : Nat → Prop) (t : Nat) (C : Nat → Option Pg) : Prop := ∃ F' fl K, Po w W' p d l F' t fl C K ∧ (∀ k, F' k → F k ∨ W.heap.size ≤ k) ∧ Only F W W'
theorem pm_mk {w W W' : World} {p d l : Nat} {F : Nat → Prop} {t t' fl : Nat} {C C' K K' : Nat → Option Pg} (h : Po w W p d l F t fl C K) {fb mb mb' g m : Nat} {P' : Pl} {D' : Dk} {G' : Lg} {v7 v8 v7' v8' : Value} {T T' : Nat → Prop} (hf : ∀ k, foot W p d l fb mb g m v7 v8 T k → F k) (hS : Sw w W' p d l fb mb' g m P' D' G' v7' v8' T') (hI : Inv 2000 P' D' G' C' K') (hW : Owe P' D') (hP : P'.frm = 200 ∧ P'.pages = 12) (hG : G'.tail = t' ∧ G'.n = 200 ∧ G'.frm = 0 ∧ G'.start = 1 ∧ G'.reserved = 0 ∧ G'.places.length ≤ t' ∧ G'.stream.length ≤ t')
    (hT : ∀ k, T' k → T k) (hm : mb' = mb ∨ W.heap.size ≤ mb') (h7 : ∀ k, v7'.ownBlock = some k → v7.ownBlock = some k ∨ W.heap.size ≤ k) (h8 : ∀ k, v8'.ownBlock = some k → v8.ownBlock = some k ∨ W.heap.size ≤ k) {S : Nat → Prop} (ho : Only S W W') (hSf : ∀ k, S k → foot W p d l fb mb g m v7 v8 T k) : Pm w W W' p d l F t' C' := by
  have hsz := h.only.size
  have hsz' := ho.size
  refine ⟨fun k => F k ∨ W.heap.size ≤ k ∧ k < W'.heap.size, G'.flushed, K', ⟨⟨fb, mb', g, m, P', D', G', v7', v8', T', hS, hI, hW, hP, ⟨hG.1, rfl, hG.2⟩, fun k hk => ?_⟩, fun k hk => ?_, hS.only⟩, fun k hk => ?_, ho.mono (fun k _ hk => hf k (hSf k hk))⟩
  · rcases foot_back hT hm h7 h8 k hk with e | e
    · exact .inl (hf k e)
    · exact .inr ⟨e, hS.foot_lt k hk⟩
  · rcases hk with e | e
    · have := h.lt k e; omega
    · omega
  · rcases hk with e | e
    · exact .inl e
    · exact .inr e.1
theorem po_append {w W : World} {p d l : Nat} {F : Nat → Prop} {t fl : Nat} {C K : Nat → Option Pg} (h : Po w W p d l F t fl C K) (ht : t ≤ 9000) :
    Calls Tryz.prog 18 #[.pointer (some ⟨l, 0, none⟩), .agg (nt.cells Loc.none)] W fun e w' => e = .returned (.tuple #[.int .i64 (t : Int), .int .i64 0]) ∧ Pm w W w' p d l F (t + (nt.at_ (t : Int)).enc.length) C := by
  obtain ⟨fb, mb, g, m, P, D, G, v7, v8, T, h1, h2, hO, h3, ⟨g1, g2, g3, g4, g5, g6, g7, g8⟩, h5⟩ := h.ex
  have hn := nt_len t
  have hok := h1.ok
  have ht1 : 1 ≤ t := by have := hok.st; have := hok.tl; omega
  have hsl := hok.ln
  have htb := h1.tb
  have hx := sw_append2 h1 (by rw [g1]; exact nt_valid t ht1 (by omega)) (by rw [g1]; unfold Lg.room; rw [g1, g3, g5, g6]; omega) (by omega)
    (by
      rw [g1]
      refine ⟨hok.st, ?_, ?_, ?_, hok.n4, hok.nb, hok.fb, hok.rs, ?_⟩
      · show G.start ≤ G.tail + _; have := hok.tl; omega
      · show G.tail + (nt.at_ (t : Int)).enc.length < _; omega
      · show G.flushed ≤ G.tail + _; have := hok.fl; omega
      · show (G.stream ++ (nt.at_ (t : Int)).enc).length < _
        rw [List.length_append]
        omega) (by rw [g1]; show G.tail + (nt.at_ (t : Int)).enc.length < _; omega)
  rw [g1] at hx
  refine Calls.mono hx ?_
  rintro e w' ⟨he, v7', v8', T', hS, hT, k7, k8, ho⟩
  refine ⟨he, pm_mk h h5 hS (inv_app h2 rfl rfl (by show G.tail ≤ G.tail + _; omega) rfl) hO h3 ⟨by show G.tail + _ = _; rw [g1], g3, g4, g5, g6, by show (G.places ++ [_]).length ≤ _; rw [List.length_append]; simp; omega, by show (G.stream ++ _).length ≤ _; rw [List.length_append]; omega⟩ hT (.inl rfl) k7 k8 ho (fun k hk => ?_)⟩
  rcases hk with e | e | e
  · exact .inr (.inl e)
  · exact .inr (.inr (.inr (.inr (.inr (.inl e.symm)))))
  · exact .inr (.inr (.inr (.inr (.inr (.inr (.inl e.symm))))))
theorem po_set {w W : World} {p d l : Nat} {F : Nat → Prop} {t fl : Nat} {C K : Nat → Option Pg} (h : Po w W p d l F t fl C K) (n : Nat) (hn : n < 12) (pick : Int) (body : Pg) (Bb : Nat) (ab : Option Addr) (cb : Nat) (hS : Strs W Bb ab body.items) (hB : 0 < body.items.length → ¬ F Bb) (hh : body.high.size ≤ 140737488355328) (hl : body.lsn < (t : Int)) :
    Calls Tryz.prog 21 #[.pointer (some ⟨p, 0, none⟩), .int .i64 (n : Int), .agg #[.int .i64 body.lsn, .int .i64 body.kind, .int .i64 body.level, .int .i64 body.right, .string body.high, .slice ab body.items.length cb], .int .i64 pick] W fun e w' =>
      e = .returned (.int .i64 body.setC) ∧ Pm w W w' p d l F t (setP C n body) := by
  obtain ⟨fb, mb, g, m, P, D, G, v7, v8, T, h1, h2, hO, h3, ⟨g1, g2, g3, g4, g5, g6, g7, g8⟩, h5⟩ := h.ex
  have htb := h1.tb
  have hl2 : body.lsn < 9223372036854775808 := by omega
  have hn' : n < P.pages := by omega
  obtain ⟨B, ao, cp, hv, hs⟩ := h1.sh
  refine (oset_any W p d l fb mb g m P D G B ao cp v8 T hs h1.pok (n : Int) pick body Bb ab cb hS (fun h0 => ?_) hh hl2).mono ?_
  · have hF := hB h0
    exact ⟨fun e => hF (h5 _ (.inl e)), fun e => hF (h5 _ (.inr (.inl e))), fun e => hF (h5 _ (.inr (.inr (.inl e)))), fun e => hF (h5 _ (.inr (.inr (.inr (.inl e))))), fun e => hF (h5 _ (.inr (.inr (.inr (.inr (.inl e))))))⟩
  · rintro e w' ⟨rfl, hr⟩
    have ho := hr.choose_spec.choose_spec.2.2.2.2
    have hal := alike_set P D G (n : Int) body pick
    obtain ⟨mb', T', hS', hT, hm⟩ := h1.back2 hv hr (ok_set h1.pok _ _ _ _ _) hal
    obtain ⟨t1, t2, t3, t4, t5, t6, t7⟩ := alike_tail hal
    have hG : (P.set D G (n : Int) body pick).G.tail = t ∧ (P.set D G (n : Int) body pick).G.n = 200 ∧ (P.set D G (n : Int) body pick).G.frm = 0 ∧ (P.set D G (n : Int) body pick).G.start = 1 ∧ (P.set D G (n : Int) body pick).G.reserved = 0 ∧ (P.set D G (n : Int) body pick).G.places.length ≤ t ∧ (P.set D G (n : Int) body pick).G.stream.length ≤ t := ⟨t1.trans g1, t2.trans g3, t3.trans g4, t4.trans g5, t5.trans g6, by rw [t6]; exact g7, by rw [t7]; exact g8⟩
    by_cases hb : body.setC = 0
    · obtain ⟨a1, a2, K', a3⟩ := inv_set h2 n hn' body pick hb hl2 (by omega)
      refine ⟨by rw [a1, hb], pm_mk h h5 hS' (by unfold setP; rw [if_pos hb]; exact a3) (owe_set h2 hO n hn' body pick) ⟨a2.frm.trans h3.1, a2.pages.trans h3.2⟩ hG hT hm (fun k e => .inl e) (fun k e => .inl e) ho (fun k hk => foot_pw k hk)⟩
    · have a := set_bad (D := D) (G := G) n hn' body pick hb
      refine ⟨by rw [a], pm_mk h h5 hS' (K' := K) (by unfold setP; rw [if_neg hb, a]; exact h2) (owe_set h2 hO n hn' body pick) (by rw [a]; exact h3) hG hT hm (fun k e => .inl e) (fun k e => .inl e) ho (fun k hk => foot_pw k hk)⟩
theorem po_fetch {w W : World} {p d l : Nat} {F : Nat → Prop} {t fl : Nat} {C K : Nat → Option Pg} (h : Po w W p d l F t fl C K) (n : Nat) (hn : n < 12) (pick : Int) :
    Calls Tryz.prog 15 #[.pointer (some ⟨p, 0, none⟩), .int .i64 (n : Int), .int .i64 pick] W fun e w' =>
      ∃ Bq aq cq, e = .returned (.tuple #[.agg #[.int .i64 (fetP (C n)).lsn, .int .i64 (fetP (C n)).kind, .int .i64 (fetP (C n)).level, .int .i64 (fetP (C n)).right, .string (fetP (C n)).high, .slice aq (fetP (C n)).items.length cq], .int .i64 (fetC (C n))]) ∧ Strs w' Bq aq (fetP (C n)).items ∧ Fit aq (fetP (C n)).items.length cq ∧ (0 < (fetP (C n)).items.length → W.heap.size ≤ Bq) ∧ Pm w W w' p d l F t C := by
  obtain ⟨fb, mb, g, m, P, D, G, v7, v8, T, h1, h2, hO, h3, ⟨g1, g2, g3, g4, g5, g6, g7, g8⟩, h5⟩ := h.ex
  obtain ⟨B, ao, cp, hv, hs⟩ := h1.sh
  obtain ⟨a1, a2, a3, K', a4⟩ := inv_fetch h2 n (by omega) pick
  refine (ofetch_any W p d l fb mb g m P D G B ao cp v8 T hs h1.pok (n : Int) pick).mono ?_
  rintro e w' ⟨Bq, aq, cq, rfl, b1, b2, b3, hr⟩
  have ho := hr.choose_spec.choose_spec.2.2.2.2
  have hal := alike_fetch P D G (n : Int) pick
  obtain ⟨mb', T', hS', hT, hm⟩ := h1.back2 hv hr (ok_fetch h1.pok _ _ _ _) hal
  obtain ⟨t1, t2, t3, t4, t5, t6, t7⟩ := alike_tail hal
  have hG : (P.fetch D G (n : Int) pick).1.G.tail = t ∧ (P.fetch D G (n : Int) pick).1.G.n = 200 ∧ (P.fetch D G (n : Int) pick).1.G.frm = 0 ∧ (P.fetch D G (n : Int) pick).1.G.start = 1 ∧ (P.fetch D G (n : Int) pick).1.G.reserved = 0 ∧ (P.fetch D G (n : Int) pick).1.G.places.length ≤ t ∧ (P.fetch D G (n : Int) pick).1.G.stream.length ≤ t := ⟨t1.trans g1, t2.trans g3, t3.trans g4, t4.trans g5, t5.trans g6, by rw [t6]; exact g7, by rw [t7]; exact g8⟩
  rw [a2] at b1 b2 b3
  rw [a1, a2]
  exact ⟨Bq, aq, cq, rfl, b1, b2, b3, pm_mk h h5 hS' a4 (owe_fetch h2 hO n (by omega) pick) ⟨a3.frm.trans h3.1, a3.pages.trans h3.2⟩ hG hT hm (fun k e => .inl e) (fun k e => .inl e) ho (fun k hk => foot_pw k hk)⟩
theorem po_write {w W : World} {p d l : Nat} {F : Nat → Prop} {t fl : Nat} {C K : Nat → Option Pg} (h : Po w W p d l F t fl C K) (n : Nat) (hn : n < 12) :
    Calls Tryz.prog 23 #[.pointer (some ⟨p, 0, none⟩), .int .i64 (n : Int)] W fun e w' => e = .returned (.int .i64 0) ∧ Pm w W w' p d l F t C := by
  obtain ⟨fb, mb, g, m, P, D, G, v7, v8, T, h1, h2, hO, h3, ⟨g1, g2, g3, g4, g5, g6, g7, g8⟩, h5⟩ := h.ex
  obtain ⟨B, ao, cp, hv, hs⟩ := h1.sh
  obtain ⟨a1, a3, K', a4⟩ := inv_writeN h2 n (by omega)
  refine (oWrite_any W p d l fb mb g m P D G B ao cp v8 T hs h1.pok (n : Int)).mono ?_
  rintro e w' ⟨rfl, hr⟩
  have ho := hr.choose_spec.choose_spec.2.2.2.2
  have hal := alike_writeN P D G (n : Int)
  obtain ⟨mb', T', hS', hT, hm⟩ := h1.back2 hv hr (ok_writeN h1.pok _ _ _) hal
  obtain ⟨t1, t2, t3, t4, t5, t6, t7⟩ := alike_tail hal
  exact ⟨by rw [a1], pm_mk h h5 hS' a4 (owe_writeN h2 hO n (by omega)) ⟨a3.frm.trans h3.1, a3.pages.trans h3.2⟩ ⟨t1.trans g1, t2.trans g3, t3.trans g4, t4.trans g5, t5.trans g6, by rw [t6]; exact g7, by rw [t7]; exact g8⟩ hT hm (fun k e => .inl e) (fun k e => .inl e) ho (fun k hk => foot_pw k hk)⟩
end Go.Proofs.YtbfafijfhaejmaaGreatDoor

namespace Go.Proofs.YtbfafijfhaejmaaGreatDoor
open Go.RowKit

/-- One pool apart from the blocks X. -/
structure Oo (w W : World) (p d l : Nat) (X : Nat → Prop) (t fl : Nat) (C K : Nat → Option Pg) : Prop where
  ex : ∃ F, Po w W p d l F t fl C K ∧ ∀ k, X k → ¬ F k
  x : ∀ k, X k → w.heap.size ≤ k ∧ k < W.heap.size
  only : Only (fun _ => False) w W
/-- What a call leaves. -/
def Om (w W W' : World) (p d l : Nat) (X : Nat → Prop) (t : Nat) (C : Nat → Option Pg) : Prop := ∃ fl K, Oo w W' p d l X t fl C K ∧ Only (Kx w X) W W'
theorem om_mk {w W W' : World} {p d l : Nat} {X F : Nat → Prop} {t t' fl : Nat} {C C' K : Nat → Option Pg} (h : Oo w W p d l X t fl C K) (h1 : Po w W p d l F t fl C K) (h4 : ∀ k, X k → ¬ F k) (hn : Pm w W W' p d l F t' C') : Om w W W' p d l X t' C' := by
  obtain ⟨F', fl', K', n1, n2, n3⟩ := hn
  refine ⟨fl', K', ⟨⟨F', n1, fun k hk e => ?_⟩, fun k hk => ⟨(h.x k hk).1, Nat.lt_of_lt_of_le (h.x k hk).2 n3.size⟩, n1.only⟩, n3.mono (fun k _ hk => ⟨fun e => h4 k e hk, (h1.lt k hk).1⟩)⟩
  rcases n2 k e with e1 | e1
  · exact h4 k hk e1
  · have := (h.x k hk).2; omega
theorem Oo.kept {w W W' : World} {p d l : Nat} {X X' : Nat → Prop} {t fl : Nat} {C K : Nat → Option Pg} (h : Oo w W p d l X t fl C K) (ho : Only X W W') (hX : ∀ k, X' k → X k ∨ W.heap.size ≤ k ∧ k < W'.heap.size) : Oo w W' p d l X' t fl C K := by
  obtain ⟨F, h1, h4⟩ := h.ex
  have hw : Only (fun _ => False) w W' := h.only.trans ho (fun k hk e => by have := (h.x k e).1; omega)
  have hsz := ho.size
  have hz := h.only.size
  refine ⟨⟨F, h1.kept ho (fun k hk e => h4 k e hk) hw, fun k hk => ?_⟩, fun k hk => ?_, hw⟩
  · rcases hX k hk with e | e
    · exact h4 k e
    · exact fun e2 => by have := (h1.lt k e2).2; omega
  · rcases hX k hk with e | e
    · have := h.x k e; omega
    · omega
theorem Oo.more {w W W' : World} {p d l : Nat} {X : Nat → Prop} {t fl : Nat} {C K : Nat → Option Pg} (h : Oo w W p d l X t fl C K) (ho : Only (fun _ => False) W W') : Oo w W' p d l X t fl C K := h.kept (ho.mono (fun _ _ e => e.elim)) (fun _ e => .inl e)
theorem Oo.down {w W : World} {p d l : Nat} {X X' : Nat → Prop} {t fl : Nat} {C K : Nat → Option Pg} (h : Oo w W p d l X t fl C K) (hX : ∀ k, X' k → X k) : Oo w W p d l X' t fl C K := h.kept (Only.refl _ _) (fun k e => .inl (hX k e))
theorem Oo.var {w W : World} {p d l : Nat} {X : Nat → Prop} {t fl : Nat} {C K : Nat → Option Pg} (h : Oo w W p d l X t fl C K) (o : Obj) : Oo w (W.alloc o) p d l (fun k => X k ∨ k = W.heap.size) t fl C K :=
  h.kept ((onlyA W o).mono (fun _ _ e => e.elim)) (fun k e => by
    rcases e with e | e
    · exact .inl e
    · exact .inr ⟨by omega, by simp; omega⟩)
theorem oo_append {w W : World} {p d l : Nat} {X : Nat → Prop} {t fl : Nat} {C K : Nat → Option Pg} (h : Oo w W p d l X t fl C K) (ht : t ≤ 9000) :
    Calls Tryz.prog 18 #[.pointer (some ⟨l, 0, none⟩), .agg (nt.cells Loc.none)] W fun e w' => e = .returned (.tuple #[.int .i64 (t : Int), .int .i64 0]) ∧ Om w W w' p d l X (ntl t) C := by
  obtain ⟨F, h1, h4⟩ := h.ex
  exact (po_append h1 ht).mono fun e w' hx => ⟨hx.1, om_mk h h1 h4 hx.2⟩
theorem oo_set {w W : World} {p d l : Nat} {X : Nat → Prop} {t fl : Nat} {C K : Nat → Option Pg} (h : Oo w W p d l X t fl C K) (n : Nat) (hn : n < 12) (pick : Int) (body : Pg) (Bb : Nat) (ab : Option Addr) (cb : Nat) (hS : Strs w Bb ab body.items) (hh : body.high.size ≤ 140737488355328) (hl : body.lsn < (t : Int)) :
    Calls Tryz.prog 21 #[.pointer (some ⟨p, 0, none⟩), .int .i64 (n : Int), .agg #[.int .i64 body.lsn, .int .i64 body.kind, .int .i64 body.level, .int .i64 body.right, .string body.high, .slice ab body.items.length cb], .int .i64 pick] W fun e w' =>
      e = .returned (.int .i64 body.setC) ∧ Om w W w' p d l X t (setP C n body) := by
  obtain ⟨F, h1, h4⟩ := h.ex
  exact (po_set h1 n hn pick body Bb ab cb (hS.more h.only) (fun h0 e => by have := (h1.lt Bb e).1; have := hS.lt h0; omega) hh hl).mono fun e w' hx => ⟨hx.1, om_mk h h1 h4 hx.2⟩
theorem oo_fetch {w W : World} {p d l : Nat} {X : Nat → Prop} {t fl : Nat} {C K : Nat → Option Pg} (h : Oo w W p d l X t fl C K) (n : Nat) (hn : n < 12) (pick : Int) (pg : Pg) (c : Int) (hp : fetP (C n) = pg) (hc : fetC (C n) = c) :
    Calls Tryz.prog 15 #[.pointer (some ⟨p, 0, none⟩), .int .i64 (n : Int), .int .i64 pick] W fun e w' =>
      ∃ Bq aq cq, e = .returned (.tuple #[.agg #[.int .i64 pg.lsn, .int .i64 pg.kind, .int .i64 pg.level, .int .i64 pg.right, .string pg.high, .slice aq pg.items.length cq], .int .i64 c]) ∧ Strs w' Bq aq pg.items ∧ Om w W w' p d l X t C := by
  subst hp hc
  obtain ⟨F, h1, h4⟩ := h.ex
  refine (po_fetch h1 n hn pick).mono ?_
  rintro e w' ⟨Bq, aq, cq, he, b1, b2, b3, hx⟩
  exact ⟨Bq, aq, cq, he, b1, om_mk h h1 h4 hx⟩
theorem oo_write {w W : World} {p d l : Nat} {X : Nat → Prop} {t fl : Nat} {C K : Nat → Option Pg} (h : Oo w W p d l X t fl C K) (n : Nat) (hn : n < 12) : Calls Tryz.prog 23 #[.pointer (some ⟨p, 0, none⟩), .int .i64 (n : Int)] W fun e w' => e = .returned (.int .i64 0) ∧ Om w W w' p d l X t C := by
  obtain ⟨F, h1, h4⟩ := h.ex
  exact (po_write h1 n hn).mono fun e w' hx => ⟨hx.1, om_mk h h1 h4 hx.2⟩
/-- Behind a sync of the disk: nothing is pending. -/
def Cln (w W : World) (p d l : Nat) (F : Nat → Prop) (t fl : Nat) (C K : Nat → Option Pg) : Prop := ∃ fb mb g m P D G v7 v8 T, Sw w W p d l fb mb g m P D G v7 v8 T ∧ Inv 2000 P D G C K ∧ (P.frm = 200 ∧ P.pages = 12) ∧ (G.tail = t ∧ G.flushed = fl ∧ G.n = 200 ∧ G.frm = 0 ∧ G.start = 1 ∧ G.reserved = 0 ∧ G.places.length ≤ t ∧ G.stream.length ≤ t) ∧ (∀ k, foot W p d l fb mb g m v7 v8 T k → F k) ∧ ∀ j, D.fresh j = none
structure Oc (w W : World) (p d l : Nat) (X : Nat → Prop) (t : Nat) (C : Nat → Option Pg) : Prop where
  ex : ∃ F fl K, Po w W p d l F t fl C K ∧ (∀ k, X k → ¬ F k) ∧ Cln w W p d l F t fl C K
  x : ∀ k, X k → w.heap.size ≤ k ∧ k < W.heap.size
theorem oo_sync {w W : World} {p d l : Nat} {X : Nat → Prop} {t fl : Nat} {C K : Nat → Option Pg} (h : Oo w W p d l X t fl C K) : Calls Tryz.prog 25 #[.pointer (some ⟨d, 0, none⟩)] W fun e w' => e = .returned (.int .i64 0) ∧ Oc w w' p d l X t C ∧ Only (Kx w X) W w' := by
  obtain ⟨F, hp, h4⟩ := h.ex
  obtain ⟨fb, mb, g, m, P, D, G, v7, v8, T, h1, h2, hO, h3, hG, h5⟩ := hp.ex
  obtain ⟨a1, a2⟩ := inv_sync h2
  obtain ⟨f, f1, f2⟩ := h2.dk
  refine (sync_any W d g m D h1.dsk).mono ?_
  rintro e w' ⟨rfl, hD, ho⟩
  have hS : Sw w w' p d l fb mb g m P D.sync.1 G v7 v8 T :=
    ⟨h1.pool.kept ho h1.xp.1 h1.xf.1 h1.xm.1 (fun B hB => (h1.xT B hB).1), hD, h1.log.kept ho h1.xl (fun k hk => (h1.x7 k hk).1) (fun k hk => (h1.x8 k hk).1), h1.ok, h1.sf, h1.tb, h1.pok, h1.xp, h1.xf, h1.xm, h1.xT, h1.xl, h1.x7, h1.x8, h1.only.trans ho (fun k hk e => by have := h1.lo.2.2.2.2 k e; omega), h1.lo⟩
  have hI : Inv 2000 P D.sync.1 G C K := ⟨a2.sz, a2.gn, a2.gf, a2.gl, a2.ln, a2.fr, a2.ne, a2.va, a2.kc, a2.kv, a2.dk⟩
  have hW : Owe P D.sync.1 := fun k hk hw => ⟨(hO k hk hw).1, fun i _ => fresh_sync f1 _⟩
  have hft : ∀ k, foot w' p d l fb mb g m v7 v8 T k → F k ∨ W.heap.size ≤ k ∧ k < w'.heap.size := fun k hk => by
    rcases foot_back (fun _ e => e) (.inl rfl) (fun _ e => .inl e) (fun _ e => .inl e) k hk with e | e
    · exact .inl (h5 k e)
    · exact .inr ⟨e, hS.foot_lt k hk⟩
  have hsz := ho.size
  have hsz0 := hp.only.size
  refine ⟨by rw [a1], ⟨⟨fun k => F k ∨ W.heap.size ≤ k ∧ k < w'.heap.size, G.flushed, K, ⟨⟨fb, mb, g, m, P, _, G, v7, v8, T, hS, hI, hW, h3, ⟨hG.1, rfl, hG.2.2⟩, hft⟩, fun k hk => ?_, hS.only⟩, fun k hk e => ?_, ⟨fb, mb, g, m, P, _, G, v7, v8, T, hS, hI, h3, ⟨hG.1, rfl, hG.2.2⟩, hft, fun j => fresh_sync f1 j⟩⟩, fun k hk => ⟨(h.x k hk).1, Nat.lt_of_lt_of_le (h.x k hk).2 ho.size⟩⟩, ho.mono (fun k _ hk => ⟨fun e => h4 k e (h5 k (.inl hk)), (hp.lt k (h5 k (.inl hk))).1⟩)⟩
  · rcases hk with e | e
    · have := hp.lt k e; omega
    · omega
  · rcases e with e | e
    · exact h4 k hk e
    · have := (h.x k hk).2; omega
theorem oc_synced {w W : World} {p d l : Nat} {X : Nat → Prop} {t : Nat} {C : Nat → Option Pg} (h : Oc w W p d l X t C) : Calls Tryz.prog 27 #[.pointer (some ⟨p, 0, none⟩)] W fun e w' => e = .returned (.tuple #[]) ∧ Om w W w' p d l X t C := by
  obtain ⟨F, fl, K, hp, h4, fb, mb, g, m, P, D, G, v7, v8, T, h1, h2, h3, ⟨g1, g2, g3, g4, g5, g6, g7, g8⟩, h5, hcl⟩ := h.ex
  obtain ⟨B, ao, cp, hv, hs⟩ := h1.sh
  refine (sh_synced hs).mono ?_
  rintro e w' ⟨rfl, hs', ho⟩
  have hr : ShR W w' p d l fb mb g m B ao cp v8 T ⟨0, P.synced, D, G⟩ := ⟨W.heap.size, _, hs', fun k e => e.1, fun k hk e => ⟨e, by omega⟩, .inr (Nat.le_refl _), ho.mono (fun k _ e => .inr (.inr (.inl e)))⟩
  obtain ⟨mb', T', hS', hT, hm⟩ := h1.back2 hv hr (ok_synced h1.pok) (Lg.Alike.refl G)
  have hn := pm_mk hp h5 hS' (K' := K) ⟨h2.sz, h2.gn, h2.gf, h2.gl, h2.ln, h2.fr, h2.ne, h2.va, h2.kc, h2.kv, h2.dk⟩ (owe_synced P D hcl) h3 ⟨g1, g3, g4, g5, g6, g7, g8⟩ hT hm (fun k e => .inl e) (fun k e => .inl e) ho (fun k hk => .inr (.inr (.inl hk)))
  exact ⟨rfl, om_mk ⟨⟨F, hp, h4⟩, h.x, hp.only⟩ hp h4 hn⟩
/-- One pool and the two rows; X the blocks of the law's own. -/
structure Ko (w W : World) (p d l lb ib : Nat) (X : Nat → Prop) (t fl : Nat) (C K Ca : Nat → Option Pg) : Prop where
  ow : Oo w W p d l X t fl C K
  is : Iss W ib Ca
  la : Las w W lb Ca
  xl : X lb
  xi : X ib
  ne : lb ≠ ib
theorem ko_on {w W W' : World} {p d l lb ib : Nat} {X : Nat → Prop} {t t' fl : Nat} {C C' K Ca : Nat → Option Pg} (h : Ko w W p d l lb ib X t fl C K Ca) (hn : Om w W W' p d l X t' C') : ∃ fl' K', Ko w W' p d l lb ib X t' fl' C' K' Ca ∧ Only (Kx w X) W W' := by
  obtain ⟨fl', K', h1, h2⟩ := hn
  exact ⟨fl', K', ⟨h1, h.is.kept h2 (fun e => e.1 h.xi), h.la.kept h2 (fun e => e.1 h.xl), h.xl, h.xi, h.ne⟩, h2⟩
theorem Ko.more {w W W' : World} {p d l lb ib : Nat} {X : Nat → Prop} {t fl : Nat} {C K Ca : Nat → Option Pg} (h : Ko w W p d l lb ib X t fl C K Ca) (ho : Only (fun _ => False) W W') : Ko w W' p d l lb ib X t fl C K Ca := ⟨h.ow.more ho, h.is.kept ho (fun e => e), h.la.kept ho (fun e => e), h.xl, h.xi, h.ne⟩
theorem Ko.down {w W : World} {p d l lb ib : Nat} {X X' : Nat → Prop} {t fl : Nat} {C K Ca : Nat → Option Pg} (h : Ko w W p d l lb ib X t fl C K Ca) (hX : ∀ k, X' k → X k) (hl : X' lb) (hi : X' ib) : Ko w W p d l lb ib X' t fl C K Ca := ⟨h.ow.down hX, h.is, h.la, hl, hi, h.ne⟩
theorem Ko.var {w W : World} {p d l lb ib : Nat} {X : Nat → Prop} {t fl : Nat} {C K Ca : Nat → Option Pg} (h : Ko w W p d l lb ib X t fl C K Ca) (o : Obj) : Ko w (W.alloc o) p d l lb ib (fun k => X k ∨ k = W.heap.size) t fl C K Ca := ⟨h.ow.var o, h.is.kept (onlyA W o) (fun e => e), h.la.kept (onlyA W o) (fun e => e), .inl h.xl, .inl h.xi, h.ne⟩
/-- A variable of the law's own is changed. -/
theorem Ko.own {w W W' : World} {p d l lb ib b : Nat} {X : Nat → Prop} {t fl : Nat} {C K Ca : Nat → Option Pg} (h : Ko w W p d l lb ib X t fl C K Ca) (ho : Only (fun k => k = b) W W') (hb : X b) (h1 : lb ≠ b) (h2 : ib ≠ b) : Ko w W' p d l lb ib X t fl C K Ca :=
  ⟨h.ow.kept (ho.mono (fun _ _ e => e ▸ hb)) (fun _ e => .inl e), h.is.kept ho h2, h.la.kept ho h1, h.xl, h.xi, h.ne⟩
/-- The two rows behind a Set. -/
theorem Ko.put {w W : World} {p d l lb ib : Nat} {X : Nat → Prop} {t fl : Nat} {C K Ca : Nat → Option Pg} (h : Ko w W p d l lb ib X t fl C K Ca) (n : Nat) (hn : n < 12) (body : Pg) (B : Nat) (ab : Option Addr) (cb : Nat) (hS : Strs w B ab body.items) (hC : C = fun k => if k = n then some body else Ca k) :
    Ko w ((W.setCells lb (n * 6) (pcl body ab cb)).setCell ⟨ib, n, none⟩ (.bool true)) p d l lb ib X t fl C K C ∧ Only (fun k => k = lb ∨ k = ib) W ((W.setCells lb (n * 6) (pcl body ab cb)).setCell ⟨ib, n, none⟩ (.bool true)) := by
  obtain ⟨l1, l2⟩ := h.la.put n hn body B ab cb hS
  have o2' : Only (fun k => k = ib) (W.setCells lb (n * 6) (pcl body ab cb)) ((W.setCells lb (n * 6) (pcl body ab cb)).setCell ⟨ib, n, none⟩ (.bool true)) := Only.setCell (S := fun k => k = ib) _ ⟨ib, n, none⟩ _ rfl
  have o12 : Only (fun k => k = lb ∨ k = ib) W ((W.setCells lb (n * 6) (pcl body ab cb)).setCell ⟨ib, n, none⟩ (.bool true)) := (l2.mono (fun k _ e => .inl e)).trans (o2'.mono (fun k _ e => .inr e)) (fun _ _ e => e)
  subst hC
  exact ⟨⟨h.ow.kept (o12.mono (fun k _ e => by rcases e with e | e; exact e ▸ h.xl; exact e ▸ h.xi)) (fun _ e => .inl e), (h.is.kept l2 (fun e => h.ne e.symm)).put n hn body, l1.kept o2' h.ne, h.xl, h.xi, h.ne⟩, o12⟩
theorem ko_start {w W : World} {p d l : Nat} {F : Nat → Prop} {t fl : Nat} {C K : Nat → Option Pg} {lb ib : Nat} (h : Po w W p d l F t fl C K) (hl : w.heap.size ≤ lb ∧ ¬ F lb) (hi : w.heap.size ≤ ib ∧ ¬ F ib) (h1 : Iss W ib C) (h2 : Las w W lb C) (hne : lb ≠ ib) : Ko w W p d l lb ib (fun k => k = lb ∨ k = ib) t fl C K C :=
  ⟨⟨⟨F, h, fun k e => by rcases e with e | e <;> subst e; exact hl.2; exact hi.2⟩, fun k e => by rcases e with e | e <;> subst e; exact ⟨hl.1, h2.lt⟩; exact ⟨hi.1, h1.lt⟩, h.only⟩, h1, h2, .inl rfl, .inr rfl, hne⟩
end Go.Proofs.YtbfafijfhaejmaaGreatDoor

namespace Go.Proofs.YtbfafijfhaejmaaGreatDoor
open Go.RowKit

/-- A log is laid on it. -/
theorem st_log2 {w W : World} {d g m N n : Nat} (hD : Dsk W d g m (Dk.new N)) (ho : Only (fun _ => False) w W) (hk : ∀ k, own d g m k → w.heap.size ≤ k ∧ k < W.heap.size) (hn : 4 ≤ n) (hnN : n ≤ N) :
    Calls Tryz.prog 10 #[.pointer (some ⟨d, 0, none⟩), .int .i64 ((0 : Nat) : Int), .int .i64 (n : Int)] W fun e w' => ∃ l D, e = .returned (.tuple #[.pointer (some ⟨l, 0, none⟩), .int .i64 0]) ∧ D.Wk N (fun _ => zs64) ∧ (∀ j, D.fresh j = none) ∧ Dsk w' d g m D ∧ LogOw w' l d (Lg.new 0 n) w.heap.size (.slice none 0 0) (.slice none 0 0) ∧ ¬ own d g m l ∧ w.heap.size ≤ l ∧ Only (fun _ => False) w w' ∧ (∀ k, own d g m k → w.heap.size ≤ k ∧ k < w'.heap.size) := by
  have hx := st_zero (Dk.Wk.new N) hnN
  have hf : fitsB (Dk.new N).old.length ((0 : Nat) : Int) (n : Int) = true := by
    rw [(Dk.Wk.new N).len]
    unfold fitsB
    simp
    omega
  refine Calls.mono (format_ok W d g m (Dk.new N) hD 0 n hf hx.1 hx.2.1) ?_
  rintro e w' ⟨l, he, hD', hL, hl, ho'⟩
  have hs := ho.size
  have hfr : ∀ j, ((Dk.new N).write ((0 : Nat) : Int) (List.replicate (n * 64) 0)).1.sync.1.fresh j = none := fun j => fresh_sync ((Dk.Wk.new N).write 0 n (List.replicate (n * 64) 0) (by rw [List.length_replicate]; omega) (by omega)).2 j
  refine ⟨l, _, he, hx.2.2, hfr, hD', hL.owned, fun e => ?_, by omega, ho.trans ho' (fun i hi e => ?_), fun k hk' => ⟨(hk k hk').1, Nat.lt_of_lt_of_le (hk k hk').2 ho'.size⟩⟩
  · have := (hk l e).2; omega
  · have := (hk i e).1; omega
theorem fo_log {w W : World} {d g m : Nat} (hD : Dsk W d g m (Dk.new 2000)) (ho : Only (fun _ => False) w W) (hk : ∀ k, own d g m k → w.heap.size ≤ k ∧ k < W.heap.size) :
    Calls Tryz.prog 10 #[.pointer (some ⟨d, 0, none⟩), .int .i64 0, .int .i64 200] W fun e w' => ∃ l D, e = .returned (.tuple #[.pointer (some ⟨l, 0, none⟩), .int .i64 0]) ∧ D.Wk 2000 (fun _ => zs64) ∧ (∀ j, D.fresh j = none) ∧ Dsk w' d g m D ∧ LogOw w' l d (Lg.new 0 200) w.heap.size (.slice none 0 0) (.slice none 0 0) ∧ ¬ own d g m l ∧ w.heap.size ≤ l ∧ Only (fun _ => False) w w' ∧ (∀ k, own d g m k → w.heap.size ≤ k ∧ k < w'.heap.size) :=
  st_log2 (N := 2000) (n := 200) hD ho hk (by omega) (by omega)
theorem fo_pool {w W : World} {d g m l : Nat} {D : Dk} (hW : D.Wk 2000 (fun _ => zs64)) (hfr : ∀ j, D.fresh j = none) (hD : Dsk W d g m D) (hL : LogOw W l d (Lg.new 0 200) w.heap.size (.slice none 0 0) (.slice none 0 0)) (hnl : ¬ own d g m l) (hlw : w.heap.size ≤ l) (ho : Only (fun _ => False) w W) (hk : ∀ k, own d g m k → w.heap.size ≤ k ∧ k < W.heap.size) (n : Nat) (h1 : 1 ≤ n) (h2 : n ≤ 6) :
    Calls Tryz.prog 12 #[.pointer (some ⟨d, 0, none⟩), .pointer (some ⟨l, 0, none⟩), .int .i64 200, .int .i64 12, .int .i64 (n : Int)] W fun e w' => ∃ p F, e = .returned (.tuple #[.pointer (some ⟨p, 0, none⟩), .int .i64 0]) ∧ Po w w' p d l F 1 1 (fun _ => none) (fun _ => none) := by
  refine Calls.mono (st_pool2 (N := 2000) (n := 200) (pages := 12) (frames := n) hW hD hL hnl hlw ho hk (by omega) (by omega) (by omega) (by omega) (by omega) (by omega) (by omega)) ?_
  rintro e w' ⟨p, fb, mb, T, he, hS, hT⟩
  have hlo := hS.lo
  have hl : ∀ k, foot w' p d l fb mb g m (.slice none 0 0) (.slice none 0 0) T k → w.heap.size ≤ k := fun k e => by
    rcases e with e | e | e | e | e | e | e | e
    · exact hlo.2.2.2.2 k e
    · omega
    · omega
    · omega
    · omega
    · cases e
    · cases e
    · have := hT k e.1; have := e.2; omega
  exact ⟨p, foot w' p d l fb mb g m (.slice none 0 0) (.slice none 0 0) T, he, ⟨⟨fb, mb, g, m, _, _, _, _, _, T, hS, inv_new hW (by omega) (by omega) h1, owe_new _ _ _ _ hfr, ⟨rfl, rfl⟩, ⟨rfl, rfl, rfl, rfl, rfl, rfl, by show 0 ≤ 1; omega, by show 0 ≤ 1; omega⟩, fun k e => e⟩, fun k e => ⟨hl k e, hS.foot_lt k e⟩, hS.only⟩⟩
/-- A pool and its disk at the end of the acts. -/
structure Px (w W : World) (p d l : Nat) (X : Nat → Prop) (C : Nat → Option Pg) (P : Pl) (D : Dk) (g m : Nat) : Prop where
  ex : ∃ fb mb G v7 v8 T, Sw w W p d l fb mb g m P D G v7 v8 T ∧ ∀ k, X k → ¬ foot W p d l fb mb g m v7 v8 T k
  inv : ∃ G K, Inv 2000 P D G C K
  owe : Owe P D
  pp : P.frm = 200 ∧ P.pages = 12
  x : ∀ k, X k → w.heap.size ≤ k ∧ k < W.heap.size
  only : Only (fun _ => False) w W
theorem px_of {w W : World} {p d l : Nat} {X : Nat → Prop} {t fl : Nat} {C K : Nat → Option Pg} (h : Oo w W p d l X t fl C K) : ∃ P D g m, Px w W p d l X C P D g m := by
  obtain ⟨F, hp, h4⟩ := h.ex
  obtain ⟨fb, mb, g, m, P, D, G, v7, v8, T, h1, h2, hO, h3, hG, h5⟩ := hp.ex
  exact ⟨P, D, g, m, ⟨fb, mb, G, v7, v8, T, h1, fun k hk e => h4 k hk (h5 k e)⟩, ⟨G, K, h2⟩, hO, h3, h.x, h.only⟩
theorem Px.kept {w W W' : World} {p d l : Nat} {X X' : Nat → Prop} {C : Nat → Option Pg} {P : Pl} {D : Dk} {g m : Nat} (h : Px w W p d l X C P D g m) (ho : Only X W W') (hX : ∀ k, X' k → X k ∨ W.heap.size ≤ k ∧ k < W'.heap.size) : Px w W' p d l X' C P D g m := by
  obtain ⟨fb, mb, G, v7, v8, T, h1, h2⟩ := h.ex
  have hw : Only (fun _ => False) w W' := h.only.trans ho (fun k hk e => by have := (h.x k e).1; omega)
  have hsz := ho.size
  have hz := h.only.size
  refine ⟨⟨fb, mb, G, v7, v8, _, h1.kept ho (fun k hk e => h2 k e hk) hw, fun k hk e => ?_⟩, h.inv, h.owe, h.pp, fun k hk => ?_, hw⟩
  · have e' := foot_kept k e
    rcases hX k hk with e1 | e1
    · exact h2 k e1 e'
    · have := h1.foot_lt k e'; omega
  · rcases hX k hk with e | e
    · have := h.x k e; omega
    · omega
theorem Px.more {w W W' : World} {p d l : Nat} {X : Nat → Prop} {C : Nat → Option Pg} {P : Pl} {D : Dk} {g m : Nat} (h : Px w W p d l X C P D g m) (ho : Only (fun _ => False) W W') : Px w W' p d l X C P D g m := h.kept (ho.mono (fun _ _ e => e.elim)) (fun _ e => .inl e)
theorem px_owes {w W : World} {p d l : Nat} {X : Nat → Prop} {C : Nat → Option Pg} {P : Pl} {D : Dk} {g m : Nat} (h : Px w W p d l X C P D g m) (k : Nat) (hk : k < 12) : Calls Tryz.prog 40 #[.pointer (some ⟨p, 0, none⟩), .int .i64 (k : Int)] W fun e w' => e = .returned (.bool (P.ow k).isSome) ∧ w' = W := by
  obtain ⟨fb, mb, G, v7, v8, T, h1, h2⟩ := h.ex
  exact owes_any W p d l fb mb P T h1.pool k (by have := h.pp.2; omega)
theorem px_crash {w W : World} {p d l : Nat} {X : Nat → Prop} {C : Nat → Option Pg} {P : Pl} {D : Dk} {g m : Nat} (h : Px w W p d l X C P D g m) (B : Nat) (ao : Option Addr) (cp : Nat) (how : List Int) (hI : Ints w B ao how) : Calls Tryz.prog 45 #[.pointer (some ⟨d, 0, none⟩), .slice ao how.length cp] W fun e w' => e = .returned (.tuple #[]) ∧ Dsk w' d g m (D.crash how) ∧ Only (Kx w X) W w' ∧ Only (fun _ => False) w w' := by
  obtain ⟨fb, mb, G, v7, v8, T, h1, h2⟩ := h.ex
  have hlo := h1.lo.2.2.2.2
  refine (crash_any W d g m D h1.dsk B ao cp how (hI.kept h.only (fun _ e => e)) (fun h0 e => by have := hlo B e; have := hI.lt h0; omega)).mono ?_
  rintro e w' ⟨he, hD, ho⟩
  exact ⟨he, hD, ho.mono (fun k _ e => ⟨fun e2 => h2 k e2 (.inl e), hlo k e⟩), h.only.trans ho (fun k hk e => by have := hlo k e; omega)⟩
theorem px_read {w W : World} {p d l : Nat} {X : Nat → Prop} {C : Nat → Option Pg} {P : Pl} {D : Dk} {g m : Nat} (h : Px w W p d l X C P D g m) (how : List Int) (k : Nat) (hk : k < 12) (q : Pg) (hq : C k = some q) (hw : (P.ow k).isSome = false) : ∃ ll, (D.crash how).read (200 + 8 * (k : Int)) 8 = (ll, 0) ∧ dec ll = (q, 0) := by
  obtain ⟨G, K, hI⟩ := h.inv
  have h1 := h.pp.1
  have h2 := h.pp.2
  have h3 := hI.sz
  obtain ⟨a, b⟩ := owe_crash hI h.owe how k (by omega) (by cases e : P.ow k with | none => rfl | some v => rw [e] at hw; cases hw)
  obtain ⟨ll, c1, c2⟩ := read_lies a (P.frm + 8 * k) (by omega) (C k) (fun r hr => (hI.va k r hr).1) b
  rw [h1, show (((200 + 8 * k : Nat)) : Int) = 200 + 8 * (k : Int) by omega] at c1
  exact ⟨ll, c1, by rw [c2, hq]; rfl⟩
/-- A row of twelve answers, in block b. -/
structure Bls (W : World) (b : Nat) (q : Nat → Bool) : Prop where
  at_ : ∀ k, k < 12 → W.cell? ⟨b, k, none⟩ = some (.bool (q k))
  fz : ∀ k, W.frozen? ⟨b, k, none⟩ = false
  lt : b < W.heap.size
theorem Bls.kept {S : Nat → Prop} {W W' : World} {b : Nat} {q : Nat → Bool} (h : Bls W b q) (ho : Only S W W') (hS : ¬ S b) : Bls W' b q :=
  ⟨fun k hk => (ho.cell (p := ⟨b, k, none⟩) h.lt hS).trans (h.at_ k hk), fun k => (ho.frozen (p := ⟨b, k, none⟩) h.lt hS).trans (h.fz k), Nat.lt_of_lt_of_le h.lt ho.size⟩
theorem Bls.put {W : World} {b : Nat} {q : Nat → Bool} {k : Nat} (h : Bls W b (fun j => if j < k then q j else false)) (hk : k < 12) : Bls (W.setCell ⟨b, k, none⟩ (.bool (q k))) b (fun j => if j < k + 1 then q j else false) := by
  refine ⟨fun j hj => ?_, fun k => by simpa using h.fz k, by simpa using h.lt⟩
  by_cases e : j = k
  · subst e
    rw [if_pos (by omega)]
    exact World.cell?_setCell_same _ _ _ (h.at_ j hj)
  · refine (World.cell?_setCell_other _ _ _ _ (by intro e2; injection e2 with _ e2; exact e e2.symm)).trans ((h.at_ j hj).trans ?_)
    by_cases e1 : j < k
    · rw [if_pos e1, if_pos (by omega)]
    · rw [if_neg e1, if_neg (by omega)]
end Go.Proofs.YtbfafijfhaejmaaGreatDoor

namespace Go.Proofs.YtbfafijfhaejmaaGreatDoor
open Go.ChangeShapes Go.WideShapes Go.ChangeAt Go.RowKit Go.Deep

theorem add_nought (a : Addr) : a.add 0 = a := by
  unfold Addr.add
  simp
set_option maxRecDepth 100000 in
theorem open_intsArg {H : Type} {enc : TypeId × Value → H} {W : World} {base : Nat} {v : Value} {d : DataW H} {ps : List MemPlace} {sp : Nat → Bool} {hd : Bool} (hok : Value.okWide Tryz.prog W .any base 54 v) (h : DataW.Trod enc Tryz.prog W 0 sp hd 54 v d ps) :
    ∃ (B : Nat) (ao : Option Addr) (cap : Nat) (l : List Int), v = .slice ao l.length cap ∧ Ints W B ao l := by
  obtain ⟨a, len, cap, rfl⟩ := okWide_slice Tryz.underlying54 hok
  obtain ⟨fuel, hf⟩ := h
  rcases open_ints Tryz.underlying54 Tryz.underlying3 Tryz.cellsInt (by simpa [Value.cells] using hf) with ⟨hcs, _⟩ | ⟨a', len', cap', zs, hcs, hb, hl, hm, hlz, _, hc, hw⟩
  · simp at hcs
    obtain ⟨rfl, rfl, rfl⟩ := hcs
    exact ⟨0, none, 0, [], rfl, ⟨fun h => absurd h (by simp), fun j h => absurd h (by simp), fun h => absurd h (by simp), by simp⟩⟩
  · simp at hcs
    obtain ⟨rfl, rfl, rfl⟩ := hcs
    have hlz' : len ≤ zs.length := by rw [hlz]; split <;> omega
    have hlt : (zs.take len).length = len := by simp; omega
    refine ⟨a'.block, some a', cap, zs.take len, by rw [hlt], ⟨fun h => ?_, fun j hj => ?_, fun h => ?_, by rw [hlt]; unfold maxLen at hm; omega⟩⟩
    · rw [hlt] at h
      have h0 := hc 0 (by omega)
      rw [add_nought] at h0
      have ha := cell_spot h0
      refine ⟨a'.off, by rw [← ha], fun j hj => ?_⟩
      rw [hlt] at hj
      have hcj := hc j (by omega)
      rw [ha, Addr.add_mid] at hcj
      rw [hcj]
      simp [List.getD_eq_getElem?_getD, hj]
    · rw [hlt] at hj
      have hm' : zs.getD j 0 ∈ zs := by
        rw [List.getD_eq_getElem?_getD, List.getElem?_eq_getElem (by omega)]
        exact List.getElem_mem _
      have := bounds_i64 (hw _ hm')
      have e : (zs.take len).getD j 0 = zs.getD j 0 := by simp [List.getD_eq_getElem?_getD, hj]
      rw [e]
      omega
    · rw [hlt] at h
      have h0 := hc 0 (by omega)
      rw [add_nought] at h0
      exact World.block_lt_of_cell? W _ h0
end Go.Proofs.YtbfafijfhaejmaaGreatDoor

namespace Go.Proofs.YtbfafijfhaejmaaGreatDoor
open Go.RowKit

theorem Pag.lsn {w : World} {b : Nat} {v0 v1 v2 v3 v4 v5 : Value} (h : Pag w b v0 v1 v2 v3 v4 v5) (u : Value) : Pag (w.setCell ⟨b, 0, none⟩ u) b u v1 v2 v3 v4 v5 := by
  have k : ∀ (j : Nat) (v : Value), j ≠ 0 → w.cell? ⟨b, j, none⟩ = some v → (w.setCell ⟨b, 0, none⟩ u).cell? ⟨b, j, none⟩ = some v := fun j v hj hc =>
    (World.cell?_setCell_other _ _ _ _ (by intro e; injection e with _ e; exact hj e.symm)).trans hc
  exact ⟨World.cell?_setCell_same _ _ _ h.c0, k _ _ (by decide) h.c1, k _ _ (by decide) h.c2, k _ _ (by decide) h.c3, k _ _ (by decide) h.c4, k _ _ (by decide) h.c5, by simpa using h.f0, by simpa using h.f1, by simpa using h.f2, by simpa using h.f3, by simpa using h.f4, by simpa using h.f5, by simpa using h.lt⟩
/-- A page with another place. -/
def Pg.at_ (p : Pg) (t : Int) : Pg := { p with lsn := t }
set_option maxRecDepth 100000 in
set_option maxHeartbeats 6400000 in
theorem owes_law (w : World) (fz : Int) (B cp : Nat) (ao : Option Addr) (L : List Qo) (hQ : Qos w B ao L) (Bh cph : Nat) (ah : Option Addr) (how : List Int) (hH : Ints w Bh ah how) :
    Calls Tryz.prog 5 #[.int .i64 fz, .slice ao L.length cp, .slice ah how.length cph] w fun e w' => e = .returned (.bool true) ∧ Only (fun _ => False) w w' := by
  have hlen := hQ.len
  have HQ := hide hQ
  have HH := hide hH
  clear hQ hH
  obtain ⟨V, hV⟩ : ∃ V, Value.agg (nt.cells Loc.none) = V := ⟨_, rfl⟩
  have HN := hide (fun W => note_any W)
  have HAA := hide (fun (W : World) (p d l : Nat) X t fl C K (h : Oo w W p d l X t fl C K) ht => oo_append h ht)
  simp only [hV] at HN HAA
  clear hV
  obtain ⟨r1, r2, r3⟩ := take_rem (pick := fz) (n := 6) (by omega)
  obtain ⟨t1, ht1⟩ : ∃ t1, fz.tmod 6 = t1 := ⟨_, rfl⟩
  rw [show ((6 : Nat) : Int) = 6 from rfl, ht1] at r1 r2 r3
  obtain ⟨m6, hm⟩ : ∃ m : Nat, fz % 6 = (m : Int) := ⟨(fz % 6).toNat, by omega⟩
  have hm6 : (m6 : Int) < 6 := by omega
  rw [hm] at r3
  clear hm
  go_enter Tryz.func5, Tryz.ntmps5
  go_wp2_with fail
  refine (fr_disk w).mono ?_
  rintro e w1 ⟨d, g, m, rfl, hD, ho, hk⟩
  have HF := hide (fo_log hD ho hk)
  clear hD ho hk
  go_wp2_with fail
  refine HF.out.mono ?_
  rintro e w2 ⟨l, D, rfl, hW, hfr, hD, hL, hnl, hlw, ho, hk⟩
  have HP := hide (fo_pool hW hfr hD hL hnl hlw ho hk (1 + m6) (by omega) (by omega))
  rw [show (((1 + m6 : Nat)) : Int) = 1 + (m6 : Int) by omega] at HP
  clear hW hfr hD hL hnl hlw ho hk HF
  go_wp2_with fail
  refine HP.out.mono ?_
  rintro e w3 ⟨p, F, rfl, hp⟩
  have HP3 := hide hp
  clear hp HP ht1 r1 r2 r3 hm6
  obtain ⟨W4, hmk4, hLas, hO4⟩ := las_make w w3
  obtain ⟨W5, hmk5, hIss, hO5⟩ := iss_make W4
  have HS0 : Hid (Ko w W5 p d l w3.heap.size W4.heap.size (fun k => k = w3.heap.size ∨ k = W4.heap.size) 1 1 (fun _ => none) (fun _ => none) (fun _ => none)) := by
    have z1 := hLas.lt
    have z2 := hO4.size
    have z3 := HP3.out.only.size
    exact ko_start ((HP3.out.more hO4).more hO5) ⟨z3, fun e => by have := (HP3.out.lt _ e).2; omega⟩ ⟨by omega, fun e => by have := (HP3.out.lt _ e).2; omega⟩ hIss (hLas.kept hO5 (fun e => e)) (by omega)
  clear hLas hO4 hIss hO5 HP3
  go_upto_block 0 with fail
  obtain ⟨lb, hlb⟩ : ∃ b, w3.heap.size = b := ⟨_, rfl⟩
  obtain ⟨ib, hib⟩ : ∃ b, W4.heap.size = b := ⟨_, rfl⟩
  rw [hlb, hib] at HS0
  rw [hlb, hib]
  clear hlb hib hmk4 hmk5
  go_cut [15] (fun _ wc => ∃ (t fl : Nat) (C K : Nat → Option Pg), Hid (Ko w wc p d l lb ib (fun k => k = lb ∨ k = ib) t fl C K C))
  case first =>
    go_wp2_with fail
    go_loopw [15] (fun y wr => ∃ (j t fl : Nat) (C K : Nat → Option Pg), j ≤ L.length ∧ j ≤ 200 ∧ t ≤ 1 + 33 * j ∧ y = .int .i64 (j : Int) ∧ Hid (Ko w wr p d l lb ib (fun k => k = lb ∨ k = ib) t fl C K C)) (fun y _ => 200 - (intOf y).toNat)
    case atStart => exact ⟨0, 1, 1, _, _, by omega, by omega, by omega, rfl, HS0⟩
    case round =>
      clear HS0
      obtain ⟨j, t, fl, C, K, hj, hj1, ht, rfl, HS⟩ := hrel
      by_cases hlt : j < L.length
      · by_cases h200 : j < 200
        · obtain ⟨o, e1, hc⟩ := (HQ.out.more HS.out.ow.only).at_ (by omega)
          have hrn := hc j hlt
          have HIN := hide (HQ.out.each L[j] (List.getElem_mem hlt))
          obtain ⟨z, hz⟩ : ∃ z, L[j] = z := ⟨_, rfl⟩
          rw [hz] at HIN hrn
          subst e1
          have k0 : wr.cell? ⟨B, o + j * 9, none⟩ = some (.int .i64 z.ask) := hrn 0 _ rfl
          have k1 : wr.cell? ⟨B, o + j * 9 + 1, none⟩ = some (.int .i64 z.page) := hrn 1 _ rfl
          have k2 : wr.cell? ⟨B, o + j * 9 + 2, none⟩ = some (.int .i64 z.pick) := hrn 2 _ rfl
          have k3 : wr.cell? ⟨B, o + j * 9 + 3, none⟩ = some (.int .i64 z.body.lsn) := hrn 3 _ rfl
          have k4 : wr.cell? ⟨B, o + j * 9 + 4, none⟩ = some (.int .i64 z.body.kind) := hrn 4 _ rfl
          have k5 : wr.cell? ⟨B, o + j * 9 + 5, none⟩ = some (.int .i64 z.body.level) := hrn 5 _ rfl
          have k6 : wr.cell? ⟨B, o + j * 9 + 6, none⟩ = some (.int .i64 z.body.right) := hrn 6 _ rfl
          have k7 : wr.cell? ⟨B, o + j * 9 + 7, none⟩ = some (.string z.body.high) := hrn 7 _ rfl
          have k8 : wr.cell? ⟨B, o + j * 9 + 8, none⟩ = some (.slice z.ab z.body.items.length z.cb) := hrn 8 _ rfl
          clear hc hz hrn
          have HXN : Hid (lb ≠ wr.heap.size ∧ ib ≠ wr.heap.size) := by
            have a1 := HS.out.la.lt
            have a2 := HS.out.is.lt
            exact ⟨by omega, by omega⟩
          have HOB0 := hide (Ob.new wr z)
          have HS1 := hide (HS.out.var (.cells #[.int .i64 z.ask, .int .i64 z.page, .int .i64 z.pick, .int .i64 z.body.lsn, .int .i64 z.body.kind, .int .i64 z.body.level, .int .i64 z.body.right, .string z.body.high, .slice z.ab z.body.items.length z.cb] 47))
          go_upto_region 14 with fail
          obtain ⟨xb, hxb⟩ : ∃ b, wr.heap.size = b := ⟨_, rfl⟩
          obtain ⟨W, hW⟩ : ∃ W, W = wr.alloc (.cells #[.int .i64 z.ask, .int .i64 z.page, .int .i64 z.pick, .int .i64 z.body.lsn, .int .i64 z.body.kind, .int .i64 z.body.level, .int .i64 z.body.right, .string z.body.high, .slice z.ab z.body.items.length z.cb] 47) := ⟨_, rfl⟩
          rw [hxb] at HOB0 HS1 HXN ⊢
          rw [← hW] at HOB0 HS1 ⊢
          clear hW hxb k0 k1 k2 k3 k4 k5 k6 k7 k8 HS
          obtain ⟨r1, r2, r3⟩ := take_rem (pick := z.page) (n := 12) (by omega)
          obtain ⟨t1, ht1⟩ : ∃ t1, z.page.tmod 12 = t1 := ⟨_, rfl⟩
          rw [show ((12 : Nat) : Int) = 12 from rfl, ht1] at r1 r2 r3
          obtain ⟨n, hn⟩ : ∃ n : Nat, z.page % 12 = (n : Int) := ⟨(z.page % 12).toNat, by omega⟩
          have hn12 : n < 12 := by omega
          rw [hn] at r3
          have HN12 := hide hn12
          clear hn hn12
          have b1 := HOB0.out.c1
          have b0 := HOB0.out.c0
          by_cases h0 : z.ask = 0
          · have a0 : (z.ask == 0) = true := by simp [h0]
            clear h0
            have x2 := HOB0.out.c2
            go_wp2_with fail
            clear x2
            refine (oo_fetch HS1.out.ow n HN12.out _ _ _ rfl rfl).mono ?_
            rintro e w5 ⟨Bq, aq, cq, rfl, _, hn5⟩
            obtain ⟨fl5, K5, hs5, ho5⟩ := ko_on HS1.out hn5
            have HS5 := hide hs5
            clear hn5 hs5 ho5 HS1 HOB0
            go_wp2_with fail
            go_roundw
            case rel => exact ⟨j + 1, t, fl5, C, K5, by omega, by omega, by omega, by go_num, hide (HS5.out.down (X' := fun k => k = lb ∨ k = ib) (fun k e => .inl e) (.inl rfl) (.inr rfl))⟩
            case measure => simp [intOf]; omega
          · have a0 : (z.ask == 0) = false := by simp [h0]
            clear h0
            by_cases h1 : z.ask = 1
            · have a1 : (z.ask == 1) = true := by simp [h1]
              clear h1
              go_wp2_with fail
              refine (HN.out _).mono ?_
              rintro e w3 ⟨rfl, ho3⟩
              have HS3 := hide (HS1.out.more ho3)
              have HOB3 := hide (HOB0.out.kept ho3 (fun e => e))
              clear ho3
              go_wp2_with fail
              refine (HAA.out _ _ _ _ _ _ _ _ _ HS3.out.ow (by omega)).mono ?_
              rintro e w6 ⟨rfl, hn6⟩
              obtain ⟨fl6, K6, hs6, ho6⟩ := ko_on HS3.out hn6
              have HS6 := hide hs6
              have HOB6 := hide (HOB3.out.kept ho6 (fun e => e.1 (.inr rfl)))
              clear hn6 hs6 ho6 HS3 HOB3 HS1 HOB0
              have b3 := HOB6.out.c3
              have b4 := HOB6.out.c4
              have b5 := HOB6.out.c5
              have b6 := HOB6.out.c6
              have b7 := HOB6.out.c7
              have b8 := HOB6.out.c8
              go_upto_region 21 with fail
              clear b3 b4 b5 b6 b7 b8
              have HPB0 := hide (Pag.new w6 (.int .i64 z.body.lsn) (.int .i64 z.body.kind) (.int .i64 z.body.level) (.int .i64 z.body.right) (.string z.body.high) (.slice z.ab z.body.items.length z.cb))
              have HS7 := hide (HS6.out.var (.cells #[.int .i64 z.body.lsn, .int .i64 z.body.kind, .int .i64 z.body.level, .int .i64 z.body.right, .string z.body.high, .slice z.ab z.body.items.length z.cb] 45))
              have HOB7 := hide (HOB6.out.kept (onlyA w6 (.cells #[.int .i64 z.body.lsn, .int .i64 z.body.kind, .int .i64 z.body.level, .int .i64 z.body.right, .string z.body.high, .slice z.ab z.body.items.length z.cb] 45)) (fun e => e))
              have HBN : Hid (lb ≠ w6.heap.size ∧ ib ≠ w6.heap.size ∧ xb ≠ w6.heap.size) := by
                have a1 := HS6.out.la.lt
                have a2 := HS6.out.is.lt
                have a3 := HOB6.out.lt
                exact ⟨by omega, by omega, by omega⟩
              obtain ⟨bb, hbb⟩ : ∃ b, w6.heap.size = b := ⟨_, rfl⟩
              obtain ⟨W7, hW7⟩ : ∃ W, W = w6.alloc (.cells #[.int .i64 z.body.lsn, .int .i64 z.body.kind, .int .i64 z.body.level, .int .i64 z.body.right, .string z.body.high, .slice z.ab z.body.items.length z.cb] 45) := ⟨_, rfl⟩
              rw [hbb] at HPB0 HS7 HBN ⊢
              rw [← hW7] at HPB0 HS7 HOB7 ⊢
              clear hW7 hbb
              obtain ⟨q0, q1, q2, q3, q4, q5, f0, f1, f2, f3, f4, f5, fq⟩ := HPB0.out
              go_upto_region 22 with fail
              clear q0 q1 q2 q3 q4 q5 f0 f1 f2 f3 f4 f5 fq
              have HPB := hide (HPB0.out.lsn (.int .i64 (t : Int)))
              have HS8 := hide (HS7.out.own (Only.setCell (S := fun k => k = bb) W7 ⟨bb, 0, none⟩ (.int .i64 (t : Int)) rfl) (.inr rfl) HBN.out.1 HBN.out.2.1)
              have HOB8 := hide (HOB7.out.kept (Only.setCell (S := fun k => k = bb) W7 ⟨bb, 0, none⟩ (.int .i64 (t : Int)) rfl) HBN.out.2.2)
              obtain ⟨W8, hW8⟩ : ∃ W, W = W7.setCell ⟨bb, 0, none⟩ (.int .i64 (t : Int)) := ⟨_, rfl⟩
              rw [← hW8] at HPB HS8 HOB8 ⊢
              have htl := (ntl_le t).1
              obtain ⟨bd, hbd⟩ : ∃ bd, bd = z.body.at_ (t : Int) := ⟨_, rfl⟩
              have HSA := hide (oo_set HS8.out.ow n HN12.out z.pick bd z.B z.ab z.cb (by rw [hbd]; exact HIN.out.strs) (by rw [hbd]; exact HIN.out.high) (by rw [hbd]; show (t : Int) < _; omega))
              have HSTR : Hid (Strs w z.B z.ab bd.items) := by rw [hbd]; exact HIN.out.strs
              obtain ⟨d0, hd0⟩ : bd.lsn = (t : Int) ∧ True := by rw [hbd]; exact ⟨rfl, trivial⟩
              have d1 : bd.kind = z.body.kind := by rw [hbd]; rfl
              have d2 : bd.level = z.body.level := by rw [hbd]; rfl
              have d3 : bd.right = z.body.right := by rw [hbd]; rfl
              have d4 : bd.high = z.body.high := by rw [hbd]; rfl
              have d5 : bd.items.length = z.body.items.length := by rw [hbd]; rfl
              have HPBD : Hid (Pag W8 bb (.int .i64 bd.lsn) (.int .i64 bd.kind) (.int .i64 bd.level) (.int .i64 bd.right) (.string bd.high) (.slice z.ab bd.items.length z.cb)) := by
                unfold Hid
                rw [hbd]
                exact HPB.out
              clear hbd d0 hd0 d1 d2 d3 d4 d5 HPB HPB0 HS7 HOB7 hW8 HS6 HOB6
              obtain ⟨sc, hsc⟩ : ∃ sc, bd.setC = sc := ⟨_, rfl⟩
              rw [hsc] at HSA
              have HSC := hide hsc
              clear hsc
              obtain ⟨q0, q1, q2, q3, q4, q5, f0, f1, f2, f3, f4, f5, fq⟩ := HPBD.out
              have b2 := HOB8.out.c2
              go_wp2_with fail
              refine HSA.out.mono ?_
              rintro e w9 ⟨rfl, hn9⟩
              obtain ⟨fl9, K9, hs9, ho9⟩ := ko_on HS8.out hn9
              have HS9 := hide hs9
              have HOB9 := hide (HOB8.out.kept ho9 (fun e => e.1 (.inl (.inr rfl))))
              have HPB9 := hide (HPBD.out.kept ho9 (fun e => e.1 (.inr rfl)))
              have HT9 := hide (show ntl t ≤ 1 + 33 * (j + 1) by have := (ntl_le t).2; omega)
              clear hn9 hs9 ho9 HS8 HOB8 HPBD HSA q0 q1 q2 q3 q4 q5 f0 f1 f2 f3 f4 f5 fq b2 htl
              by_cases h0 : sc = 0
              · subst h0
                obtain ⟨q0, q1, q2, q3, q4, q5, _⟩ := HPB9.out
                have HST := hide (HS9.out.put n HN12.out bd z.B z.ab z.cb HSTR.out (by unfold setP; rw [if_pos HSC.out]))
                have hn12 := HN12.out
                obtain ⟨Bz, az, cz, hrz, _⟩ := HS9.out.la.at_ n hn12
                have l0 : w9.cell? ⟨lb, n * 6, none⟩ = _ := hrz 0 _ rfl
                have l1 := hrz 1 _ rfl
                have l2 := hrz 2 _ rfl
                have l3 := hrz 3 _ rfl
                have l4 := hrz 4 _ rfl
                have l5 := hrz 5 _ rfl
                have i0 := HS9.out.is.at_ n hn12
                have fi := HS9.out.is.fz n
                have fl0 := HS9.out.la.fz (n * 6)
                have fl1 := HS9.out.la.fz (n * 6 + 1)
                have fl2 := HS9.out.la.fz (n * 6 + 2)
                have fl3 := HS9.out.la.fz (n * 6 + 3)
                have fl4 := HS9.out.la.fz (n * 6 + 4)
                have fl5 := HS9.out.la.fz (n * 6 + 5)
                have hne := HS9.out.ne
                clear hrz
                go_wp2_with fail
                go_roundw
                case rel => exact ⟨j + 1, ntl t, fl9, _, K9, by omega, by omega, HT9.out, by go_num, hide (HST.out.1.down (X' := fun k => k = lb ∨ k = ib) (fun k e => .inl (.inl e)) (.inl rfl) (.inr rfl))⟩
                case measure => simp [intOf]; omega
              · have a2 : (sc == 0) = false := by simp [h0]
                have HS10 : Hid (Ko w w9 p d l lb ib (fun k => ((k = lb ∨ k = ib) ∨ k = xb) ∨ k = bb) (ntl t) fl9 C K9 C) := by
                  have hs := HS9.out
                  unfold setP at hs
                  rw [if_neg (by rw [HSC.out]; exact h0)] at hs
                  exact hs
                go_wp2_with fail
                go_roundw
                case rel => exact ⟨j + 1, ntl t, fl9, C, K9, by omega, by omega, HT9.out, by go_num, hide (HS10.out.down (X' := fun k => k = lb ∨ k = ib) (fun k e => .inl (.inl e)) (.inl rfl) (.inr rfl))⟩
                case measure => simp [intOf]; omega
            · have a1 : (z.ask == 1) = false := by simp [h1]
              clear h1
              by_cases h2 : z.ask = 2
              · have a2 : (z.ask == 2) = true := by simp [h2]
                clear h2
                go_wp2_with fail
                refine (oo_write HS1.out.ow n HN12.out).mono ?_
                rintro e w6 ⟨rfl, hn6⟩
                obtain ⟨fl6, K6, hs6, ho6⟩ := ko_on HS1.out hn6
                have HS6 := hide hs6
                clear hn6 hs6 ho6
                go_wp2_with fail
                go_roundw
                case rel => exact ⟨j + 1, t, fl6, C, K6, by omega, by omega, by omega, by go_num, hide (HS6.out.down (X' := fun k => k = lb ∨ k = ib) (fun k e => .inl e) (.inl rfl) (.inr rfl))⟩
                case measure => simp [intOf]; omega
              · have a2 : (z.ask == 2) = false := by simp [h2]
                clear h2
                by_cases h3 : z.ask = 3
                · have a3 : (z.ask == 3) = true := by simp [h3]
                  clear h3
                  go_wp2_with fail
                  refine (oo_sync HS1.out.ow).mono ?_
                  rintro e w6 ⟨rfl, hs6, ho6⟩
                  have HS6 := hide hs6
                  have HI6 := hide (HS1.out.is.kept ho6 (fun e => e.1 HS1.out.xi))
                  have HL6 := hide (HS1.out.la.kept ho6 (fun e => e.1 HS1.out.xl))
                  have HNE := hide HS1.out.ne
                  clear hs6 ho6 HS1 HOB0
                  go_wp2_with fail
                  refine (oc_synced HS6.out).mono ?_
                  rintro e w7 ⟨rfl, hn7⟩
                  obtain ⟨fl7, K7, hs7, ho7⟩ := hn7
                  have HS7 : Hid (Ko w w7 p d l lb ib (fun k => (k = lb ∨ k = ib) ∨ k = xb) t fl7 C K7 C) := ⟨hs7, HI6.out.kept ho7 (fun e => e.1 (.inl (.inr rfl))), HL6.out.kept ho7 (fun e => e.1 (.inl (.inl rfl))), .inl (.inl rfl), .inl (.inr rfl), HNE.out⟩
                  clear hs7 ho7 HS6 HI6 HL6
                  go_wp2_with fail
                  go_roundw
                  case rel => exact ⟨j + 1, t, fl7, C, K7, by omega, by omega, by omega, by go_num, hide (HS7.out.down (X' := fun k => k = lb ∨ k = ib) (fun k e => .inl e) (.inl rfl) (.inr rfl))⟩
                  case measure => simp [intOf]; omega
                · have a3 : (z.ask == 3) = false := by simp [h3]
                  clear h3
                  go_wp2_with fail
                  go_roundw
                  case rel => exact ⟨j + 1, t, fl, C, K, by omega, by omega, by omega, by go_num, hide (HS1.out.down (X' := fun k => k = lb ∨ k = ib) (fun k e => .inl e) (.inl rfl) (.inr rfl))⟩
                  case measure => simp [intOf]; omega
        · have h2 : ¬ (j : Int) < 200 := by omega
          go_wp2_with fail
          go_meet
          exact ⟨t, fl, C, K, HS⟩
      · have h2 : ¬ (j : Int) < (L.length : Int) := by omega
        go_wp2_with fail
        go_meet
        exact ⟨t, fl, C, K, HS⟩
  case rest =>
    obtain ⟨t, fl, C, K, HS⟩ := hcut
    clear HS0
    obtain ⟨P, D, g', m', hx⟩ := px_of HS.out.ow
    obtain ⟨W9, hmk9, hI9, hO9⟩ := iss_make wc
    have HNB : Hid (lb ≠ wc.heap.size ∧ ib ≠ wc.heap.size) := by
      have a1 := HS.out.la.lt
      have a2 := HS.out.is.lt
      exact ⟨by omega, by omega⟩
    have HBL : Hid (Bls W9 wc.heap.size (fun j => if j < 0 then (P.ow j).isSome else false)) := ⟨fun k hk => by rw [if_neg (by omega)]; exact hI9.at_ k hk, hI9.fz, hI9.lt⟩
    have HPX := hide (hx.kept (X' := fun k => (k = lb ∨ k = ib) ∨ k = wc.heap.size) (hO9.mono (fun _ _ e => e.elim)) (fun k e => by
      rcases e with e | e
      · exact .inl e
      · exact .inr ⟨by omega, by have := hI9.lt; omega⟩))
    have HIS := hide (HS.out.is.kept hO9 (fun e => e))
    have HLA := hide (HS.out.la.kept hO9 (fun e => e))
    have HNE := hide HS.out.ne
    clear hx hI9 hO9 HS
    go_upto_block 3 with fail
    obtain ⟨ob, hob⟩ : ∃ b, wc.heap.size = b := ⟨_, rfl⟩
    rw [hob] at HBL HPX HNB
    rw [hob]
    clear hob hmk9
    go_wp2_with fail
    go_loopw [22] (fun y wi => ∃ k : Nat, k ≤ 12 ∧ y = .int .i64 (k : Int) ∧ Hid (Px w wi p d l (fun k => (k = lb ∨ k = ib) ∨ k = ob) C P D g' m') ∧ Hid (Bls wi ob (fun j => if j < k then (P.ow j).isSome else false)) ∧ Hid (Iss wi ib C) ∧ Hid (Las w wi lb C)) (fun y _ => 12 - (intOf y).toNat)
    case atStart => exact ⟨0, by omega, rfl, HPX, HBL, HIS, HLA⟩
    case round =>
      clear HPX HBL HIS HLA
      obtain ⟨k, hk, rfl, HPX, HBL, HIS, HLA⟩ := hrel
      by_cases hk12 : k < 12
      · have hki : (k : Int) < 12 := by omega
        obtain ⟨bv, hbv⟩ : ∃ bv, (P.ow k).isSome = bv := ⟨_, rfl⟩
        have HOW := hide (px_owes HPX.out k hk12)
        rw [hbv] at HOW
        have HB2 := hide (HBL.out.put hk12)
        rw [hbv] at HB2
        clear hbv
        go_wp2_with fail
        refine HOW.out.mono ?_
        rintro e u1 ⟨rfl, hw1⟩
        obtain rfl := hw1.symm
        clear hw1
        have o0 := HBL.out.at_ k hk12
        have of := HBL.out.fz k
        go_wp2_with fail
        go_roundw
        case rel =>
          have ho := Only.setCell (S := fun k => k = ob) wr ⟨ob, k, none⟩ (.bool bv) rfl
          exact ⟨k + 1, by omega, by go_num, HPX.out.kept (ho.mono (fun _ _ e => .inr e)) (fun _ e => .inl e), HB2, HIS.out.kept ho HNB.out.2, HLA.out.kept ho HNB.out.1⟩
        case measure => simp [intOf]; omega
      · have hki : ¬ (k : Int) < 12 := by omega
        have HBL2 : Hid (Bls wr ob (fun j => (P.ow j).isSome)) := ⟨fun j hj => by have := HBL.out.at_ j hj; rw [if_pos (by omega)] at this; exact this, HBL.out.fz, HBL.out.lt⟩
        clear HBL
        go_wp2_with fail
        refine (px_crash HPX.out Bh ah cph how HH.out).mono ?_
        rintro e u1 ⟨rfl, hD, hok, hof⟩
        have HD1 := hide hD
        have HO1 := hide hof
        have HB1 := hide (HBL2.out.kept hok (fun e => e.1 (.inr rfl)))
        have HI1 := hide (HIS.out.kept hok (fun e => e.1 (.inl (.inr rfl))))
        have HL1 := hide (HLA.out.kept hok (fun e => e.1 (.inl (.inl rfl))))
        clear hD hok hof HBL2 HIS HLA
        go_wp2_with fail
        go_loopw [23] (fun y wi => ∃ k : Nat, k ≤ 12 ∧ y = .int .i64 (k : Int) ∧ Hid (Only (fun _ => False) u1 wi)) (fun y _ => 12 - (intOf y).toNat)
        case atStart => exact ⟨0, by omega, rfl, Only.refl _ _⟩
        case round =>
          obtain ⟨q, hq, rfl, HO⟩ := hrel
          by_cases hq12 : q < 12
          · have hqi : (q : Int) < 12 := by omega
            have i0 := (HI1.out.kept HO.out (fun e => e)).at_ q hq12
            have o0 := (HB1.out.kept HO.out (fun e => e)).at_ q hq12
            cases hC : C q with
            | none =>
              rw [hC] at i0
              have i1 : wr.cell? ⟨ib, q, none⟩ = some (.bool false) := i0
              clear i0
              go_wp2_with fail
              go_roundw
              case rel => exact ⟨q + 1, by omega, by go_num, HO⟩
              case measure => simp [intOf]; omega
            | some pq =>
              rw [hC] at i0
              have i1 : wr.cell? ⟨ib, q, none⟩ = some (.bool true) := i0
              clear i0
              cases hw : (P.ow q).isSome with
              | true =>
                rw [hw] at o0
                go_wp2_with fail
                go_roundw
                case rel => exact ⟨q + 1, by omega, by go_num, HO⟩
                case measure => simp [intOf]; omega
              | false =>
                rw [hw] at o0
                obtain ⟨ll, hl1, hl2⟩ := px_read HPX.out how q hq12 pq hC hw
                have HRD := hide (dread_any wr d g' m' (D.crash how) (HD1.out.same HO.out) (200 + 8 * (q : Int)) 8 (by omega))
                rw [hl1] at HRD
                obtain ⟨Nb, hNb⟩ : ∃ Nb : ByteArray, (⟨ll.toArray⟩ : ByteArray) = Nb := ⟨_, rfl⟩
                have HDC := hide (fun (U : World) => pdecode_any U Nb)
                have hbl : bl Nb = ll := by rw [← hNb]
                rw [hbl, hl2] at HDC
                rw [hNb] at HRD
                have HCQ := hide hC
                clear hl1 hl2 hNb hbl hC hw
                go_wp2_with fail
                refine HRD.out.mono ?_
                rintro e u2 ⟨rfl, ho2⟩
                have HO2 := hide (o2 HO.out ho2)
                clear ho2 HRD
                go_wp2_with fail
                refine (HDC.out _).mono ?_
                rintro e u3 ⟨B3, a3, c3, rfl, hS3, _, ho3, _⟩
                have HO3 := hide (o2 HO2.out ho3)
                have HT3 := hide hS3
                clear ho3 hS3 HDC HO2
                go_upto_region 42 with fail
                have HPW := hide (Pag.new u3 (.int .i64 pq.lsn) (.int .i64 pq.kind) (.int .i64 pq.level) (.int .i64 pq.right) (.string pq.high) (.slice a3 pq.items.length c3))
                have hoa := onlyA u3 (.cells #[.int .i64 pq.lsn, .int .i64 pq.kind, .int .i64 pq.level, .int .i64 pq.right, .string pq.high, .slice a3 pq.items.length c3] 45)
                obtain ⟨wb, hwb⟩ : ∃ b, u3.heap.size = b := ⟨_, rfl⟩
                obtain ⟨U3, hU3⟩ : ∃ W, W = u3.alloc (.cells #[.int .i64 pq.lsn, .int .i64 pq.kind, .int .i64 pq.level, .int .i64 pq.right, .string pq.high, .slice a3 pq.items.length c3] 45) := ⟨_, rfl⟩
                rw [hwb] at HPW ⊢
                rw [← hU3] at HPW hoa ⊢
                have HO4 := hide (o2 HO3.out hoa)
                have HT4 := hide (HT3.out.more hoa)
                obtain ⟨Bl, al, cl, hrl, hsl⟩ := (HL1.out.kept HO4.out (fun e => e)).at_ q hq12
                rw [HCQ.out] at hrl hsl
                have HRL : Hid (∀ U, Only (fun _ => False) U3 U → U.rangeAt lb (q * 6) (pcl pq al cl)) := fun U hU => range_go hrl hU (fun e => e)
                have HSL : Hid (Strs U3 Bl al pq.items) := (show Strs w Bl al pq.items from hsl).more (o2 HO1.out HO4.out)
                clear hwb hU3 hoa HO3 HT3 hrl hsl HCQ o0 i1
                refine wp_region_noPanic ?_
                refine wp_region_held_drew (S := fun U => Only (fun _ => False) U3 U) (by kernel_rfl) (Only.drew _ _) (fun hHeld => ?_)
                refine wpAnyH_take (i := 0) (oi := { dst := some 177, op := Op.move (Operand.tmp 25), type := 24, pos := "law.go:228", after := #[], guard := none }) (v := .int .i64 0) rfl (by kernel_rfl) (by kernel_rfl) (by kernel_rfl) (fun _ _ _ h => h) (Or.inl ⟨by rfl, fun w' hSw => by clear hSw; go_simp⟩) (by assumption) ?_
                simp only [Act.put, List.setIfInBounds_toArray, List.set_cons_zero, List.set_cons_succ]
                refine wpAnyH_take (i := 1) (oi := { dst := some 178, op := Op.binOp BinOp.neq 24 (Operand.tmp 177) (Operand.const (Value.int IntKind.i64 0)) 24, type := 4, pos := "law.go:228", after := #[{ on := 0, ground := Ground.data }], guard := none }) (v := .bool false) rfl (by kernel_rfl) (by kernel_rfl) (by kernel_rfl) (fun _ _ _ h => h) (Or.inl ⟨by rfl, fun w' hSw => by clear hSw; go_simp⟩) (by assumption) ?_
                simp only [Act.put, List.setIfInBounds_toArray, List.set_cons_zero, List.set_cons_succ]
                refine wpAnyH_take (i := 2) (oi := { dst := some 179, op := Op.move (Operand.tmp 178), type := 4, pos := "law.go:228", after := #[{ on := 1, ground := Ground.data }], guard := none }) (v := .bool false) rfl (by kernel_rfl) (by kernel_rfl) (by kernel_rfl) (fun _ _ _ h => h) (Or.inl ⟨by rfl, fun w' hSw => by clear hSw; go_simp⟩) (by assumption) ?_
                simp only [Act.put, List.setIfInBounds_toArray, List.set_cons_zero, List.set_cons_succ]
                refine wpAnyH_take (i := 3) (oi := { dst := some 180, op := Op.move (Operand.tmp 27), type := 24, pos := "law.go:228", after := #[{ on := 2, ground := Ground.guard }], guard := some (2, false) }) (v := .int .i64 0) rfl (by kernel_rfl) (by kernel_rfl) (by kernel_rfl) (fun _ _ _ h => h) (Or.inl ⟨by rfl, fun w' hSw => by clear hSw; go_simp⟩) (by assumption) ?_
                simp only [Act.put, List.setIfInBounds_toArray, List.set_cons_zero, List.set_cons_succ]
                refine wpAnyH_take (i := 4) (oi := { dst := some 181, op := Op.binOp BinOp.neq 24 (Operand.tmp 180) (Operand.const (Value.int IntKind.i64 0)) 24, type := 4, pos := "law.go:228", after := #[{ on := 3, ground := Ground.data }, { on := 2, ground := Ground.guard }], guard := some (2, false) }) (v := .bool false) rfl (by kernel_rfl) (by kernel_rfl) (by kernel_rfl) (fun _ _ _ h => h) (Or.inl ⟨by rfl, fun w' hSw => by clear hSw; go_simp⟩) (by assumption) ?_
                simp only [Act.put, List.setIfInBounds_toArray, List.set_cons_zero, List.set_cons_succ]
                refine wpAnyH_take (i := 5) (oi := { dst := some 182, op := Op.pick (Operand.tmp 179) (Operand.const (Value.bool true)) (Operand.tmp 181), type := 4, pos := "law.go:228", after := #[{ on := 2, ground := Ground.data }, { on := 4, ground := Ground.data }], guard := none }) (v := .bool false) rfl (by kernel_rfl) (by kernel_rfl) (by kernel_rfl) (fun _ _ _ h => h) (Or.inl ⟨by rfl, fun w' hSw => by clear hSw; go_simp⟩) (by assumption) ?_
                simp only [Act.put, List.setIfInBounds_toArray, List.set_cons_zero, List.set_cons_succ]
                refine wpAnyH_take (i := 6) (oi := { dst := some 183, op := Op.move (Operand.tmp 182), type := 4, pos := "law.go:228", after := #[{ on := 5, ground := Ground.data }, { on := 2, ground := Ground.chain }], guard := none }) (v := .bool false) rfl (by kernel_rfl) (by kernel_rfl) (by kernel_rfl) (fun _ _ _ h => h) (Or.inl ⟨by rfl, fun w' hSw => by clear hSw; go_simp⟩) (by assumption) ?_
                simp only [Act.put, List.setIfInBounds_toArray, List.set_cons_zero, List.set_cons_succ]
                refine wpAnyH_take (i := 7) (oi := { dst := some 184, op := Op.load 45 (Operand.tmp 26), type := 45, pos := "law.go:228", after := #[{ on := 6, ground := Ground.guard }], guard := some (6, false) }) (v := .agg #[.int .i64 pq.lsn, .int .i64 pq.kind, .int .i64 pq.level, .int .i64 pq.right, .string pq.high, .slice a3 pq.items.length c3]) rfl (by kernel_rfl) (by kernel_rfl) (by kernel_rfl) (fun _ _ _ h => h) (yieldsIf_load_pg (by rfl) _ rfl _ rfl (fun W hW => HPW.out.more hW)) (by assumption) ?_
                simp only [Act.put, List.setIfInBounds_toArray, List.set_cons_zero, List.set_cons_succ]
                refine wpAnyH_take (i := 8) (oi := { dst := some 185, op := Op.move (Operand.tmp 13), type := 76, pos := "law.go:228", after := #[{ on := 6, ground := Ground.guard }], guard := some (6, false) }) (v := .slice (some ⟨lb, 0, none⟩) 12 12) rfl (by kernel_rfl) (by kernel_rfl) (by kernel_rfl) (fun _ _ _ h => h) (Or.inl ⟨by rfl, fun w' hSw => by clear hSw; go_simp⟩) (by assumption) ?_
                simp only [Act.put, List.setIfInBounds_toArray, List.set_cons_zero, List.set_cons_succ]
                refine wpAnyH_take (i := 9) (oi := { dst := some 186, op := Op.move (Operand.tmp 23), type := 3, pos := "law.go:228", after := #[{ on := 6, ground := Ground.guard }], guard := some (6, false) }) (v := .int .i64 (q : Int)) rfl (by kernel_rfl) (by kernel_rfl) (by kernel_rfl) (fun _ _ _ h => h) (Or.inl ⟨by rfl, fun w' hSw => by clear hSw; go_simp⟩) (by assumption) ?_
                simp only [Act.put, List.setIfInBounds_toArray, List.set_cons_zero, List.set_cons_succ]
                refine wpAnyH_take (i := 10) (oi := { dst := some 187, op := Op.indexAddr 76 (Operand.tmp 185) (Operand.tmp 186), type := 0, pos := "law.go:228", after := #[{ on := 8, ground := Ground.data }, { on := 9, ground := Ground.data }, { on := 6, ground := Ground.guard }], guard := some (6, false) }) (v := .pointer (some ⟨lb, q * 6, none⟩)) rfl (by kernel_rfl) (by kernel_rfl) (by kernel_rfl) (fun _ _ _ h => h) (Or.inl ⟨by rfl, fun w' hSw => by clear hSw; go_simp⟩) (by assumption) ?_
                simp only [Act.put, List.setIfInBounds_toArray, List.set_cons_zero, List.set_cons_succ]
                refine wpAnyH_take (i := 11) (oi := { dst := some 188, op := Op.load 45 (Operand.tmp 187), type := 45, pos := "law.go:228", after := #[{ on := 10, ground := Ground.data }, { on := 6, ground := Ground.guard }], guard := some (6, false) }) (v := .agg #[.int .i64 pq.lsn, .int .i64 pq.kind, .int .i64 pq.level, .int .i64 pq.right, .string pq.high, .slice al pq.items.length cl]) rfl (by kernel_rfl) (by kernel_rfl) (by kernel_rfl) (fun _ _ _ h => h) (yieldsIf_load_pgo (by rfl) _ rfl _ _ rfl (fun W hW => HRL.out W hW)) (by assumption) ?_
                simp only [Act.put, List.setIfInBounds_toArray, List.set_cons_zero, List.set_cons_succ]
                refine wpAnyH_ready (rs := [12]) (by kernel_rfl) (by simp) ?_
                refine AllReadyH.cons (o := { dst := some 189, op := Op.call { callee := Callee.value (Operand.func 17), args := #[Operand.tmp 184, Operand.tmp 188], argTypes := #[45, 45] }, type := 4, pos := "law.go:228", after := #[{ on := 7, ground := Ground.data }, { on := 11, ground := Ground.data }, { on := 6, ground := Ground.chain }, { on := 6, ground := Ground.guard }], guard := some (6, false) }) rfl (fun K hK => ?_) (AllReadyH.nil)
                go_simp
                have HSM := hide (ysame_any _ pq.lsn pq.kind pq.level pq.right pq.lsn pq.kind pq.level pq.right pq.high pq.high B3 Bl c3 cl a3 al pq.items pq.items (HT4.out.more (Only.drew _ _)) (HSL.out.more (Only.drew _ _)))
                rw [show decide (pq.lsn = pq.lsn ∧ pq.kind = pq.kind ∧ pq.level = pq.level ∧ pq.right = pq.right ∧ pq.high = pq.high ∧ pq.items = pq.items) = true by simp] at HSM
                refine HSM.out.mono ?_
                rintro e w7 ⟨rfl, ho7⟩
                have HO7 := hide (o2 (Only.drew _ U3) ho7)
                clear ho7 HSM
                refine hK.out _ _ (HO7.out) (fun hHeld => ?_)
                clear hK K
                try simp only [Act.put, List.setIfInBounds_toArray, List.set_cons_zero, List.set_cons_succ]
                refine wpAnyH_take (i := 13) (oi := { dst := some 190, op := Op.unOp UnOp.not 4 (Operand.tmp 189), type := 4, pos := "law.go:228", after := #[{ on := 12, ground := Ground.data }, { on := 6, ground := Ground.guard }], guard := some (6, false) }) (v := .bool false) rfl (by kernel_rfl) (by kernel_rfl) (by kernel_rfl) (fun _ _ _ h => h) (Or.inl ⟨by rfl, fun w' hSw => by clear hSw; go_simp⟩) (by assumption) ?_
                simp only [Act.put, List.setIfInBounds_toArray, List.set_cons_zero, List.set_cons_succ]
                refine wpAnyH_take (i := 14) (oi := { dst := some 191, op := Op.pick (Operand.tmp 183) (Operand.const (Value.bool true)) (Operand.tmp 190), type := 4, pos := "law.go:228", after := #[{ on := 6, ground := Ground.data }, { on := 13, ground := Ground.data }], guard := none }) (v := .bool false) rfl (by kernel_rfl) (by kernel_rfl) (by kernel_rfl) (fun _ _ _ h => h) (Or.inl ⟨by rfl, fun w' hSw => by clear hSw; go_simp⟩) (by assumption) ?_
                simp only [Act.put, List.setIfInBounds_toArray, List.set_cons_zero, List.set_cons_succ]
                refine wpAnyH_done (by kernel_rfl) ?_ _
                refine NoPanic.normal ?_
                go_wp2_with fail
                go_roundw
                case rel => exact ⟨q + 1, by omega, by go_num, o2 HO4.out HO7.out⟩
                case measure => simp [intOf]; omega
          · have hqi : ¬ (q : Int) < 12 := by omega
            go_wp2_with fail
            refine (oawake_any wr).mono ?_
            rintro e w9 ⟨rfl, ho9⟩
            have HO9 := hide (o2 (o2 HO1.out HO.out) ho9)
            clear ho9
            go_wp2_with fail
            go_ret
            exact ⟨rfl, HO9.out⟩
end Go.Proofs.YtbfafijfhaejmaaGreatDoor

namespace Go.Proofs.YtbfafijfhaejmaaGreatDoor
open Go.ChangeShapes Go.WideShapes Go.ChangeAt Go.RowKit

theorem ownKnob_none : ownKnob Tryz.prog.godebug = none := by kernel_rfl
theorem gFirst : Tryz.prog.globalNamed "unicode/utf8.first" = some 1 := by kernel_rfl
theorem gRanges : Tryz.prog.globalNamed "unicode/utf8.acceptRanges" = some 2 := by kernel_rfl
def putCells (cs : Array Value) : Obj → Obj
  | .cells _ t frozen => .cells cs t frozen
  | o => o
def firstCells : Array Value := (Go.Pinned.utf8FirstZ.map fun n : Nat => Value.int .u8 (n : Int)).toArray
def rangeCells : Array Value := #[.int .u8 128, .int .u8 191, .int .u8 160, .int .u8 191, .int .u8 128, .int .u8 159, .int .u8 144, .int .u8 191, .int .u8 128, .int .u8 143, .int .u8 0, .int .u8 0, .int .u8 0, .int .u8 0, .int .u8 0, .int .u8 0, .int .u8 0, .int .u8 0, .int .u8 0, .int .u8 0, .int .u8 0, .int .u8 0, .int .u8 0, .int .u8 0, .int .u8 0, .int .u8 0, .int .u8 0, .int .u8 0, .int .u8 0, .int .u8 0, .int .u8 0, .int .u8 0]
noncomputable def settled (os : Os) : World := World.holding Tryz.prog os ⟨#[], #[], []⟩
/-- A world for the witness: the settled one, the two tables as they are laid. -/
noncomputable def laidWorld (os : Os) : World := { settled os with heap := ((settled os).heap.modify 1 (putCells firstCells)).modify 2 (putCells rangeCells) }
theorem sized_mem {H : Type} {ts : List TypeId} {ds : List (DataW H)} (h : (DataW.weightsEach Tryz.prog ts ds).all (· ≤ reachBytes) = true) {j : Nat} {t : TypeId} {d : DataW H} (ht : ts[j]? = some t) (hd : ds[j]? = some d) : ∀ n ∈ d.weights Tryz.prog t, n ≤ reachBytes := by
  intro n hn
  have := List.all_eq_true.1 h _ (DataW.weights_mem_each ht hd n hn)
  simpa using this
end Go.Proofs.YtbfafijfhaejmaaGreatDoor

namespace Go.Proofs.YtbfafijfhaejmaaGreatDoor.poolOwes
open Go.ChangeShapes Go.WideShapes Go.ChangeAt Go.RowKit

theorem laid_met (os : Os) : laidMet Tryz.prog Rows.poolOwesRow.laid ((laidWorld os).forCall (fun _ _ => 0) ⟨#[], #[.int .i64 0, .slice none 0 0, .slice none 0 0], []⟩).memory :=
  laidMet_of_run' 8 (by kernel_rfl) (by kernel_rfl)
set_option maxRecDepth 100000 in
theorem lifted (os : Os) (started : os.Started) (H : Type) (enc : TypeId × Value → H) (F : Stop.Interp) :
    ReturnsInHanded {} Tryz.checked os 5 .any ((OpenSpec.ofChange Rows.poolOwesSpec).preRow enc Tryz.prog Tryz.f5 Rows.poolOwesRow.domain false Rows.poolOwesRow.laid) (((OpenSpec.ofChange Rows.poolOwesSpec).at F).post enc Tryz.prog Tryz.f5 false true false false) := by
  refine returnsInHanded_of_row (C := Tryz.checked) (s := OpenSpec.ofChange Rows.poolOwesSpec) ownKnob_none started (by kernel_rfl) Tryz.func5
    (witness_row_at (enc := enc) (C := Tryz.checked) false (laidWorld os) #[.int .i64 0, .slice none 0 0, .slice none 0 0] rfl (by kernel_rfl) (by kernel_rfl) (by kernel_rfl)
      (OpenSpec.preRow_of_cond (x := ([.lit (.int .i64 0), .nil, .nil], [], [])) 8 (by kernel_rfl) (by kernel_rfl) (fun k hk => by cases hk) (by kernel_rfl) (laid_met os))) ?_
  intro W base args ds gs before hval0 hW _ _ hsz _ _ _
  have hval : ∀ (j : Nat) t v, Tryz.f5.params[j]? = some t → args[j]? = some v → Value.okWide Tryz.prog W .any base t v := hval0
  have hW' := hW
  obtain ⟨p, q, hA0, hV, rfl, hfz, hnd⟩ := hW
  have hA : DataW.TrodAll enc Tryz.prog W 0 (fun _ => true) true Tryz.f5.params.toList args.toList ds p := hA0
  rw [Tryz.params5] at hA hval hsz
  obtain ⟨v0, vs0, d0, ds0, p0, q0, hargs, rfl, rfl, h0, r0⟩ := trodAll_cons hA
  obtain ⟨v1, vs1, d1, ds1, p1, q1, hargs1, rfl, rfl, h1, r1⟩ := trodAll_cons r0
  obtain ⟨v2, vs2, d2, ds2, p2, q2, hargs2, rfl, rfl, h2, r2⟩ := trodAll_cons r1
  obtain ⟨rfl, rfl, rfl⟩ := trodAll_nil r2
  obtain rfl : args = #[v0, v1, v2] := by cases args; simp_all
  obtain ⟨rfl, rfl⟩ := trodVars_none hV
  obtain ⟨a0, rfl, rfl, rfl, w0⟩ := open_int Tryz.underlying3 (hval 0 3 v0 rfl rfl) h0
  obtain ⟨B, ao, cp, l, rfl, hat⟩ := open_oops (hval 1 22 v1 rfl rfl) h1 (sized_mem hsz (j := 1) rfl rfl)
  obtain ⟨Bp, ap, cpp, lp, rfl, hatp⟩ := open_intsArg (hval 2 54 v2 rfl rfl) h2
  have lt1 : ∀ x ∈ p1, x.block < W.heap.size := fun x hx => hW'.lt x (by simp [hx])
  have lt2 : ∀ x ∈ p2, x.block < W.heap.size := fun x hx => hW'.lt x (by simp [hx])
  clear hA0 hval0
  simp only [List.append_nil] at hW'
  refine (owes_law W a0 B cp ao l hat Bp cpp ap lp hatp).mono fun e W' ⟨he, ho⟩ => ?_
  subst he
  have bel : Below W.heap.size W W' := ho.below (Nat.le_refl _) (fun _ _ h => h)
  exact ⟨_, rfl, _, _, _, [], _, [], hW', trodAll_mk1 (shut_bool Tryz.underlying4 _), (trodAll_cons_mk (shut_int Tryz.underlying3 w0) (trodAll_cons_mk (Below.trod Tryz.laidOut (by kernel_rfl) (of_decide_eq_true (by kernel_rfl)) h1 bel lt1) (trodAll_cons_mk (Below.trod Tryz.laidOut (by kernel_rfl) (of_decide_eq_true (by kernel_rfl)) h2 bel lt2) trodAll_mk0))), rfl, bel.frame _, fun h => by cases h⟩

theorem said : Rows.PoolOwesSaid :=
  OpenClaim.holds_of_cond 5 Tryz.f5 rfl rfl rfl rfl rfl rfl rfl ⟨rfl, rfl, rfl, rfl, rfl⟩ rfl rfl rfl rfl rfl (by kernel_rfl) Tryz.func5 (by kernel_rfl)
    (of_decide_eq_true (by kernel_rfl)) (by unfold Func.isWrapper; first | (rw [if_pos (by decide +kernel)]; kernel_rfl) | (rw [if_neg (by decide +kernel)]; exact ⟨rfl, rfl⟩))
    (fun os started H enc _ F => by rw [OpenClaim.pre_eq_preRow]; exact lifted os started H enc F)
theorem plain (f : FuncId) (fn : Func) (hf : Tryz.pinned.checked.prog.funcNamed "almonry/almonrylaw06.PoolOwes" = some f) (hfn : Tryz.pinned.checked.prog.funcs[f]? = some fn) :
    false = Tryz.pinned.checked.prog.looks [] ∧ ∀ (j : Nat) t, fn.params[j]? = some t → Tryz.pinned.checked.prog.wantsStandIn t = false := by
  obtain rfl : f = 5 := Option.some.inj ((show Tryz.prog.funcNamed "almonry/almonrylaw06.PoolOwes" = some 5 by kernel_rfl).symm.trans hf) |>.symm
  obtain rfl : fn = Tryz.f5 := (Option.some.inj (Tryz.func5.symm.trans hfn)).symm
  refine ⟨by kernel_rfl, fun j t ht => ?_⟩
  rw [Tryz.params5] at ht
  have ht' : t = 3 ∨ t = 22 ∨ t = 54 := by simpa using Array.mem_of_getElem? ht
  rcases ht' with e | e | e <;> subst e
  · exact (show Tryz.prog.wantsStandIn 3 = false by kernel_rfl)
  · exact (show Tryz.prog.wantsStandIn 22 = false by kernel_rfl)
  · exact (show Tryz.prog.wantsStandIn 54 = false by kernel_rfl)
theorem card : Rows.PoolOwesCardSaid :=
  Claim7.holds_tied_plain_at .later [] _ _ _ _ said (fun _ h => by cases h) (by kernel_rfl) (fun _ h => by cases h) poolOwes_row_tie rfl ⟨rfl, rfl⟩ (by kernel_rfl) rfl plain (by kernel_rfl)
end Go.Proofs.YtbfafijfhaejmaaGreatDoor.poolOwes
namespace Go.Proofs.YtbfafijfhaejmaaGreatDoor
theorem poolOwes_holds : Rows.PoolOwesCardSaid := poolOwes.card
#print axioms poolOwes_holds
end Go.Proofs.YtbfafijfhaejmaaGreatDoor
