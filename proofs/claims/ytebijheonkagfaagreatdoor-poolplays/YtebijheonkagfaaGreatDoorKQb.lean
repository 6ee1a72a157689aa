/- A frame that holds none is taken. -/
import Derived.Test.YtebijheonkagfaaGreatDoorKQa
import Derived.Test.YtebijheonkagfaaGreatDoorKB
namespace Go.Proofs.YtebijheonkagfaaGreatDoor
open Go.RowKit
theorem ld_pLog {w : World} {p : Addr} {v : Value} (h : w.cell? p = some v) : (loadVar 30 p).run Tryz.prog w = .ok v w := by simp [loadVar, go_sem, h]
structure Sh (W : World) (p d l fb mb g m : Nat) (P : Pl) (D : Dk) (G : Lg) (B : Nat) (ao : Option Addr) (cp : Nat) (v8 : Value) (T : Nat → Prop) : Prop where
  pool : PoolAt W p d l fb mb P T
  dsk : Dsk W d g m D
  log : LogAt W l d G B ao cp v8
  ok : G.Ok
  sf : G.start ≤ G.flushed
  tb : G.tail < 4294967295
  xp : ¬ own d g m p ∧ p ≠ l
  xf : ¬ own d g m fb ∧ fb ≠ l
  xm : ¬ own d g m mb ∧ mb ≠ l
  xT : ∀ k, T k → ¬ own d g m k ∧ k ≠ l
  xl : ¬ own d g m l
  xB : 0 < G.stream.length → ¬ own d g m B ∧ B ≠ l ∧ B ≠ p ∧ B ≠ fb ∧ B ≠ mb ∧ ¬ T B
theorem Sh.more {W W' : World} {p d l fb mb g m : Nat} {P : Pl} {D : Dk} {G : Lg} {B : Nat} {ao : Option Addr} {cp : Nat} {v8 : Value} {T : Nat → Prop} (h : Sh W p d l fb mb g m P D G B ao cp v8 T) (ho : Only (fun _ => False) W W') : Sh W' p d l fb mb g m P D G B ao cp v8 T :=
  ⟨h.pool.more ho, h.dsk.same ho, h.log.more ho, h.ok, h.sf, h.tb, h.xp, h.xf, h.xm, h.xT, h.xl, h.xB⟩
theorem Sh.disk {W W' : World} {p d l fb mb g m : Nat} {P : Pl} {D D' : Dk} {G : Lg} {B : Nat} {ao : Option Addr} {cp : Nat} {v8 : Value} {T : Nat → Prop} (h : Sh W p d l fb mb g m P D G B ao cp v8 T) (ho : Only (own d g m) W W') (hD : Dsk W' d g m D') : Sh W' p d l fb mb g m P D' G B ao cp v8 T :=
  ⟨h.pool.kept ho h.xp.1 h.xf.1 h.xm.1 (fun k hk => (h.xT k hk).1), hD, h.log.kept ho h.xl (fun h0 => (h.xB h0).1), h.ok, h.sf, h.tb, h.xp, h.xf, h.xm, h.xT, h.xl, h.xB⟩
theorem Sh.logd {W W' : World} {p d l fb mb g m : Nat} {P : Pl} {D D' : Dk} {G G' : Lg} {B : Nat} {ao : Option Addr} {cp : Nat} {v8 : Value} {T : Nat → Prop} (h : Sh W p d l fb mb g m P D G B ao cp v8 T) (ho : Only (fun k => own d g m k ∨ k = l) W W') (hD : Dsk W' d g m D') (hL : LogAt W' l d G' B ao cp v8) (ok : G'.Ok) (sf : G'.start ≤ G'.flushed) (tb : G'.tail < 4294967295) (he : G'.stream = G.stream) : Sh W' p d l fb mb g m P D' G' B ao cp v8 T :=
  ⟨h.pool.kept ho (fun e => e.elim h.xp.1 h.xp.2) (fun e => e.elim h.xf.1 h.xf.2) (fun e => e.elim h.xm.1 h.xm.2) (fun k hk e => e.elim (h.xT k hk).1 (h.xT k hk).2), hD, hL, ok, sf, tb, h.xp, h.xf, h.xm, h.xT, h.xl, by rw [he]; exact h.xB⟩
theorem Sh.pooled {W W' : World} {p d l fb mb mb' g m : Nat} {P P' : Pl} {D : Dk} {G : Lg} {B : Nat} {ao : Option Addr} {cp : Nat} {v8 : Value} {T T' S : Nat → Prop} (h : Sh W p d l fb mb g m P D G B ao cp v8 T) (ho : Only S W W') (hS : ∀ k, k < W.heap.size → S k → k = p ∨ k = fb ∨ k = mb ∨ T k) (hP : PoolAt W' p d l fb mb' P' T') (hT : ∀ k, T' k → T k) (hm : mb' = mb ∨ T mb') : Sh W' p d l fb mb' g m P' D G B ao cp v8 T' := by
  have hx : ∀ k, k = p ∨ k = fb ∨ k = mb ∨ T k → ¬ own d g m k ∧ k ≠ l := fun k hk => by
    rcases hk with rfl | rfl | rfl | hk
    · exact h.xp
    · exact h.xf
    · exact h.xm
    · exact h.xT k hk
  have ho2 : Only (fun k => k = p ∨ k = fb ∨ k = mb ∨ T k) W W' := ho.mono (fun k hk e => hS k hk e); refine ⟨hP, h.dsk.kept ho2 (fun e => (hx d e).1 (.inl rfl)) (fun e => (hx g e).1 (.inr (.inl rfl))) (fun e => (hx m e).1 (.inr (.inr rfl))), h.log.kept ho2 (fun e => (hx l e).2 rfl) (fun h0 e => ?_), h.ok, h.sf, h.tb, h.xp, h.xf, ?_, fun k hk => h.xT k (hT k hk), h.xl, fun h0 => ?_⟩
  · obtain ⟨_, _, b1, b2, b3, b4⟩ := h.xB h0
    rcases e with e | e | e | e
    · exact b1 e
    · exact b2 e
    · exact b3 e
    · exact b4 e
  · rcases hm with rfl | hm
    · exact h.xm
    · exact h.xT _ hm
  · obtain ⟨a1, a2, b1, b2, b3, b4⟩ := h.xB h0
    refine ⟨a1, a2, b1, b2, ?_, fun e => b4 (hT _ e)⟩
    rcases hm with rfl | hm
    · exact b3
    · exact fun e => b4 (e ▸ hm)
theorem lflushed_any (w : World) (l d : Nat) (G : Lg) (B : Nat) (ao : Option Addr) (cp : Nat) (v8 : Value) (h : LogAt w l d G B ao cp v8) : Calls Tryz.prog 38 #[.pointer (some ⟨l, 0, none⟩)] w fun e w' => e = .returned (.int .i64 (G.flushed : Int)) ∧ w' = w := by
  have h5 := h.c5
  go_enter Tryz.func38, Tryz.ntmps38
  go_wp2
  go_ret
  exact ⟨rfl, rfl⟩
def Lg.fl (G : Lg) (D : Dk) : Dk × Int × Nat := if G.flushed = G.tail then (D, 0, G.flushed) else G.flush D
theorem fl_le (G : Lg) (D : Dk) (h : G.flushed ≤ G.tail) : G.flushed ≤ (G.fl D).2.2 ∧ (G.fl D).2.2 ≤ G.tail := by
  unfold Lg.fl Lg.flush
  split
  · exact ⟨Nat.le_refl _, h⟩
  · dsimp only
    split
    · split
      · exact ⟨h, Nat.le_refl _⟩
      · exact ⟨Nat.le_refl _, h⟩
    · exact ⟨Nat.le_refl _, h⟩
theorem sh_flush {W : World} {p d l fb mb g m : Nat} {P : Pl} {D : Dk} {G : Lg} {B : Nat} {ao : Option Addr} {cp : Nat} {v8 : Value} {T : Nat → Prop} (h : Sh W p d l fb mb g m P D G B ao cp v8 T) (at_ : Int) (h1 : ¬ at_ < (G.flushed : Int)) :
    Calls Tryz.prog 96 #[.pointer (some ⟨l, 0, none⟩), .int .i64 at_] W fun e w' => e = .returned (.int .i64 (G.fl D).2.1) ∧ Sh w' p d l fb mb g m P (G.fl D).1 { G with flushed := (G.fl D).2.2 } B ao cp v8 T ∧ Only (fun k => own d g m k ∨ k = l) W w' := by
  have hle := fl_le G D h.ok.fl
  by_cases h2 : G.flushed = G.tail
  · have e : G.fl D = (D, 0, G.flushed) := by unfold Lg.fl; rw [if_pos h2]
    rw [e]; refine (flush_done W l d G B ao cp v8 h.log at_ h1 h2).mono ?_; rintro e w' ⟨rfl, ho⟩
    exact ⟨rfl, h.more ho, ho.mono (fun _ _ h => h.elim)⟩
  · have e : G.fl D = G.flush D := by unfold Lg.fl; rw [if_neg h2]
    rw [e] at hle ⊢; refine (flush_any W l d g m D h.dsk G B ao cp v8 h.log h.xl (fun h0 => (h.xB h0).1) (fun h0 => (h.xB h0).2.1) h.ok h.tb h.sf at_ h1 h2).mono ?_; rintro e w' ⟨rfl, hD, hL, ho⟩; have a1 := h.sf
    exact ⟨rfl, h.logd ho hD hL ⟨h.ok.st, h.ok.tl, h.ok.big, hle.2, h.ok.n4, h.ok.nb, h.ok.fb, h.ok.rs, h.ok.ln⟩ (Nat.le_trans a1 hle.1) h.tb rfl, ho⟩
theorem sh_synced {W : World} {p d l fb mb g m : Nat} {P : Pl} {D : Dk} {G : Lg} {B : Nat} {ao : Option Addr} {cp : Nat} {v8 : Value} {T : Nat → Prop} (h : Sh W p d l fb mb g m P D G B ao cp v8 T) :
    Calls Tryz.prog 23 #[.pointer (some ⟨p, 0, none⟩)] W fun e w' => e = .returned (.tuple #[]) ∧ Sh w' p d l fb W.heap.size g m P.synced D G B ao cp v8 (fun B => T B ∧ B ≠ W.heap.size) ∧ Only (fun k => k = p) W w' := by
  refine (synced_any W p d l fb mb P T h.pool).mono ?_; rintro e w' ⟨rfl, hP, ho⟩
  exact ⟨rfl, h.pooled ho (fun k _ e => .inl e) hP (fun k hk => hk.1) (.inr (h.pool.new _ (Nat.le_refl _))), ho⟩
theorem PoolAt.mark {T : Nat → Prop} {W : World} {p d l fb mb : Nat} {P : Pl} (h : PoolAt W p d l fb mb P T) (i : Nat) (hi : i < P.fs.length) (F : Fm) (hF : P.fs[i] = F) (b : Bool) (hn : F.num = -1 ∧ b = false ∨ 0 ≤ F.num ∧ F.num < (P.pages : Int)) :
    PoolAt (W.setCell ⟨fb, i * 8 + 7, Option.none⟩ (.bool b)) p d l fb mb (P.setF i { F with chg := b }) T := by
  obtain ⟨⟨B, ao, cp, h1, h2, h3, h4⟩, h5, h6⟩ := h.fr i hi; rw [hF] at h1 h2 h3 h4 h5 h6
  have hB2 : 0 < F.pg.items.length → B ≠ fb := fun h0 e => h.t2 (e ▸ h4 h0)
  have ho : Only (fun k => k = fb) W (W.setCell ⟨fb, i * 8 + 7, Option.none⟩ (.bool b)) := Only.setCell (S := fun k => k = fb) W ⟨fb, i * 8 + 7, Option.none⟩ _ rfl
  have k : ∀ (j : Nat) (v : Value), W.cell? ⟨p, j, Option.none⟩ = some v → (W.setCell ⟨fb, i * 8 + 7, Option.none⟩ (.bool b)).cell? ⟨p, j, Option.none⟩ = some v := fun j v hj => (ho.cell (p := ⟨p, j, Option.none⟩) h.lt h.n1).trans hj
  have hlen : (P.setF i { F with chg := b }).fs.length = P.fs.length := by show (P.fs.set i _).length = _; simp
  have hne : ∀ B, T B → B ≠ fb := fun B hB e => h.t2 (e ▸ hB)
  refine ⟨k _ _ h.c0, k _ _ h.c1, k _ _ h.c2, k _ _ h.c3, ?_, k _ _ h.c5, fun j => (ho.frozen (p := ⟨p, j, Option.none⟩) h.lt h.n1).trans (h.fz j), Nat.lt_of_lt_of_le h.lt ho.size, fun j hj => ?_, fun j => by rw [World.frozen?_setCell]; exact h.ffz j, Nat.lt_of_lt_of_le h.flt ho.size, h.map.kept ho (fun e => h.n3 e.symm), h.n1, h.n2, h.n3, h.t1, h.t2, h.t3, ?_, h.np, h.nm, fun f hf => ?_, fun k hk => h.new k (Nat.le_trans ho.size hk)⟩
  · rw [hlen]; exact k _ _ h.c4
  · have hj' : j < P.fs.length := by rw [← hlen]; exact hj
    by_cases e : j = i
    · subst e
      rw [setF_same hj]; refine ⟨⟨B, ao, cp, fun q v hv => ?_, h2.kept ho hB2, h3, h4⟩, h5, h6⟩
      by_cases eq : q = 7
      · subst eq
        have : v = .bool b := by simp [Fm.cl] at hv; exact hv.symm
        subst this
        exact World.cell?_setCell_same _ _ _ (h1 7 _ rfl)
      · refine (World.cell?_setCell_other _ _ _ _ (by intro e; injection e with _ e; omega)).trans (h1 q v ?_)
        rw [← hv]; unfold Fm.cl
        rcases q with _ | _ | _ | _ | _ | _ | _ | _ | q
        all_goals first | rfl | omega
    · rw [setF_other hj hj' e]
      obtain ⟨⟨B2, ao2, cp2, g1, g2, g3, g4⟩, g5, g6⟩ := h.fr j hj'; refine ⟨⟨B2, ao2, cp2, fun q v hv => ?_, g2.kept ho (fun h0 => hne B2 (g4 h0)), g3, g4⟩, g5, g6⟩
      have hq : q < 8 := by have := (List.getElem?_eq_some_iff.1 hv).1; simpa [Fm.cl] using this
      exact (World.cell?_setCell_other _ _ _ _ (by intro e; injection e with _ e; omega)).trans (g1 q v hv)
  · rw [hlen]; exact h.nf
  · have hf' : f ∈ P.fs.set i { F with chg := b } := hf
    rcases List.mem_or_eq_of_mem_set hf' with hm | rfl
    · exact h.nn f hm
    · exact hn
structure Wo where
  c : Int
  P : Pl
  D : Dk
  G : Lg
def Pl.wr (P : Pl) (D : Dk) (G : Lg) (i : Nat) (F : Fm) : Wo :=
  if (D.write ((P.frm + 8 * F.num.toNat : Nat) : Int) F.pg.enc).2 = 0 then ⟨0, P.setF i { F with chg := false }, (D.write ((P.frm + 8 * F.num.toNat : Nat) : Int) F.pg.enc).1, G⟩
  else ⟨(D.write ((P.frm + 8 * F.num.toNat : Nat) : Int) F.pg.enc).2, P, (D.write ((P.frm + 8 * F.num.toNat : Nat) : Int) F.pg.enc).1, G⟩
noncomputable def Pl.write (P : Pl) (D : Dk) (G : Lg) (i : Nat) (F : Fm) : Wo :=
  if (G.flushed : Int) ≤ F.pg.lsn then (if (G.fl D).2.1 = 0 then P.synced.wr (G.fl D).1 { G with flushed := (G.fl D).2.2 } i F else ⟨(G.fl D).2.1, P, (G.fl D).1, { G with flushed := (G.fl D).2.2 }⟩)
  else P.wr D G i F
def ShR (w w' : World) (p d l fb mb g m : Nat) (B : Nat) (ao : Option Addr) (cp : Nat) (v8 : Value) (T : Nat → Prop) (o : Wo) : Prop :=
  ∃ mb' T', Sh w' p d l fb mb' g m o.P o.D o.G B ao cp v8 T' ∧ (∀ k, T' k → T k) ∧ (∀ k, k < w.heap.size → T k → T' k) ∧ (mb' = mb ∨ w.heap.size ≤ mb') ∧ Only (fun k => own d g m k ∨ k = l ∨ k = p ∨ k = fb ∨ k = mb) w w'
theorem FmAt.all {W : World} {fb o : Nat} {F : Fm} {T : Nat → Prop} (h : FmAt W fb o F T) : ∃ B ao cp, (W.cell? ⟨fb, o, none⟩ = some (.int .i64 F.pg.lsn) ∧ W.cell? ⟨fb, o + 1, none⟩ = some (.int .i64 F.pg.kind) ∧ W.cell? ⟨fb, o + 2, none⟩ = some (.int .i64 F.pg.level) ∧ W.cell? ⟨fb, o + 3, none⟩ = some (.int .i64 F.pg.right) ∧ W.cell? ⟨fb, o + 4, none⟩ = some (.string F.pg.high) ∧ W.cell? ⟨fb, o + 5, none⟩ = some (.slice ao F.pg.items.length cp)) ∧ Strs W B ao F.pg.items ∧ Fit ao F.pg.items.length cp ∧ (0 < F.pg.items.length → T B) := by
  obtain ⟨⟨B, ao, cp, h1, h2, h3, h4⟩, _⟩ := h
  exact ⟨B, ao, cp, ⟨h1 0 _ rfl, h1 1 _ rfl, h1 2 _ rfl, h1 3 _ rfl, h1 4 _ rfl, h1 5 _ rfl⟩, h2, h3, h4⟩
theorem enc_512 (p : Pg) (h : p.out.2 = 0) : p.out = (p.enc, 0) ∧ p.enc.length = 512 := by
  have h1 : p.inRange := by
    by_cases h1 : p.inRange
    · exact h1
    · rw [out_range h1] at h; cases h
  have h2 : p.fits := by
    by_cases h2 : p.fits
    · exact h2
    · rw [out_long h1 h2] at h; cases h
  exact ⟨out_ok h1 h2, enc_len p h2.2.2⟩
structure Tl (w W : World) (p d l fb mb g m : Nat) (P : Pl) (D : Dk) (G : Lg) (B : Nat) (ao : Option Addr) (cp : Nat) (v8 : Value) (T : Nat → Prop) (i : Nat) (F : Fm) (mb1 : Nat) (T1 : Nat → Prop) : Prop where
  sh : Sh W p d l fb mb1 g m P D G B ao cp v8 T1
  sub : ∀ k, T1 k → T k
  keep : ∀ k, k < w.heap.size → T k → T1 k
  mbn : mb1 = mb ∨ w.heap.size ≤ mb1
  only : Only (fun k => own d g m k ∨ k = l ∨ k = p ∨ k = fb ∨ k = mb) w W
  lt : i < P.fs.length
  at_ : P.fs[i] = F
  nn : 0 ≤ F.num ∧ F.num < (P.pages : Int)
  ok : F.pg.out.2 = 0
theorem Tl.more {w W W' : World} {p d l fb mb g m : Nat} {P : Pl} {D : Dk} {G : Lg} {B : Nat} {ao : Option Addr} {cp : Nat} {v8 : Value} {T : Nat → Prop} {i : Nat} {F : Fm} {mb1 : Nat} {T1 : Nat → Prop} (h : Tl w W p d l fb mb g m P D G B ao cp v8 T i F mb1 T1) (ho : Only (fun _ => False) W W') : Tl w W' p d l fb mb g m P D G B ao cp v8 T i F mb1 T1 :=
  ⟨h.sh.more ho, h.sub, h.keep, h.mbn, h.only.trans ho (fun _ _ e => e.elim), h.lt, h.at_, h.nn, h.ok⟩
theorem Tl.frame {w W : World} {p d l fb mb g m : Nat} {P : Pl} {D : Dk} {G : Lg} {B : Nat} {ao : Option Addr} {cp : Nat} {v8 : Value} {T : Nat → Prop} {i : Nat} {F : Fm} {mb1 : Nat} {T1 : Nat → Prop} (h : Tl w W p d l fb mb g m P D G B ao cp v8 T i F mb1 T1) : FmAt W fb (i * 8) F T1 := by
  have := h.sh.pool.fr i h.lt
  rwa [h.at_] at this
theorem Tl.wrote {w W W' : World} {p d l fb mb g m : Nat} {P : Pl} {D D' : Dk} {G : Lg} {B : Nat} {ao : Option Addr} {cp : Nat} {v8 : Value} {T : Nat → Prop} {i : Nat} {F : Fm} {mb1 : Nat} {T1 : Nat → Prop} (h : Tl w W p d l fb mb g m P D G B ao cp v8 T i F mb1 T1) (ho : Only (own d g m) W W') (hD : Dsk W' d g m D') : Tl w W' p d l fb mb g m P D' G B ao cp v8 T i F mb1 T1 :=
  ⟨h.sh.disk ho hD, h.sub, h.keep, h.mbn, h.only.trans ho (fun _ _ e => .inl e), h.lt, h.at_, h.nn, h.ok⟩
theorem Tl.res {w W : World} {p d l fb mb g m : Nat} {P : Pl} {D : Dk} {G : Lg} {B : Nat} {ao : Option Addr} {cp : Nat} {v8 : Value} {T : Nat → Prop} {i : Nat} {F : Fm} {mb1 : Nat} {T1 : Nat → Prop} (h : Tl w W p d l fb mb g m P D G B ao cp v8 T i F mb1 T1) (c : Int) : ShR w W p d l fb mb g m B ao cp v8 T ⟨c, P, D, G⟩ :=
  ⟨mb1, T1, h.sh, h.sub, h.keep, h.mbn, h.only⟩
theorem Tl.done {w W : World} {p d l fb mb g m : Nat} {P : Pl} {D : Dk} {G : Lg} {B : Nat} {ao : Option Addr} {cp : Nat} {v8 : Value} {T : Nat → Prop} {i : Nat} {F : Fm} {mb1 : Nat} {T1 : Nat → Prop} (h : Tl w W p d l fb mb g m P D G B ao cp v8 T i F mb1 T1) (c : Int) : ShR w (W.setCell ⟨fb, i * 8 + 7, none⟩ (.bool false)) p d l fb mb g m B ao cp v8 T ⟨c, P.setF i { F with chg := false }, D, G⟩ := by
  have ho : Only (fun k => k = fb) W (W.setCell ⟨fb, i * 8 + 7, none⟩ (.bool false)) := Only.setCell (S := fun k => k = fb) W ⟨fb, i * 8 + 7, none⟩ _ rfl
  exact ⟨mb1, T1, h.sh.pooled ho (fun k _ e => .inr (.inl e)) (h.sh.pool.mark i h.lt F h.at_ false (.inr h.nn)) (fun _ e => e) (.inl rfl), h.sub, h.keep, h.mbn, h.only.trans ho (fun _ _ e => .inr (.inr (.inr (.inl e))))⟩
set_option maxRecDepth 100000 in
set_option maxHeartbeats 3200000 in
theorem owrite_any (w : World) (p d l fb mb g m : Nat) (P : Pl) (D : Dk) (G : Lg) (B : Nat) (ao : Option Addr) (cp : Nat) (v8 : Value) (T : Nat → Prop) (h : Sh w p d l fb mb g m P D G B ao cp v8 T) (i : Nat) (hi : i < P.fs.length) (F : Fm) (hF : P.fs[i] = F) (hn : 0 ≤ F.num ∧ F.num < (P.pages : Int)) (hv : F.pg.out.2 = 0) :
    Calls Tryz.prog 66 #[.pointer (some ⟨p, 0, none⟩), .pointer (some ⟨fb, i * 8, none⟩)] w fun e w' =>
      e = .returned (.int .i64 (P.write D G i F).c) ∧ ShR w w' p d l fb mb g m B ao cp v8 T (P.write D G i F) := by
  have HT : Hid (Tl w w p d l fb mb g m P D G B ao cp v8 T i F mb T) := ⟨h, fun _ e => e, fun _ _ e => e, .inl rfl, Only.refl _ _, hi, hF, hn, hv⟩; have HL := hide (fun W (ho : Only (fun _ => False) w W) => lflushed_any W l d G B ao cp v8 (h.more ho).log); obtain ⟨R, hR⟩ : ∃ R, P.write D G i F = R := ⟨_, rfl⟩; rw [hR]; have HR := hide hR; have HI := hide hi; clear h hF hv hn hR hi
  go_enter Tryz.func66, Tryz.ntmps66
  go_upto_region 1 with fail
  by_cases hc : (G.flushed : Int) ≤ F.pg.lsn
  · have HC := hide hc
    have hd : decide ((G.flushed : Int) ≤ F.pg.lsn) = true := decide_eq_true hc; refine wp_region_noPanic ?_; refine wp_region_held_drew (S := fun W => Only (fun _ => False) w W) (by kernel_rfl) (Only.drew _ _) (fun hHeld => ?_); refine tkQ (i := 0) (oi := { dst := some 9, op := Op.move (Operand.tmp 0), type := 36, pos := "pool.go:194", after := #[], guard := none }) (v := .pointer (some ⟨p, 0, none⟩)) rfl (by kernel_rfl) (Or.inl ⟨by rfl, fun w' hSw => by clear hSw; go_simp⟩) (by assumption) ?_; simp only [Act.put, lsA, lsB, lsC]; refine tkQ (i := 5) (oi := { dst := some 14, op := Op.move (Operand.tmp 1), type := 102, pos := "pool.go:194", after := #[], guard := none }) (v := .pointer (some ⟨fb, i * 8, none⟩)) rfl (by kernel_rfl) (Or.inl ⟨by rfl, fun w' hSw => by clear hSw; go_simp⟩) (by assumption) ?_; simp only [Act.put, lsA, lsB, lsC]; refine tkQ (i := 1) (oi := { dst := some 10, op := Op.nilCheck (Operand.tmp 9), type := 0, pos := "pool.go:194", after := #[{ on := 0, ground := Ground.data }], guard := none }) (v := .pointer (some ⟨p, 0, none⟩)) rfl (by kernel_rfl) (Or.inl ⟨by rfl, fun w' hSw => by clear hSw; go_simp⟩) (by assumption) ?_; simp only [Act.put, lsA, lsB, lsC]; refine tkQ (i := 6) (oi := { dst := some 15, op := Op.nilCheck (Operand.tmp 14), type := 0, pos := "pool.go:194", after := #[{ on := 5, ground := Ground.data }], guard := none }) (v := .pointer (some ⟨fb, i * 8, none⟩)) rfl (by kernel_rfl) (Or.inl ⟨by rfl, fun w' hSw => by clear hSw; go_simp⟩) (by assumption) ?_
    simp only [Act.put, lsA, lsB, lsC]; refine tkQ (i := 2) (oi := { dst := some 11, op := Op.fieldAddr 96 (Operand.tmp 10) 1, type := 0, pos := "pool.go:194", after := #[{ on := 1, ground := Ground.data }], guard := none }) (v := .pointer (some ⟨p, 1, none⟩)) rfl (by kernel_rfl) (Or.inl ⟨by rfl, fun w' hSw => by clear hSw; go_simp⟩) (by assumption) ?_; simp only [Act.put, lsA, lsB, lsC]; refine tkQ (i := 7) (oi := { dst := some 16, op := Op.fieldAddr 93 (Operand.tmp 15) 0, type := 0, pos := "pool.go:194", after := #[{ on := 6, ground := Ground.data }], guard := none }) (v := .pointer (some ⟨fb, i * 8, none⟩)) rfl (by kernel_rfl) (Or.inl ⟨by rfl, fun w' hSw => by clear hSw; go_simp⟩) (by assumption) ?_; simp only [Act.put, lsA, lsB, lsC]; refine tkQ (i := 3) (oi := { dst := some 12, op := Op.load 30 (Operand.tmp 11), type := 30, pos := "pool.go:194", after := #[{ on := 2, ground := Ground.data }], guard := none }) (v := .pointer (some ⟨l, 0, none⟩)) rfl (by kernel_rfl) (yieldsIf_load_cell (by rfl) 30 _ rfl _ rfl (fun W hW => ((HT.out.more hW).sh.pool.c1)) (fun W hc => ld_pLog hc)) (by assumption) ?_; simp only [Act.put, lsA, lsB, lsC]; refine tkQ (i := 8) (oi := { dst := some 17, op := Op.fieldAddr 45 (Operand.tmp 16) 0, type := 0, pos := "pool.go:194", after := #[{ on := 7, ground := Ground.data }], guard := none }) (v := .pointer (some ⟨fb, i * 8, none⟩)) rfl (by kernel_rfl) (Or.inl ⟨by rfl, fun w' hSw => by clear hSw; go_simp⟩) (by assumption) ?_; simp only [Act.put, lsA, lsB, lsC]
    refine tkQ (i := 9) (oi := { dst := some 18, op := Op.load 3 (Operand.tmp 17), type := 3, pos := "pool.go:194", after := #[{ on := 8, ground := Ground.data }], guard := none }) (v := .int .i64 F.pg.lsn) rfl (by kernel_rfl) (yieldsIf_load_cell (by rfl) 3 _ rfl _ rfl (fun W hW => ((HT.out.more hW).frame.cells.1)) (fun W hc => ld_int hc)) (by assumption) ?_; simp only [Act.put, lsA, lsB, lsC]; refine wpAnyH_ready (rs := [4]) (by kernel_rfl) (by simp) ?_; refine AllReadyH.cons (o := { dst := some 13, op := Op.call { callee := Callee.value (Operand.func 38), args := #[Operand.tmp 12], argTypes := #[30] }, type := 3, pos := "pool.go:194", after := #[{ on := 3, ground := Ground.data }], guard := none }) rfl (fun K hK => ?_) (AllReadyH.nil)
    go_simp
    refine (HL.out _ hHeld).mono ?_; rintro e x1 ⟨rfl, hx1⟩; refine hK.out _ _ (by rw [hx1]; exact hHeld) (fun hHeld => ?_); clear hK K
    try simp only [Act.put, lsA, lsB, lsC]
    refine tkQ (i := 10) (oi := { dst := some 19, op := Op.binOp BinOp.leq 3 (Operand.tmp 13) (Operand.tmp 18) 3, type := 4, pos := "pool.go:194", after := #[{ on := 4, ground := Ground.data }, { on := 9, ground := Ground.data }], guard := none }) (v := .bool true) rfl (by kernel_rfl) (Or.inl ⟨by rfl, fun w' hSw => by clear hSw; go_simp⟩) (by assumption) ?_; simp only [Act.put, lsA, lsB, lsC]; refine wpAnyH_done (by kernel_rfl) ?_ _; refine NoPanic.normal ?_; have HT1 := hide (HT.out.more hHeld); clear hHeld HT HL hx1; clear hd hc; have HFL := hide (fun W (ho : Only (fun _ => False) x1 W) => sh_flush (HT1.out.sh.more ho) F.pg.lsn (by have := HC.out; omega)); have HLD := hide (fun W (hW : Only (fun k => own d g m k ∨ k = l) x1 W) => ((hW.cell (p := ⟨p, 1, none⟩) HT1.out.sh.pool.lt (fun e => e.elim HT1.out.sh.xp.1 HT1.out.sh.xp.2)).trans HT1.out.sh.pool.c1)); have HLF := hide (fun W (hW : Only (fun k => own d g m k ∨ k = l) x1 W) => ((hW.cell (p := ⟨fb, i * 8, none⟩) HT1.out.sh.pool.flt (fun e => e.elim HT1.out.sh.xf.1 HT1.out.sh.xf.2)).trans HT1.out.frame.cells.1))
    have HW : Hid ((if (G.fl D).2.1 = 0 then P.synced.wr (G.fl D).1 { G with flushed := (G.fl D).2.2 } i F else ⟨(G.fl D).2.1, P, (G.fl D).1, { G with flushed := (G.fl D).2.2 }⟩) = R) := by
      have hr := HR.out; unfold Pl.write at hr; rw [if_pos HC.out] at hr
      exact hr
    obtain ⟨D2, hD2⟩ : ∃ D2, (G.fl D).1 = D2 := ⟨_, rfl⟩; obtain ⟨c1, hc1⟩ : ∃ c1, (G.fl D).2.1 = c1 := ⟨_, rfl⟩; obtain ⟨f1, hf1⟩ : ∃ f1, (G.fl D).2.2 = f1 := ⟨_, rfl⟩; rw [hD2, hc1, hf1] at HW HFL; obtain ⟨G2, hG2⟩ : ∃ G2, { G with flushed := f1 } = G2 := ⟨_, rfl⟩; rw [hG2] at HW HFL; clear HR HC hD2 hc1 hf1 hG2 f1
    go_upto_region 2 with fail
    refine wp_region_noPanic ?_; refine wp_region_held_drew (S := fun W => Only (fun k => own d g m k ∨ k = l) x1 W) (by kernel_rfl) (Only.drew _ _) (fun hHeld => ?_); refine tkQ (i := 0) (oi := { dst := some 20, op := Op.move (Operand.tmp 0), type := 36, pos := "pool.go:195", after := #[], guard := none }) (v := .pointer (some ⟨p, 0, none⟩)) rfl (by kernel_rfl) (Or.inl ⟨by rfl, fun w' hSw => by clear hSw; go_simp⟩) (by assumption) ?_; simp only [Act.put, lsA, lsB, lsC]; refine tkQ (i := 4) (oi := { dst := some 24, op := Op.move (Operand.tmp 1), type := 102, pos := "pool.go:195", after := #[], guard := none }) (v := .pointer (some ⟨fb, i * 8, none⟩)) rfl (by kernel_rfl) (Or.inl ⟨by rfl, fun w' hSw => by clear hSw; go_simp⟩) (by assumption) ?_; simp only [Act.put, lsA, lsB, lsC]; refine tkQ (i := 1) (oi := { dst := some 21, op := Op.nilCheck (Operand.tmp 20), type := 0, pos := "pool.go:195", after := #[{ on := 0, ground := Ground.data }], guard := none }) (v := .pointer (some ⟨p, 0, none⟩)) rfl (by kernel_rfl) (Or.inl ⟨by rfl, fun w' hSw => by clear hSw; go_simp⟩) (by assumption) ?_; simp only [Act.put, lsA, lsB, lsC]; refine tkQ (i := 5) (oi := { dst := some 25, op := Op.nilCheck (Operand.tmp 24), type := 0, pos := "pool.go:195", after := #[{ on := 4, ground := Ground.data }], guard := none }) (v := .pointer (some ⟨fb, i * 8, none⟩)) rfl (by kernel_rfl) (Or.inl ⟨by rfl, fun w' hSw => by clear hSw; go_simp⟩) (by assumption) ?_; simp only [Act.put, lsA, lsB, lsC]; refine tkQ (i := 2) (oi := { dst := some 22, op := Op.fieldAddr 96 (Operand.tmp 21) 1, type := 0, pos := "pool.go:195", after := #[{ on := 1, ground := Ground.data }], guard := none }) (v := .pointer (some ⟨p, 1, none⟩)) rfl (by kernel_rfl) (Or.inl ⟨by rfl, fun w' hSw => by clear hSw; go_simp⟩) (by assumption) ?_
    simp only [Act.put, lsA, lsB, lsC]; refine tkQ (i := 6) (oi := { dst := some 26, op := Op.fieldAddr 93 (Operand.tmp 25) 0, type := 0, pos := "pool.go:195", after := #[{ on := 5, ground := Ground.data }], guard := none }) (v := .pointer (some ⟨fb, i * 8, none⟩)) rfl (by kernel_rfl) (Or.inl ⟨by rfl, fun w' hSw => by clear hSw; go_simp⟩) (by assumption) ?_; simp only [Act.put, lsA, lsB, lsC]; refine tkQ (i := 3) (oi := { dst := some 23, op := Op.load 30 (Operand.tmp 22), type := 30, pos := "pool.go:195", after := #[{ on := 2, ground := Ground.data }], guard := none }) (v := .pointer (some ⟨l, 0, none⟩)) rfl (by kernel_rfl) (yieldsIf_load_cell (by rfl) 30 _ rfl _ rfl (fun W hW => HLD.out W hW) (fun W hc => ld_pLog hc)) (by assumption) ?_; simp only [Act.put, lsA, lsB, lsC]; refine tkQ (i := 7) (oi := { dst := some 27, op := Op.fieldAddr 45 (Operand.tmp 26) 0, type := 0, pos := "pool.go:195", after := #[{ on := 6, ground := Ground.data }], guard := none }) (v := .pointer (some ⟨fb, i * 8, none⟩)) rfl (by kernel_rfl) (Or.inl ⟨by rfl, fun w' hSw => by clear hSw; go_simp⟩) (by assumption) ?_; simp only [Act.put, lsA, lsB, lsC]; refine tkQ (i := 8) (oi := { dst := some 28, op := Op.load 3 (Operand.tmp 27), type := 3, pos := "pool.go:195", after := #[{ on := 7, ground := Ground.data }], guard := none }) (v := .int .i64 F.pg.lsn) rfl (by kernel_rfl) (yieldsIf_load_cell (by rfl) 3 _ rfl _ rfl (fun W hW => HLF.out W hW) (fun W hc => ld_int hc)) (by assumption) ?_; simp only [Act.put, lsA, lsB, lsC]
    refine wpAnyH_ready (rs := [9]) (by kernel_rfl) (by simp) ?_; refine AllReadyH.cons (o := { dst := some 29, op := Op.call { callee := Callee.value (Operand.func 96), args := #[Operand.tmp 23, Operand.tmp 28], argTypes := #[30, 3] }, type := 24, pos := "pool.go:195", after := #[{ on := 3, ground := Ground.data }, { on := 8, ground := Ground.data }], guard := none }) rfl (fun K hK => ?_) (AllReadyH.nil)
    go_simp
    refine (HFL.out _ (Only.drew _ _)).mono ?_; rintro e x3 ⟨rfl, hs3, hx3⟩; have HX3 := hide hx3; have HS3 := hide hs3; clear hx3 hs3; refine hK.out _ _ (hHeld.trans HX3.out (fun _ _ h => h)) (fun hHeld => ?_); clear hK K
    try simp only [Act.put, lsA, lsB, lsC]
    refine tkQ (i := 10) (oi := { dst := some 5, op := Op.assign (Operand.tmp 29), type := 24, pos := "pool.go:195", after := #[{ on := 9, ground := Ground.data }, { on := 9, ground := Ground.chain }, { on := 0, ground := Ground.phase }, { on := 1, ground := Ground.phase }, { on := 2, ground := Ground.phase }, { on := 3, ground := Ground.phase }, { on := 4, ground := Ground.phase }, { on := 5, ground := Ground.phase }, { on := 6, ground := Ground.phase }, { on := 7, ground := Ground.phase }, { on := 8, ground := Ground.phase }, { on := 9, ground := Ground.phase }], guard := none }) (v := .int .i64 c1) rfl (by kernel_rfl) (Or.inl ⟨by rfl, fun w' hSw => by clear hSw; go_simp⟩) (by assumption) ?_; simp only [Act.put, lsA, lsB, lsC]; refine wpAnyH_done (by kernel_rfl) ?_ _; refine NoPanic.normal ?_; have HO3 := hide (HT1.out.only.trans hHeld (fun k _ e => by rcases e with e | e; exact .inl e; exact .inr (.inl e))); clear hHeld HX3 HLD HLF HFL
    by_cases hz : c1 = 0
    · have HW2 : Hid (P.synced.wr D2 G2 i F = R) := by
        have hr := HW.out; rw [if_pos hz] at hr
        exact hr
      subst hz; clear HW
      go_wp2_with fail
      refine (sh_synced HS3.out).mono ?_; rintro e w2 ⟨rfl, hs2, ho2⟩; have HTT : Hid (Tl w w2 p d l fb mb g m P.synced D2 G2 B ao cp v8 T i F x3.heap.size (fun B => T B ∧ B ≠ x3.heap.size)) := ⟨hs2, fun _ e => e.1, fun k hk e => ⟨e, by have := HO3.out.size; omega⟩, .inr HO3.out.size, HO3.out.trans ho2 (fun _ _ e => .inr (.inr (.inl e))), HI.out, HT1.out.at_, HT1.out.nn, HT1.out.ok⟩; have HW := HW2; clear HW2 hs2 ho2 HO3 HS3 HT1; obtain ⟨P1, D1, G1, mb1, T1, HT2, HR2⟩ : ∃ P1 D1 G1 mb1 T1, Hid (Tl w _ p d l fb mb g m P1 D1 G1 B ao cp v8 T i F mb1 T1) ∧ Hid (P1.wr D1 G1 i F = R) := ⟨_, _, _, _, _, HTT, HW⟩; clear HTT HW; obtain ⟨Bq, aq, cq, ⟨k0, k1, k2, k3, k4, k5⟩, hq, hfq, _⟩ := HT2.out.frame.all; have HQ := hide hq; have hqh := HT2.out.frame.high; have hql := HT2.out.frame.lsn; have HQB := hide (And.intro hqh hql); clear hq hfq hqh hql
      go_wp2_with fail
      refine (pencode_any _ F.pg.lsn F.pg.kind F.pg.level F.pg.right F.pg.high Bq cq aq F.pg.items HQ.out HQB.out.1 HQB.out.2).mono ?_; rintro e w3 ⟨rfl, ho3⟩; have HE := enc_512 F.pg HT2.out.ok; rw [show Pg.out ⟨F.pg.lsn, F.pg.kind, F.pg.level, F.pg.right, F.pg.high, F.pg.items⟩ = (F.pg.enc, 0) from HE.1]; have HT3 := hide (HT2.out.more ho3); obtain ⟨n, hn⟩ : ∃ n : Nat, F.num = (n : Int) := ⟨F.num.toNat, by have := HT3.out.nn; omega⟩
      have hnl : n < P1.pages := by have := HT3.out.nn; omega
      obtain ⟨N, hN⟩ : ∃ N, str F.pg.enc = N := ⟨_, rfl⟩
      have hNs : N.size = 512 := by rw [← hN, str_size, HE.2]
      have hNd : N.data.toList = F.pg.enc := by rw [← hN]; show F.pg.enc.toArray.toList = _; simp
      obtain ⟨A, hA⟩ : ∃ A : Nat, P1.frm + 8 * n = A := ⟨_, rfl⟩
      have hAb : A ≤ 200000 := by have := HT3.out.sh.pool.nm; have := HT3.out.sh.pool.np.2; omega
      have HWR := hide (fun W (hW : Dsk W d g m D1) => write_any W d g m D1 hW (A : Int) N (by omega) (by omega)); have HSE := hide (fun W (hW : Only (own d g m) w3 W) => sector_at W p d l fb mb1 P1 T1 (HT3.out.sh.pool.kept hW HT3.out.sh.xp.1 HT3.out.sh.xf.1 HT3.out.sh.xm.1 (fun k hk => (HT3.out.sh.xT k hk).1)) n hnl); rw [hNd] at HWR; rw [hA] at HSE
      have HR3 : Hid ((if (D1.write (A : Int) F.pg.enc).2 = 0 then (⟨0, P1.setF i { F with chg := false }, (D1.write (A : Int) F.pg.enc).1, G1⟩ : Wo) else ⟨(D1.write (A : Int) F.pg.enc).2, P1, (D1.write (A : Int) F.pg.enc).1, G1⟩) = R) := by
        have hr := HR2.out; unfold Pl.wr at hr; rw [show F.num.toNat = n by omega, hA] at hr
        exact hr
      obtain ⟨D2, hD2⟩ : ∃ D2, (D1.write (A : Int) F.pg.enc).1 = D2 := ⟨_, rfl⟩; obtain ⟨c2, hc2⟩ : ∃ c2, (D1.write (A : Int) F.pg.enc).2 = c2 := ⟨_, rfl⟩; rw [hD2, hc2] at HWR HR3; have HLD := hide (fun W (hW : Only (own d g m) w3 W) => ((hW.cell (p := ⟨p, 0, none⟩) HT3.out.sh.pool.lt HT3.out.sh.xp.1).trans HT3.out.sh.pool.c0)); have HLF := hide (fun W (hW : Only (own d g m) w3 W) => ((hW.cell (p := ⟨fb, i * 8 + 6, none⟩) HT3.out.sh.pool.flt HT3.out.sh.xf.1).trans HT3.out.frame.cells.2.1)); rw [hn] at HLF; rw [hN]; clear hN hNs hNd hA hAb hD2 hc2 HE HT2 HR2 hnl hn ho3 k0 k1 k2 k3 k4 k5 HQ HQB
      go_upto_region 9 with fail
      refine wp_region_noPanic ?_; refine wp_region_held_drew (S := fun W => Only (own d g m) w3 W) (by kernel_rfl) (Only.drew _ _) (fun hHeld => ?_); refine tkQ (i := 0) (oi := { dst := some 46, op := Op.move (Operand.tmp 0), type := 36, pos := "pool.go:204", after := #[], guard := none }) (v := .pointer (some ⟨p, 0, none⟩)) rfl (by kernel_rfl) (Or.inl ⟨by rfl, fun w' hSw => by clear hSw; go_simp⟩) (by assumption) ?_; simp only [Act.put, lsA, lsB, lsC]; refine tkQ (i := 4) (oi := { dst := some 50, op := Op.move (Operand.tmp 0), type := 36, pos := "pool.go:204", after := #[], guard := none }) (v := .pointer (some ⟨p, 0, none⟩)) rfl (by kernel_rfl) (Or.inl ⟨by rfl, fun w' hSw => by clear hSw; go_simp⟩) (by assumption) ?_; simp only [Act.put, lsA, lsB, lsC]; refine tkQ (i := 5) (oi := { dst := some 51, op := Op.move (Operand.tmp 1), type := 102, pos := "pool.go:204", after := #[], guard := none }) (v := .pointer (some ⟨fb, i * 8, none⟩)) rfl (by kernel_rfl) (Or.inl ⟨by rfl, fun w' hSw => by clear hSw; go_simp⟩) (by assumption) ?_; simp only [Act.put, lsA, lsB, lsC]; refine tkQ (i := 10) (oi := { dst := some 56, op := Op.move (Operand.tmp 6), type := 9, pos := "pool.go:204", after := #[], guard := none }) (v := .string N) rfl (by kernel_rfl) (Or.inl ⟨by rfl, fun w' hSw => by clear hSw; go_simp⟩) (by assumption) ?_; simp only [Act.put, lsA, lsB, lsC]; refine tkQ (i := 1) (oi := { dst := some 47, op := Op.nilCheck (Operand.tmp 46), type := 0, pos := "pool.go:204", after := #[{ on := 0, ground := Ground.data }], guard := none }) (v := .pointer (some ⟨p, 0, none⟩)) rfl (by kernel_rfl) (Or.inl ⟨by rfl, fun w' hSw => by clear hSw; go_simp⟩) (by assumption) ?_
      simp only [Act.put, lsA, lsB, lsC]; refine tkQ (i := 6) (oi := { dst := some 52, op := Op.nilCheck (Operand.tmp 51), type := 0, pos := "pool.go:204", after := #[{ on := 5, ground := Ground.data }], guard := none }) (v := .pointer (some ⟨fb, i * 8, none⟩)) rfl (by kernel_rfl) (Or.inl ⟨by rfl, fun w' hSw => by clear hSw; go_simp⟩) (by assumption) ?_; simp only [Act.put, lsA, lsB, lsC]; refine tkQ (i := 2) (oi := { dst := some 48, op := Op.fieldAddr 96 (Operand.tmp 47) 0, type := 0, pos := "pool.go:204", after := #[{ on := 1, ground := Ground.data }], guard := none }) (v := .pointer (some ⟨p, 0, none⟩)) rfl (by kernel_rfl) (Or.inl ⟨by rfl, fun w' hSw => by clear hSw; go_simp⟩) (by assumption) ?_; simp only [Act.put, lsA, lsB, lsC]; refine tkQ (i := 7) (oi := { dst := some 53, op := Op.fieldAddr 93 (Operand.tmp 52) 1, type := 0, pos := "pool.go:204", after := #[{ on := 6, ground := Ground.data }], guard := none }) (v := .pointer (some ⟨fb, i * 8 + 6, none⟩)) rfl (by kernel_rfl) (Or.inl ⟨by rfl, fun w' hSw => by clear hSw; go_simp⟩) (by assumption) ?_; simp only [Act.put, lsA, lsB, lsC]; refine tkQ (i := 3) (oi := { dst := some 49, op := Op.load 23 (Operand.tmp 48), type := 23, pos := "pool.go:204", after := #[{ on := 2, ground := Ground.data }], guard := none }) (v := .pointer (some ⟨d, 0, none⟩)) rfl (by kernel_rfl) (yieldsIf_load_cell (by rfl) 23 _ rfl _ rfl (fun W hW => HLD.out W hW) (fun W hc => ld_pDisk hc)) (by assumption) ?_; simp only [Act.put, lsA, lsB, lsC]; refine tkQ (i := 8) (oi := { dst := some 54, op := Op.load 3 (Operand.tmp 53), type := 3, pos := "pool.go:204", after := #[{ on := 7, ground := Ground.data }], guard := none }) (v := .int .i64 (n : Int)) rfl (by kernel_rfl) (yieldsIf_load_cell (by rfl) 3 _ rfl _ rfl (fun W hW => HLF.out W hW) (fun W hc => ld_int hc)) (by assumption) ?_
      simp only [Act.put, lsA, lsB, lsC]; refine wpAnyH_ready (rs := [9]) (by kernel_rfl) (by simp) ?_; refine AllReadyH.cons (o := { dst := some 55, op := Op.call { callee := Callee.value (Operand.func 84), args := #[Operand.tmp 50, Operand.tmp 54], argTypes := #[36, 3] }, type := 3, pos := "pool.go:204", after := #[{ on := 4, ground := Ground.data }, { on := 8, ground := Ground.data }], guard := none }) rfl (fun K hK => ?_) (AllReadyH.nil)
      go_simp
      refine (HSE.out _ hHeld).mono ?_; rintro e x1 ⟨rfl, hx1⟩; obtain rfl := hx1.symm; clear hx1; refine hK.out _ _ (hHeld) (fun hHeld => ?_); clear hK K
      try simp only [Act.put, lsA, lsB, lsC]
      refine wpAnyH_ready (rs := [11]) (by kernel_rfl) (by simp) ?_; refine AllReadyH.cons (o := { dst := some 57, op := Op.call { callee := Callee.value (Operand.func 41), args := #[Operand.tmp 49, Operand.tmp 55, Operand.tmp 56], argTypes := #[23, 3, 9] }, type := 24, pos := "pool.go:204", after := #[{ on := 3, ground := Ground.data }, { on := 9, ground := Ground.data }, { on := 10, ground := Ground.data }, { on := 9, ground := Ground.chain }], guard := none }) rfl (fun K hK => ?_) (AllReadyH.nil)
      go_simp
      refine (HWR.out _ (HT3.out.sh.dsk.same (Only.drew _ _))).mono ?_; rintro e x3 ⟨rfl, hd3, hx3⟩; have HX3 := hide hx3; have HD3 := hide hd3; clear hx3 hd3; refine hK.out _ _ (hHeld.trans HX3.out (fun _ _ h => h)) (fun hHeld => ?_); clear hK K
      try simp only [Act.put, lsA, lsB, lsC]
      refine tkQ (i := 12) (oi := { dst := some 8, op := Op.assign (Operand.tmp 57), type := 24, pos := "pool.go:204", after := #[{ on := 11, ground := Ground.data }, { on := 11, ground := Ground.chain }, { on := 0, ground := Ground.phase }, { on := 1, ground := Ground.phase }, { on := 2, ground := Ground.phase }, { on := 3, ground := Ground.phase }, { on := 4, ground := Ground.phase }, { on := 5, ground := Ground.phase }, { on := 6, ground := Ground.phase }, { on := 7, ground := Ground.phase }, { on := 8, ground := Ground.phase }, { on := 9, ground := Ground.phase }, { on := 10, ground := Ground.phase }, { on := 11, ground := Ground.phase }], guard := none }) (v := .int .i64 c2) rfl (by kernel_rfl) (Or.inl ⟨by rfl, fun w' hSw => by clear hSw; go_simp⟩) (by assumption) ?_; simp only [Act.put, lsA, lsB, lsC]; refine wpAnyH_done (by kernel_rfl) ?_ _; refine NoPanic.normal ?_; have HT4 := hide (HT3.out.wrote hHeld HD3.out); clear hHeld HD3 HX3 HT3 HLD HLF HSE HWR
      by_cases hz : c2 = 0
      · have HR4 := HR3.out
        rw [if_pos hz] at HR4; subst hz; have HR5 := hide HR4; clear HR4 HR3; have k7 := HT4.out.frame.cells.2.2; have f7 := HT4.out.sh.pool.ffz (i * 8 + 7)
        go_wp2_with fail
        go_ret
        rw [← HR5.out]
        exact ⟨rfl, HT4.out.done 0⟩
      · have HR4 := HR3.out
        rw [if_neg hz] at HR4; have HR5 := hide HR4
        have hb : (c2 == 0) = false := by simp [hz]
        clear HR4 HR3 hz
        go_wp2_with fail
        go_ret
        rw [← HR5.out]
        exact ⟨rfl, HT4.out.res c2⟩
    · have HW2 : Hid (⟨c1, P, D2, G2⟩ = R) := by
        have hr := HW.out; rw [if_neg hz] at hr
        exact hr
      have hb : (c1 == 0) = false := by simp [hz]
      clear HW hz
      go_wp2_with fail
      go_ret
      rw [← HW2.out]
      exact ⟨rfl, mb, T, HS3.out, fun _ e => e, fun _ _ e => e, .inl rfl, HO3.out⟩
  · have HC := hide hc
    have hd : decide ((G.flushed : Int) ≤ F.pg.lsn) = false := decide_eq_false hc; refine wp_region_noPanic ?_; refine wp_region_held_drew (S := fun W => Only (fun _ => False) w W) (by kernel_rfl) (Only.drew _ _) (fun hHeld => ?_); refine tkQ (i := 0) (oi := { dst := some 9, op := Op.move (Operand.tmp 0), type := 36, pos := "pool.go:194", after := #[], guard := none }) (v := .pointer (some ⟨p, 0, none⟩)) rfl (by kernel_rfl) (Or.inl ⟨by rfl, fun w' hSw => by clear hSw; go_simp⟩) (by assumption) ?_; simp only [Act.put, lsA, lsB, lsC]; refine tkQ (i := 5) (oi := { dst := some 14, op := Op.move (Operand.tmp 1), type := 102, pos := "pool.go:194", after := #[], guard := none }) (v := .pointer (some ⟨fb, i * 8, none⟩)) rfl (by kernel_rfl) (Or.inl ⟨by rfl, fun w' hSw => by clear hSw; go_simp⟩) (by assumption) ?_; simp only [Act.put, lsA, lsB, lsC]; refine tkQ (i := 1) (oi := { dst := some 10, op := Op.nilCheck (Operand.tmp 9), type := 0, pos := "pool.go:194", after := #[{ on := 0, ground := Ground.data }], guard := none }) (v := .pointer (some ⟨p, 0, none⟩)) rfl (by kernel_rfl) (Or.inl ⟨by rfl, fun w' hSw => by clear hSw; go_simp⟩) (by assumption) ?_; simp only [Act.put, lsA, lsB, lsC]; refine tkQ (i := 6) (oi := { dst := some 15, op := Op.nilCheck (Operand.tmp 14), type := 0, pos := "pool.go:194", after := #[{ on := 5, ground := Ground.data }], guard := none }) (v := .pointer (some ⟨fb, i * 8, none⟩)) rfl (by kernel_rfl) (Or.inl ⟨by rfl, fun w' hSw => by clear hSw; go_simp⟩) (by assumption) ?_
    simp only [Act.put, lsA, lsB, lsC]; refine tkQ (i := 2) (oi := { dst := some 11, op := Op.fieldAddr 96 (Operand.tmp 10) 1, type := 0, pos := "pool.go:194", after := #[{ on := 1, ground := Ground.data }], guard := none }) (v := .pointer (some ⟨p, 1, none⟩)) rfl (by kernel_rfl) (Or.inl ⟨by rfl, fun w' hSw => by clear hSw; go_simp⟩) (by assumption) ?_; simp only [Act.put, lsA, lsB, lsC]; refine tkQ (i := 7) (oi := { dst := some 16, op := Op.fieldAddr 93 (Operand.tmp 15) 0, type := 0, pos := "pool.go:194", after := #[{ on := 6, ground := Ground.data }], guard := none }) (v := .pointer (some ⟨fb, i * 8, none⟩)) rfl (by kernel_rfl) (Or.inl ⟨by rfl, fun w' hSw => by clear hSw; go_simp⟩) (by assumption) ?_; simp only [Act.put, lsA, lsB, lsC]; refine tkQ (i := 3) (oi := { dst := some 12, op := Op.load 30 (Operand.tmp 11), type := 30, pos := "pool.go:194", after := #[{ on := 2, ground := Ground.data }], guard := none }) (v := .pointer (some ⟨l, 0, none⟩)) rfl (by kernel_rfl) (yieldsIf_load_cell (by rfl) 30 _ rfl _ rfl (fun W hW => ((HT.out.more hW).sh.pool.c1)) (fun W hc => ld_pLog hc)) (by assumption) ?_; simp only [Act.put, lsA, lsB, lsC]; refine tkQ (i := 8) (oi := { dst := some 17, op := Op.fieldAddr 45 (Operand.tmp 16) 0, type := 0, pos := "pool.go:194", after := #[{ on := 7, ground := Ground.data }], guard := none }) (v := .pointer (some ⟨fb, i * 8, none⟩)) rfl (by kernel_rfl) (Or.inl ⟨by rfl, fun w' hSw => by clear hSw; go_simp⟩) (by assumption) ?_; simp only [Act.put, lsA, lsB, lsC]
    refine tkQ (i := 9) (oi := { dst := some 18, op := Op.load 3 (Operand.tmp 17), type := 3, pos := "pool.go:194", after := #[{ on := 8, ground := Ground.data }], guard := none }) (v := .int .i64 F.pg.lsn) rfl (by kernel_rfl) (yieldsIf_load_cell (by rfl) 3 _ rfl _ rfl (fun W hW => ((HT.out.more hW).frame.cells.1)) (fun W hc => ld_int hc)) (by assumption) ?_; simp only [Act.put, lsA, lsB, lsC]; refine wpAnyH_ready (rs := [4]) (by kernel_rfl) (by simp) ?_; refine AllReadyH.cons (o := { dst := some 13, op := Op.call { callee := Callee.value (Operand.func 38), args := #[Operand.tmp 12], argTypes := #[30] }, type := 3, pos := "pool.go:194", after := #[{ on := 3, ground := Ground.data }], guard := none }) rfl (fun K hK => ?_) (AllReadyH.nil)
    go_simp
    refine (HL.out _ hHeld).mono ?_; rintro e x1 ⟨rfl, hx1⟩; refine hK.out _ _ (by rw [hx1]; exact hHeld) (fun hHeld => ?_); clear hK K
    try simp only [Act.put, lsA, lsB, lsC]
    refine tkQ (i := 10) (oi := { dst := some 19, op := Op.binOp BinOp.leq 3 (Operand.tmp 13) (Operand.tmp 18) 3, type := 4, pos := "pool.go:194", after := #[{ on := 4, ground := Ground.data }, { on := 9, ground := Ground.data }], guard := none }) (v := .bool false) rfl (by kernel_rfl) (Or.inl ⟨by rfl, fun w' hSw => by clear hSw; go_simp⟩) (by assumption) ?_; simp only [Act.put, lsA, lsB, lsC]; refine wpAnyH_done (by kernel_rfl) ?_ _; refine NoPanic.normal ?_; have HT1 := hide (HT.out.more hHeld); clear hHeld HT HL hx1; clear hd hc
    have HW : Hid (P.wr D G i F = R) := by
      have hr := HR.out; unfold Pl.write at hr; rw [if_neg HC.out] at hr
      exact hr
    clear HR HC; obtain ⟨P1, D1, G1, mb1, T1, HT2, HR2⟩ : ∃ P1 D1 G1 mb1 T1, Hid (Tl w _ p d l fb mb g m P1 D1 G1 B ao cp v8 T i F mb1 T1) ∧ Hid (P1.wr D1 G1 i F = R) := ⟨_, _, _, _, _, HT1, HW⟩; clear HT1 HW; obtain ⟨Bq, aq, cq, ⟨k0, k1, k2, k3, k4, k5⟩, hq, hfq, _⟩ := HT2.out.frame.all; have HQ := hide hq; have hqh := HT2.out.frame.high; have hql := HT2.out.frame.lsn; have HQB := hide (And.intro hqh hql); clear hq hfq hqh hql
    go_wp2_with fail
    refine (pencode_any _ F.pg.lsn F.pg.kind F.pg.level F.pg.right F.pg.high Bq cq aq F.pg.items HQ.out HQB.out.1 HQB.out.2).mono ?_; rintro e w3 ⟨rfl, ho3⟩; have HE := enc_512 F.pg HT2.out.ok; rw [show Pg.out ⟨F.pg.lsn, F.pg.kind, F.pg.level, F.pg.right, F.pg.high, F.pg.items⟩ = (F.pg.enc, 0) from HE.1]; have HT3 := hide (HT2.out.more ho3); obtain ⟨n, hn⟩ : ∃ n : Nat, F.num = (n : Int) := ⟨F.num.toNat, by have := HT3.out.nn; omega⟩
    have hnl : n < P1.pages := by have := HT3.out.nn; omega
    obtain ⟨N, hN⟩ : ∃ N, str F.pg.enc = N := ⟨_, rfl⟩
    have hNs : N.size = 512 := by rw [← hN, str_size, HE.2]
    have hNd : N.data.toList = F.pg.enc := by rw [← hN]; show F.pg.enc.toArray.toList = _; simp
    obtain ⟨A, hA⟩ : ∃ A : Nat, P1.frm + 8 * n = A := ⟨_, rfl⟩
    have hAb : A ≤ 200000 := by have := HT3.out.sh.pool.nm; have := HT3.out.sh.pool.np.2; omega
    have HWR := hide (fun W (hW : Dsk W d g m D1) => write_any W d g m D1 hW (A : Int) N (by omega) (by omega)); have HSE := hide (fun W (hW : Only (own d g m) w3 W) => sector_at W p d l fb mb1 P1 T1 (HT3.out.sh.pool.kept hW HT3.out.sh.xp.1 HT3.out.sh.xf.1 HT3.out.sh.xm.1 (fun k hk => (HT3.out.sh.xT k hk).1)) n hnl); rw [hNd] at HWR; rw [hA] at HSE
    have HR3 : Hid ((if (D1.write (A : Int) F.pg.enc).2 = 0 then (⟨0, P1.setF i { F with chg := false }, (D1.write (A : Int) F.pg.enc).1, G1⟩ : Wo) else ⟨(D1.write (A : Int) F.pg.enc).2, P1, (D1.write (A : Int) F.pg.enc).1, G1⟩) = R) := by
      have hr := HR2.out; unfold Pl.wr at hr; rw [show F.num.toNat = n by omega, hA] at hr
      exact hr
    obtain ⟨D2, hD2⟩ : ∃ D2, (D1.write (A : Int) F.pg.enc).1 = D2 := ⟨_, rfl⟩; obtain ⟨c2, hc2⟩ : ∃ c2, (D1.write (A : Int) F.pg.enc).2 = c2 := ⟨_, rfl⟩; rw [hD2, hc2] at HWR HR3; have HLD := hide (fun W (hW : Only (own d g m) w3 W) => ((hW.cell (p := ⟨p, 0, none⟩) HT3.out.sh.pool.lt HT3.out.sh.xp.1).trans HT3.out.sh.pool.c0)); have HLF := hide (fun W (hW : Only (own d g m) w3 W) => ((hW.cell (p := ⟨fb, i * 8 + 6, none⟩) HT3.out.sh.pool.flt HT3.out.sh.xf.1).trans HT3.out.frame.cells.2.1)); rw [hn] at HLF; rw [hN]; clear hN hNs hNd hA hAb hD2 hc2 HE HT2 HR2 hnl hn ho3 k0 k1 k2 k3 k4 k5 HQ HQB
    go_upto_region 9 with fail
    refine wp_region_noPanic ?_; refine wp_region_held_drew (S := fun W => Only (own d g m) w3 W) (by kernel_rfl) (Only.drew _ _) (fun hHeld => ?_); refine tkQ (i := 0) (oi := { dst := some 46, op := Op.move (Operand.tmp 0), type := 36, pos := "pool.go:204", after := #[], guard := none }) (v := .pointer (some ⟨p, 0, none⟩)) rfl (by kernel_rfl) (Or.inl ⟨by rfl, fun w' hSw => by clear hSw; go_simp⟩) (by assumption) ?_; simp only [Act.put, lsA, lsB, lsC]; refine tkQ (i := 4) (oi := { dst := some 50, op := Op.move (Operand.tmp 0), type := 36, pos := "pool.go:204", after := #[], guard := none }) (v := .pointer (some ⟨p, 0, none⟩)) rfl (by kernel_rfl) (Or.inl ⟨by rfl, fun w' hSw => by clear hSw; go_simp⟩) (by assumption) ?_; simp only [Act.put, lsA, lsB, lsC]; refine tkQ (i := 5) (oi := { dst := some 51, op := Op.move (Operand.tmp 1), type := 102, pos := "pool.go:204", after := #[], guard := none }) (v := .pointer (some ⟨fb, i * 8, none⟩)) rfl (by kernel_rfl) (Or.inl ⟨by rfl, fun w' hSw => by clear hSw; go_simp⟩) (by assumption) ?_; simp only [Act.put, lsA, lsB, lsC]; refine tkQ (i := 10) (oi := { dst := some 56, op := Op.move (Operand.tmp 6), type := 9, pos := "pool.go:204", after := #[], guard := none }) (v := .string N) rfl (by kernel_rfl) (Or.inl ⟨by rfl, fun w' hSw => by clear hSw; go_simp⟩) (by assumption) ?_; simp only [Act.put, lsA, lsB, lsC]; refine tkQ (i := 1) (oi := { dst := some 47, op := Op.nilCheck (Operand.tmp 46), type := 0, pos := "pool.go:204", after := #[{ on := 0, ground := Ground.data }], guard := none }) (v := .pointer (some ⟨p, 0, none⟩)) rfl (by kernel_rfl) (Or.inl ⟨by rfl, fun w' hSw => by clear hSw; go_simp⟩) (by assumption) ?_
    simp only [Act.put, lsA, lsB, lsC]; refine tkQ (i := 6) (oi := { dst := some 52, op := Op.nilCheck (Operand.tmp 51), type := 0, pos := "pool.go:204", after := #[{ on := 5, ground := Ground.data }], guard := none }) (v := .pointer (some ⟨fb, i * 8, none⟩)) rfl (by kernel_rfl) (Or.inl ⟨by rfl, fun w' hSw => by clear hSw; go_simp⟩) (by assumption) ?_; simp only [Act.put, lsA, lsB, lsC]; refine tkQ (i := 2) (oi := { dst := some 48, op := Op.fieldAddr 96 (Operand.tmp 47) 0, type := 0, pos := "pool.go:204", after := #[{ on := 1, ground := Ground.data }], guard := none }) (v := .pointer (some ⟨p, 0, none⟩)) rfl (by kernel_rfl) (Or.inl ⟨by rfl, fun w' hSw => by clear hSw; go_simp⟩) (by assumption) ?_; simp only [Act.put, lsA, lsB, lsC]; refine tkQ (i := 7) (oi := { dst := some 53, op := Op.fieldAddr 93 (Operand.tmp 52) 1, type := 0, pos := "pool.go:204", after := #[{ on := 6, ground := Ground.data }], guard := none }) (v := .pointer (some ⟨fb, i * 8 + 6, none⟩)) rfl (by kernel_rfl) (Or.inl ⟨by rfl, fun w' hSw => by clear hSw; go_simp⟩) (by assumption) ?_; simp only [Act.put, lsA, lsB, lsC]; refine tkQ (i := 3) (oi := { dst := some 49, op := Op.load 23 (Operand.tmp 48), type := 23, pos := "pool.go:204", after := #[{ on := 2, ground := Ground.data }], guard := none }) (v := .pointer (some ⟨d, 0, none⟩)) rfl (by kernel_rfl) (yieldsIf_load_cell (by rfl) 23 _ rfl _ rfl (fun W hW => HLD.out W hW) (fun W hc => ld_pDisk hc)) (by assumption) ?_; simp only [Act.put, lsA, lsB, lsC]; refine tkQ (i := 8) (oi := { dst := some 54, op := Op.load 3 (Operand.tmp 53), type := 3, pos := "pool.go:204", after := #[{ on := 7, ground := Ground.data }], guard := none }) (v := .int .i64 (n : Int)) rfl (by kernel_rfl) (yieldsIf_load_cell (by rfl) 3 _ rfl _ rfl (fun W hW => HLF.out W hW) (fun W hc => ld_int hc)) (by assumption) ?_
    simp only [Act.put, lsA, lsB, lsC]; refine wpAnyH_ready (rs := [9]) (by kernel_rfl) (by simp) ?_; refine AllReadyH.cons (o := { dst := some 55, op := Op.call { callee := Callee.value (Operand.func 84), args := #[Operand.tmp 50, Operand.tmp 54], argTypes := #[36, 3] }, type := 3, pos := "pool.go:204", after := #[{ on := 4, ground := Ground.data }, { on := 8, ground := Ground.data }], guard := none }) rfl (fun K hK => ?_) (AllReadyH.nil)
    go_simp
    refine (HSE.out _ hHeld).mono ?_; rintro e x1 ⟨rfl, hx1⟩; obtain rfl := hx1.symm; clear hx1; refine hK.out _ _ (hHeld) (fun hHeld => ?_); clear hK K
    try simp only [Act.put, lsA, lsB, lsC]
    refine wpAnyH_ready (rs := [11]) (by kernel_rfl) (by simp) ?_; refine AllReadyH.cons (o := { dst := some 57, op := Op.call { callee := Callee.value (Operand.func 41), args := #[Operand.tmp 49, Operand.tmp 55, Operand.tmp 56], argTypes := #[23, 3, 9] }, type := 24, pos := "pool.go:204", after := #[{ on := 3, ground := Ground.data }, { on := 9, ground := Ground.data }, { on := 10, ground := Ground.data }, { on := 9, ground := Ground.chain }], guard := none }) rfl (fun K hK => ?_) (AllReadyH.nil)
    go_simp
    refine (HWR.out _ (HT3.out.sh.dsk.same (Only.drew _ _))).mono ?_; rintro e x3 ⟨rfl, hd3, hx3⟩; have HX3 := hide hx3; have HD3 := hide hd3; clear hx3 hd3; refine hK.out _ _ (hHeld.trans HX3.out (fun _ _ h => h)) (fun hHeld => ?_); clear hK K
    try simp only [Act.put, lsA, lsB, lsC]
    refine tkQ (i := 12) (oi := { dst := some 8, op := Op.assign (Operand.tmp 57), type := 24, pos := "pool.go:204", after := #[{ on := 11, ground := Ground.data }, { on := 11, ground := Ground.chain }, { on := 0, ground := Ground.phase }, { on := 1, ground := Ground.phase }, { on := 2, ground := Ground.phase }, { on := 3, ground := Ground.phase }, { on := 4, ground := Ground.phase }, { on := 5, ground := Ground.phase }, { on := 6, ground := Ground.phase }, { on := 7, ground := Ground.phase }, { on := 8, ground := Ground.phase }, { on := 9, ground := Ground.phase }, { on := 10, ground := Ground.phase }, { on := 11, ground := Ground.phase }], guard := none }) (v := .int .i64 c2) rfl (by kernel_rfl) (Or.inl ⟨by rfl, fun w' hSw => by clear hSw; go_simp⟩) (by assumption) ?_; simp only [Act.put, lsA, lsB, lsC]; refine wpAnyH_done (by kernel_rfl) ?_ _; refine NoPanic.normal ?_; have HT4 := hide (HT3.out.wrote hHeld HD3.out); clear hHeld HD3 HX3 HT3 HLD HLF HSE HWR
    by_cases hz : c2 = 0
    · have HR4 := HR3.out
      rw [if_pos hz] at HR4; subst hz; have HR5 := hide HR4; clear HR4 HR3; have k7 := HT4.out.frame.cells.2.2; have f7 := HT4.out.sh.pool.ffz (i * 8 + 7)
      go_wp2_with fail
      go_ret
      rw [← HR5.out]
      exact ⟨rfl, HT4.out.done 0⟩
    · have HR4 := HR3.out
      rw [if_neg hz] at HR4; have HR5 := hide HR4
      have hb : (c2 == 0) = false := by simp [hz]
      clear HR4 HR3 hz
      go_wp2_with fail
      go_ret
      rw [← HR5.out]
      exact ⟨rfl, HT4.out.res c2⟩
def Pl.Ok (P : Pl) : Prop := ∀ f ∈ P.fs, f.chg = true → f.pg.out.2 = 0
theorem PoolAt.slots {T : Nat → Prop} {W : World} {p d l fb mb : Nat} {P : Pl} (h : PoolAt W p d l fb mb P T) (i : Nat) (hi : i < P.fs.length) : ∃ u0 u1 u2 u3 u4 u5 u6 u7 : Value, (W.cell? ⟨fb, i * 8, none⟩ = some u0 ∧ W.cell? ⟨fb, i * 8 + 1, none⟩ = some u1 ∧ W.cell? ⟨fb, i * 8 + 2, none⟩ = some u2 ∧ W.cell? ⟨fb, i * 8 + 3, none⟩ = some u3 ∧ W.cell? ⟨fb, i * 8 + 4, none⟩ = some u4 ∧ W.cell? ⟨fb, i * 8 + 5, none⟩ = some u5 ∧ W.cell? ⟨fb, i * 8 + 6, none⟩ = some u6 ∧ W.cell? ⟨fb, i * 8 + 7, none⟩ = some u7) ∧ (W.frozen? ⟨fb, i * 8, none⟩ = false ∧ W.frozen? ⟨fb, i * 8 + 1, none⟩ = false ∧ W.frozen? ⟨fb, i * 8 + 2, none⟩ = false ∧ W.frozen? ⟨fb, i * 8 + 3, none⟩ = false ∧ W.frozen? ⟨fb, i * 8 + 4, none⟩ = false ∧ W.frozen? ⟨fb, i * 8 + 5, none⟩ = false ∧ W.frozen? ⟨fb, i * 8 + 6, none⟩ = false ∧ W.frozen? ⟨fb, i * 8 + 7, none⟩ = false) := by
  obtain ⟨⟨B, ao, cp, h1, h2, h3, h4⟩, _⟩ := h.fr i hi
  exact ⟨_, _, _, _, _, _, _, _, ⟨h1 0 _ rfl, h1 1 _ rfl, h1 2 _ rfl, h1 3 _ rfl, h1 4 _ rfl, h1 5 _ rfl, h1 6 _ rfl, h1 7 _ rfl⟩, ⟨h.ffz _, h.ffz _, h.ffz _, h.ffz _, h.ffz _, h.ffz _, h.ffz _, h.ffz _⟩⟩
theorem Sh.lay {W : World} {p d l fb mb g m : Nat} {P : Pl} {D : Dk} {G : Lg} {B : Nat} {ao : Option Addr} {cp : Nat} {v8 : Value} {T : Nat → Prop} (h : Sh W p d l fb mb g m P D G B ao cp v8 T) (i : Nat) (hi : i < P.fs.length) (F : Fm) (Bq : Nat) (aq : Option Addr) (cq : Nat) (hS : Strs W Bq aq F.pg.items) (hF : Fit aq F.pg.items.length cq) (hB : 0 < F.pg.items.length → T Bq) (hh : F.pg.high.size ≤ 140737488355328) (hl : F.pg.lsn < 9223372036854775808) (hn : F.num = -1 ∧ F.chg = false ∨ 0 ≤ F.num ∧ F.num < (P.pages : Int)) :
    Sh (W.setCells fb (i * 8) (F.cl aq cq)) p d l fb mb g m (P.setF i F) D G B ao cp v8 T ∧ Only (fun k => k = fb) W (W.setCells fb (i * 8) (F.cl aq cq)) := by
  obtain ⟨h1, h2⟩ := h.pool.lay (T' := T) i hi F Bq aq cq hS hF (fun _ e => e) hB (fun h0 e => h.pool.t2 (e ▸ hB h0)) h.pool.t1 h.pool.t2 h.pool.t3 hh hl hn
  exact ⟨h.pooled h2 (fun k _ e => .inr (.inl e)) h1 (fun _ e => e) (.inl rfl), h2⟩
theorem setCells8 (W : World) (fb o : Nat) (v0 v1 v2 v3 v4 v5 v6 v7 : Value) : W.setCells fb o [v0, v1, v2, v3, v4, v5, v6, v7] = (((((((W.setCell ⟨fb, o, none⟩ v0).setCell ⟨fb, o + 1, none⟩ v1).setCell ⟨fb, o + 2, none⟩ v2).setCell ⟨fb, o + 3, none⟩ v3).setCell ⟨fb, o + 4, none⟩ v4).setCell ⟨fb, o + 5, none⟩ v5).setCell ⟨fb, o + 6, none⟩ v6).setCell ⟨fb, o + 7, none⟩ v7 := rfl
def Pl.get (P : Pl) (j : Nat) : Fm := P.fs.getD j Fm.none
theorem get_at {P : Pl} {j : Nat} (h : j < P.fs.length) : P.fs[j] = P.get j := by unfold Pl.get; simp [h]
noncomputable def Pl.takeAt (P : Pl) (D : Dk) (G : Lg) (j : Nat) : Wo × Option Nat :=
  if (P.get j).chg = true then (if (P.write D G j (P.get j)).c = 0 then (⟨0, (P.write D G j (P.get j)).P.setF j Fm.none, (P.write D G j (P.get j)).D, (P.write D G j (P.get j)).G⟩, some j) else (P.write D G j (P.get j), none))
  else (⟨0, P.setF j Fm.none, D, G⟩, some j)
noncomputable def Pl.take (P : Pl) (D : Dk) (G : Lg) (pick : Int) : Wo × Option Nat :=
  match P.idx (-1) with
  | some i => (⟨0, P, D, G⟩, some i)
  | none => P.takeAt D G (pick % (P.fs.length : Int)).toNat
theorem wr_fs (P : Pl) (D : Dk) (G : Lg) (i : Nat) (F : Fm) : (P.wr D G i F).P.fs.length = P.fs.length ∧ (P.wr D G i F).P.pages = P.pages ∧ (P.wr D G i F).P.frm = P.frm := by
  unfold Pl.wr Pl.setF
  split <;> simp
theorem write_fs (P : Pl) (D : Dk) (G : Lg) (i : Nat) (F : Fm) : (P.write D G i F).P.fs.length = P.fs.length ∧ (P.write D G i F).P.pages = P.pages ∧ (P.write D G i F).P.frm = P.frm := by
  unfold Pl.write
  split
  · split
    · exact wr_fs _ _ _ _ _
    · exact ⟨rfl, rfl, rfl⟩
  · exact wr_fs _ _ _ _ _
def fptr (fb : Nat) (o : Option Nat) : Value := .pointer (o.map fun i => ⟨fb, i * 8, none⟩)
theorem idx_lt {P : Pl} {n : Int} {i : Nat} (h : P.idx n = some i) : i < P.fs.length ∧ (P.get i).num = n := by
  unfold Pl.idx at h; obtain ⟨h1, h2, _⟩ := List.findIdx?_eq_some_iff_getElem.1 h
  exact ⟨h1, by rw [← get_at h1]; simpa using h2⟩
theorem ShR.refl {w : World} {p d l fb mb g m : Nat} {P : Pl} {D : Dk} {G : Lg} {B : Nat} {ao : Option Addr} {cp : Nat} {v8 : Value} {T : Nat → Prop} (h : Sh w p d l fb mb g m P D G B ao cp v8 T) (c : Int) : ShR w w p d l fb mb g m B ao cp v8 T ⟨c, P, D, G⟩ := ⟨mb, T, h, fun _ e => e, fun _ _ e => e, .inl rfl, Only.refl _ _⟩
theorem Sh.none {W : World} {p d l fb mb g m : Nat} {P : Pl} {D : Dk} {G : Lg} {B : Nat} {ao : Option Addr} {cp : Nat} {v8 : Value} {T : Nat → Prop} (h : Sh W p d l fb mb g m P D G B ao cp v8 T) (i : Nat) (hi : i < P.fs.length) :
    Sh (W.setCells fb (i * 8) (Fm.none.cl Option.none 0)) p d l fb mb g m (P.setF i Fm.none) D G B ao cp v8 T ∧ Only (fun k => k = fb) W (W.setCells fb (i * 8) (Fm.none.cl Option.none 0)) :=
  h.lay i hi Fm.none 0 Option.none 0 (Strs.nil _ _ _) ⟨fun _ => rfl, by simp [Fm.none, Pg.none], by simp⟩ (fun h0 => absurd h0 (by simp [Fm.none, Pg.none])) (by simp [Fm.none, Pg.none, ByteArray.size]) (by simp [Fm.none, Pg.none]) (.inl ⟨rfl, rfl⟩)
theorem take_rem {pick : Int} {n : Nat} (hn : 1 ≤ n) : -(n : Int) < pick.tmod (n : Int) ∧ pick.tmod (n : Int) < (n : Int) ∧ (pick.tmod (n : Int) + (n : Int)).tmod (n : Int) = pick % (n : Int) := by
  have h1 := Int.tmod_lt_of_pos pick (b := (n : Int)) (by omega)
  have h2 : -(n : Int) < pick.tmod (n : Int) := by
    have := Int.lt_tmod_of_pos pick (b := (n : Int)) (by omega)
    exact this
  refine ⟨h2, h1, ?_⟩; rw [Int.tmod_eq_emod_of_nonneg (by omega)]; rw [Int.add_emod_right]
  have e : pick.tmod (n : Int) = pick - (n : Int) * pick.tdiv (n : Int) := by have := Int.tmod_add_mul_tdiv pick (n : Int); omega
  rw [e, Int.sub_mul_emod_self_left]
set_option maxRecDepth 100000 in
set_option maxHeartbeats 3200000 in
theorem take_any (w : World) (p d l fb mb g m : Nat) (P : Pl) (D : Dk) (G : Lg) (B : Nat) (ao : Option Addr) (cp : Nat) (v8 : Value) (T : Nat → Prop) (h : Sh w p d l fb mb g m P D G B ao cp v8 T) (hok : P.Ok) (pick : Int) :
    Calls Tryz.prog 54 #[.pointer (some ⟨p, 0, none⟩), .int .i64 pick] w fun e w' =>
      e = .returned (.tuple #[fptr fb (P.take D G pick).2, .int .i64 (P.take D G pick).1.c]) ∧ ShR w w' p d l fb mb g m B ao cp v8 T (P.take D G pick).1 := by
  have HH := hide (holder_any w p d l fb mb P T h.pool (-1)); unfold Pl.ptr at HH; have hnf := h.pool.nf; obtain ⟨R, hR⟩ : ∃ R, P.take D G pick = R := ⟨_, rfl⟩; rw [hR]; unfold Pl.take at hR
  cases hx : P.idx (-1) with
  | some i =>
    rw [hx] at hR HH
    dsimp only [Option.map] at hR HH
    have HR := hide hR; have HS := hide h; clear h hR hx hok
    go_enter Tryz.func54, Tryz.ntmps54
    go_wp2_with fail
    refine HH.out.mono ?_; rintro e w1 ⟨rfl, hw1⟩; obtain rfl := hw1.symm; clear HH hw1
    go_wp2_with fail
    go_ret2
    rw [← HR.out]
    exact ⟨rfl, ShR.refl HS.out 0⟩
  | none =>
    rw [hx] at hR HH
    dsimp only [Option.map] at hR HH
    obtain ⟨n, hn⟩ : ∃ n, P.fs.length = n := ⟨_, rfl⟩; obtain ⟨t1, t2, t3⟩ := take_rem (pick := pick) (n := n) (by omega); obtain ⟨j, hj⟩ : ∃ j : Nat, pick % (n : Int) = (j : Int) := ⟨(pick % (n : Int)).toNat, by have := Int.emod_nonneg pick (b := (n : Int)) (by omega); omega⟩
    have hjn : j < n := by have := Int.emod_lt_of_pos pick (b := (n : Int)) (by omega); omega
    rw [hj] at t3; rw [hn, show (pick % (n : Int)).toNat = j by omega] at hR; obtain ⟨r, hr⟩ : ∃ r, pick.tmod (n : Int) = r := ⟨_, rfl⟩; rw [hr] at t1 t2 t3; have hc4 := h.pool.c4; rw [hn] at hc4; have hk := (h.pool.fr j (by omega)).cells.2.2; rw [get_at (show j < P.fs.length by omega)] at hk; have hnn := h.pool.nn _ (List.getElem_mem (show j < P.fs.length by omega)); have hoj := hok _ (List.getElem_mem (show j < P.fs.length by omega)); rw [get_at (show j < P.fs.length by omega)] at hnn hoj
    have hjl : j < P.fs.length := by omega
    have hgj := get_at hjl; have HS := hide h; have HJ := hide hjl
    have hn1 : (1 : Int) ≤ (n : Int) := by omega
    have hn2 : (n : Int) ≤ 1024 := by omega
    have hjn2 : (j : Int) < (n : Int) := by omega
    unfold Pl.takeAt at hR; obtain ⟨F, hF⟩ : ∃ F, P.get j = F := ⟨_, rfl⟩; rw [hF] at hR hk hnn hoj hgj
    have HG : Hid (∀ h : j < P.fs.length, P.fs[j] = F) := fun _ => hgj
    clear h hx hok hj hnf hn hF hgj hjl
    cases hc : F.chg with
    | true =>
      rw [hc, if_pos rfl] at hR; rw [hc] at hk
      have hn0 : 0 ≤ F.num ∧ F.num < (P.pages : Int) := by
        rcases hnn with ⟨_, e⟩ | e
        · rw [hc] at e; cases e
        · exact e
      have hv0 := hoj hc; have HWR := hide (fun W (ho : Only (fun _ => False) w W) => owrite_any W p d l fb mb g m P D G B ao cp v8 T (HS.out.more ho) j HJ.out F (HG.out HJ.out) hn0 hv0); have hfs := (write_fs P D G j F).1; obtain ⟨O, hO⟩ : ∃ O, P.write D G j F = O := ⟨_, rfl⟩; rw [hO] at HWR hR hfs; have HR := hide hR; have HFS := hide hfs; clear hR hc hnn hoj hn0 hv0 hO hfs
      go_enter Tryz.func54, Tryz.ntmps54
      go_wp2_with fail
      refine HH.out.mono ?_; rintro e w1 ⟨rfl, hw1⟩; obtain rfl := hw1.symm; clear HH hw1
      go_upto_region 5 with fail
      go_region
      go_wp2_with fail
      refine (HWR.out _ (Only.drew _ _)).mono ?_; rintro e w2 ⟨rfl, mb2, T2, hs2, ht2, ht3, hm2, ho2⟩; have HM2 := hide hm2; clear hm2
      by_cases hz : O.c = 0
      · rw [hz]
        have HR2 := HR.out; rw [if_pos hz] at HR2; have HR3 := hide HR2
        have hj2 : j < O.P.fs.length := by rw [HFS.out]; exact HJ.out
        obtain ⟨u0, u1, u2, u3, u4, u5, u6, u7, ⟨k0, k1, k2, k3, k4, k5, k6, k7⟩, ⟨f0, f1, f2, f3, f4, f5, f6, f7⟩⟩ := hs2.pool.slots j hj2; have HL := hide (hs2.none j hj2); have HO2 := hide (And.intro ht2 (And.intro ht3 ho2)); clear hk hs2 ht2 ht3 ho2 hj2 HR2 hz
        go_wp2_with fail
        go_ret2
        rw [← HR3.out]; obtain ⟨ht2, ht3, ho2⟩ := HO2.out
        exact ⟨rfl, mb2, T2, HL.out.1, ht2, fun k hk e => ht3 k (Nat.lt_of_lt_of_le hk (Only.drew (fun _ => False) _).size) e, HM2.out, ((Only.drew _ _).trans ho2 (fun _ _ e => e)).trans HL.out.2 (fun _ _ e => .inr (.inr (.inr (.inl e))))⟩
      · have HR2 := HR.out
        rw [if_neg hz] at HR2; have HR3 := hide HR2; have HO2 := hide (And.intro hs2 (And.intro ht2 (And.intro ht3 ho2))); obtain ⟨c, hc⟩ : ∃ c, O.c = c := ⟨_, rfl⟩; have HC := hide hc; rw [hc] at hz ⊢
        have hb : (c == 0) = false := by simp [hz]
        clear hk hs2 ht2 ht3 ho2 HR2 hz hc HR
        go_wp2_with fail
        go_ret2
        rw [← HR3.out]; obtain ⟨hs2, ht2, ht3, ho2⟩ := HO2.out
        exact ⟨by rw [HC.out]; rfl, mb2, T2, hs2, ht2, fun k hk e => ht3 k (Nat.lt_of_lt_of_le hk (Only.drew (fun _ => False) _).size) e, HM2.out, (Only.drew _ _).trans ho2 (fun _ _ e => e)⟩
    | false =>
      rw [hc, if_neg (by simp)] at hR; rw [hc] at hk; have HR := hide hR; obtain ⟨u0, u1, u2, u3, u4, u5, u6, u7, ⟨k0, k1, k2, k3, k4, k5, k6, k7⟩, ⟨f0, f1, f2, f3, f4, f5, f6, f7⟩⟩ := HS.out.pool.slots j HJ.out; have HL := hide (HS.out.none j HJ.out); clear hR hc hnn hoj k7
      go_enter Tryz.func54, Tryz.ntmps54
      go_wp2_with fail
      refine HH.out.mono ?_; rintro e w1 ⟨rfl, hw1⟩; obtain rfl := hw1.symm; clear HH hw1
      go_upto_region 5 with fail
      go_region
      go_wp2_with fail
      go_ret2
      rw [← HR.out]; have hL := HL.out; rw [show Fm.none.cl none 0 = [.int .i64 0, .int .i64 0, .int .i64 0, .int .i64 0, .string ⟨#[]⟩, .slice none 0 0, .int .i64 (-1), .bool false] from rfl, setCells8] at hL
      exact ⟨rfl, mb, T, hL.1.more (Only.drew _ _), fun _ e => e, fun _ _ e => e, .inl rfl, (hL.2.mono (T := fun k => own d g m k ∨ k = l ∨ k = p ∨ k = fb ∨ k = mb) (fun _ _ e => .inr (.inr (.inr (.inl e))))).trans (Only.drew (fun _ => False) _) (fun _ _ e => e.elim)⟩
end Go.Proofs.YtebijheonkagfaaGreatDoor
