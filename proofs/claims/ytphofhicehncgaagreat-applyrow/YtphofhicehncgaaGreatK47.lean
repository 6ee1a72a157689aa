/- ApplyAgain's walk. -/
import Derived.Test.YtphofhicehncgaaGreatK42
import Derived.Test.YtphofhicehncgaaGreatK46
import Derived.Test.YtphofhicehncgaaGreatK05
namespace Go.Proofs.YtphofhicehncgaaGreat
open Go.RowKit

/-- A page that is not too long for the machine. -/
structure Pw (p : Pg) : Prop where
  len : p.items.length ≤ 8796093021952
  high : p.high.size ≤ 140737488355328
theorem pw_none : Pw .none := ⟨by simp [Pg.none], by decide⟩
theorem pw_fit {p : Pg} (h : p.high.size ≤ 140737488355328) : Pw (fitP p).1 := by
  unfold fitP
  split
  · exact pw_none
  · rename_i c
    exact ⟨by show p.items.length ≤ _; omega, h⟩
theorem pw_chg {p : Pg} (hp : Pw p) (x : List ByteArray × Int) (hx : x.1.length ≤ p.items.length) : Pw (p.chg x) := by
  unfold Pg.chg
  split
  · exact ⟨Nat.le_trans hx hp.len, hp.high⟩
  · exact pw_none
theorem pw_ins {p : Pg} (hp : Pw p) (R : Rc) : Pw (insP p R).1 := by
  unfold insP
  split
  · split
    · exact pw_fit hp.high
    · split
      · split
        · exact pw_fit hp.high
        · exact pw_none
      · exact pw_none
  · exact pw_none
theorem pw_nIns {p : Pg} (hp : Pw p) (e : En) : Pw (nIns p e).1 := by
  unfold nIns
  split
  · exact pw_none
  · split
    · split
      · exact pw_none
      · split
        · exact pw_fit hp.high
        · exact pw_none
    · exact pw_none
theorem pw_nRem {p : Pg} (hp : Pw p) (e : En) : Pw (nRem p e).1 := by
  unfold nRem
  split
  · exact pw_none
  · split
    · split
      · exact pw_none
      · split
        · refine ⟨?_, hp.high⟩
          have := hp.len
          show (_ ++ _ : List ByteArray).length ≤ _
          rw [List.length_append, List.length_take, List.length_drop]
          omega
        · exact pw_none
    · exact pw_none
theorem pw_nPos {p : Pg} (hp : Pw p) (e : En) (c : Int) : Pw (nPos p e c).1 := by
  unfold nPos
  split
  · exact pw_none
  · split
    · exact pw_none
    · split
      · exact pw_none
      · split
        · exact pw_fit hp.high
        · exact pw_none
theorem pw_lv {p : Pg} (hp : Pw p) (R : Rc) : Pw (lvP p R).1 := by
  unfold lvP
  split
  · exact pw_none
  · exact pw_nRem hp _
theorem pw_en {p : Pg} (hp : Pw p) (R : Rc) : Pw (enP p R).1 := by
  unfold enP
  split
  · split
    · exact pw_none
    · exact pw_nIns hp _
  · split
    · exact pw_none
    · exact pw_nPos hp _ _
theorem pw_set (m : Int) (p : Pg) (x : Int) (s : Nat) : Pw (setR m p x s) := by
  unfold setR
  split
  · exact ⟨by simp [setP], by show (⟨#[]⟩ : ByteArray).size ≤ _; decide⟩
  · exact pw_none
theorem pw_cut (m : Int) (p : Pg) (x : Int) : Pw (cutR m p x) := by
  unfold cutR
  split
  · exact ⟨by simp [cutP], by show (⟨#[]⟩ : ByteArray).size ≤ _; decide⟩
  · exact pw_none
theorem pw_does (m : Int) {p : Pg} (hp : Pw p) (R : Rc) : Pw (doesP m p R).1 := by
  unfold doesP
  repeat' split
  · exact pw_cut _ _ _
  · exact pw_chg hp _ (frzL_len _ _)
  · exact pw_chg hp _ (clnL_len _ _)
  · exact pw_set _ _ _ _
  · exact pw_set _ _ _ _
  · exact pw_lv hp _
  · exact pw_en hp _
  · exact pw_chg hp _ (undL_len _ _)
  · exact pw_chg hp _ (chgL_len _ _ _)
  · exact pw_ins hp _
/-- What is known of a record's images. -/
structure Iw (R : Rc) : Prop where
  all : ∀ i ∈ R.images, Pw i.body
theorem imP_mem {page : Int} {l : List Im} {q : Pg} (h : imP page l = some q) : ∃ i ∈ l, i.body = q := by
  induction l with
  | nil => cases h
  | cons i t ih =>
    rw [imP] at h
    split at h
    · cases h
      exact ⟨i, by simp, rfl⟩
    · obtain ⟨j, hj, e⟩ := ih h
      exact ⟨j, by simp [hj], e⟩
theorem imP_page {page : Int} {l : List Im} : (imP page l).isSome = true ↔ page ∈ l.map Im.page := by
  induction l with
  | nil => simp [imP]
  | cons i t ih =>
    rw [imP]
    by_cases h : i.page = page
    · simp [h]
    · rw [if_neg h, ih, List.map_cons, List.mem_cons]
      exact ⟨.inr, fun q => q.elim (fun e => absurd e.symm h) id⟩
theorem pw_do (m : Int) {p : Pg} (hp : Pw p) (page : Int) (R : Rc) (hi : Iw R) : Pw (doP m p page R).1 := by
  unfold doP
  split
  · rename_i q hq
    obtain ⟨i, hm, rfl⟩ := imP_mem hq
    exact ⟨(hi.all i hm).len, (hi.all i hm).high⟩
  · split
    · unfold doneP
      split
      · have := pw_does m hp R
        exact ⟨this.len, this.high⟩
      · exact pw_none
    · exact hp
theorem Ims.high {w : World} {T : Nat → Prop} {B : Nat} {ao : Option Addr} {l : List Im} (h : Ims w T B ao l) : ∀ i ∈ l, i.body.high.size ≤ 140737488355328 := by
  intro i hi
  obtain ⟨j, hj, rfl⟩ := List.getElem_of_mem hi
  obtain ⟨o, e, hc⟩ := h.at_ (by omega)
  obtain ⟨D, a, c, hi, hD⟩ := hc j hj
  exact hi.high
theorem iw_of {w : World} {R : Rc} {L : Loc} (h : RcAt w R L) (hn : RkN R) : Iw R := by
  obtain ⟨T, hi⟩ := h.images
  exact ⟨fun i hm => ⟨hn.few i hm, hi.high i hm⟩⟩
theorem doP_err {m : Int} {p : Pg} {page : Int} {R : Rc} (h : ¬ (doP m p page R).2 = 0) : (doP m p page R).1 = .none := by
  unfold doP at h ⊢
  split
  · rename_i q hq
    rw [hq] at h
    exact absurd rfl h
  · rename_i hq
    rw [hq] at h
    dsimp only at h ⊢
    split
    · rename_i hc
      rw [if_pos hc] at h
      unfold doneP at h ⊢
      split
      · rename_i h0
        rw [if_pos h0] at h
        exact absurd rfl h
      · rfl
    · rename_i hc
      rw [if_neg hc] at h
      exact absurd rfl h
/-- Doing a record again changes nothing. -/
theorem doP_again {m : Int} {p : Pg} {page : Int} {R : Rc} (h : (doP m p page R).2 = 0) : doP m (doP m p page R).1 page R = ((doP m p page R).1, 0) ∧ min p.lsn R.lsn ≤ (doP m p page R).1.lsn := by
  cases hq : imP page R.images with
  | some q =>
    have e : ∀ p, doP m p page R = (q.at R.lsn, 0) := fun p => by unfold doP; rw [hq]
    rw [e, e]
    exact ⟨rfl, by show min p.lsn R.lsn ≤ R.lsn; omega⟩
  | none =>
    have e : ∀ p, doP m p page R = if ownK R.kind = true ∧ page = R.page ∧ p.lsn < R.lsn then doneP R (doesP m p R) else (p, 0) := fun p => by unfold doP; rw [hq]
    rw [e p] at h ⊢
    by_cases hc : ownK R.kind = true ∧ page = R.page ∧ p.lsn < R.lsn
    · rw [if_pos hc] at h ⊢
      unfold doneP at h ⊢
      by_cases h0 : (doesP m p R).2 = 0
      · rw [if_pos h0, e, if_neg (fun k => by have := k.2.2; simp [Pg.at] at this)]
        exact ⟨rfl, by show min p.lsn R.lsn ≤ R.lsn; omega⟩
      · rw [if_neg h0] at h
        exact absurd h h0
    · rw [if_neg hc, e, if_neg hc]
      exact ⟨rfl, by show min p.lsn R.lsn ≤ p.lsn; omega⟩
theorem tou_in {R : Rc} {page : Int} : page ∈ touS R ↔ (imP page R.images).isSome = true ∨ (ownK R.kind = true ∧ page = R.page) := by
  rw [(touS_rise R).2, imP_page]
  unfold touL
  rw [List.mem_append]
  refine ⟨fun h => h.imp id (fun h => ?_), fun h => h.imp id (fun h => ?_)⟩
  · split at h
    · rename_i hk
      exact ⟨hk, by simpa using h⟩
    · cases h
  · rw [if_pos h.1]
    simp [h.2]
theorem doP_out {m : Int} {p : Pg} {page : Int} {R : Rc} (h : page ∉ touS R) : doP m p page R = (p, 0) := by
  rw [tou_in] at h
  unfold doP
  cases hq : imP page R.images with
  | some q => exact absurd (.inl (by rw [hq]; rfl)) h
  | none =>
    dsimp only
    rw [if_neg (fun k => h (.inr ⟨k.1, k.2.1⟩))]
theorem doP_in {m : Int} {p : Pg} {page : Int} {R : Rc} (h : page ∈ touS R) : ¬ (doP m p page R).2 = 0 ∨ R.lsn ≤ (doP m p page R).1.lsn := by
  rw [tou_in] at h
  unfold doP
  cases hq : imP page R.images with
  | some q => exact .inr (Int.le_refl _)
  | none =>
    rw [hq] at h
    dsimp only
    by_cases hc : ownK R.kind = true ∧ page = R.page ∧ p.lsn < R.lsn
    · rw [if_pos hc]
      unfold doneP
      split
      · exact .inr (Int.le_refl _)
      · rename_i h0
        exact .inl h0
    · rw [if_neg hc]
      refine .inr ?_
      rcases h with h | h
      · cases h
      · show R.lsn ≤ p.lsn
        exact Classical.byContradiction fun k => hc ⟨h.1, h.2, by omega⟩
end Go.Proofs.YtphofhicehncgaaGreat

namespace Go.Proofs.YtphofhicehncgaaGreat
open Go.RowKit

/-- A page and its number in a variable. -/
structure Ob (w : World) (b : Nat) (p : Pg) (ao : Option Addr) (cp : Nat) (N : Int) : Prop where
  c0 : w.cell? ⟨b, 0, none⟩ = some (.int .i64 p.lsn)
  c1 : w.cell? ⟨b, 1, none⟩ = some (.int .i64 p.kind)
  c2 : w.cell? ⟨b, 2, none⟩ = some (.int .i64 p.level)
  c3 : w.cell? ⟨b, 3, none⟩ = some (.int .i64 p.right)
  c4 : w.cell? ⟨b, 4, none⟩ = some (.string p.high)
  c5 : w.cell? ⟨b, 5, none⟩ = some (.slice ao p.items.length cp)
  c6 : w.cell? ⟨b, 6, none⟩ = some (.int .i64 N)
  lt : b < w.heap.size
theorem Ob.more {w w' : World} {b : Nat} {p : Pg} {ao : Option Addr} {cp : Nat} {N : Int} (h : Ob w b p ao cp N) (ho : Only (fun _ => False) w w') : Ob w' b p ao cp N := by
  have k : ∀ (j : Nat) (v : Value), w.cell? ⟨b, j, none⟩ = some v → w'.cell? ⟨b, j, none⟩ = some v := fun j v hj => (ho.cell (p := ⟨b, j, none⟩) h.lt (fun h => h)).trans hj
  exact ⟨k _ _ h.c0, k _ _ h.c1, k _ _ h.c2, k _ _ h.c3, k _ _ h.c4, k _ _ h.c5, k _ _ h.c6, Nat.lt_of_lt_of_le h.lt ho.size⟩
/-- What comes to the laws: a number, a page with its number, a record. -/
structure Arg (w : World) (m : Int) (p : Pg) (B : Nat) (ao : Option Addr) (cp : Nat) (R : Rc) (L : Loc) : Prop where
  pn : Pn w p B ao cp
  at_ : RcAt w R L
  n : RkN R
  m : I64 m
theorem Arg.rk {w : World} {m : Int} {p : Pg} {B : Nat} {ao : Option Addr} {cp : Nat} {R : Rc} {L : Loc} (h : Arg w m p B ao cp R L) : Rk w m R L := ⟨h.at_, h.m, ⟨h.n.xid.1, by have := h.n.xid.2; omega⟩, ⟨h.n.new.1, by have := h.n.new.2; omega⟩⟩
theorem Rk.more {w w' : World} {m : Int} {R : Rc} {L : Loc} (h : Rk w m R L) (ho : Only (fun _ => False) w w') : Rk w' m R L := ⟨h.at_.go ho, h.m, h.xid, h.new⟩
theorem Arg.di {w W : World} {m : Int} {p : Pg} {B : Nat} {ao : Option Addr} {cp : Nat} {R : Rc} {L : Loc} (h : Arg w m p B ao cp R L) (ho : Only (fun _ => False) w W) : Di W m p B cp ao R L := ⟨h.pn.strs.more ho, h.pn.fit, h.pn.len, h.pn.high, h.rk.more ho⟩
theorem Arg.pw {w : World} {m : Int} {p : Pg} {B : Nat} {ao : Option Addr} {cp : Nat} {R : Rc} {L : Loc} (h : Arg w m p B ao cp R L) : Pw p := ⟨h.pn.len, h.pn.high⟩
theorem Arg.does {w W : World} {m : Int} {p : Pg} {B : Nat} {ao : Option Addr} {cp : Nat} {R : Rc} {L : Loc} (h : Arg w m p B ao cp R L) (ho : Only (fun _ => False) w W) (N : Int) :
    Calls Tryz.prog 4 #[.int .i64 m, .agg #[.int .i64 p.lsn, .int .i64 p.kind, .int .i64 p.level, .int .i64 p.right, .string p.high, .slice ao p.items.length cp], .int .i64 N, .agg (R.cells L)] W fun e w' => Res W w' e (doP m p N R).1 (doP m p N R).2 := do_any W m p.lsn p.kind p.level p.right N p.high B cp ao p.items R L (h.di ho)
/-- Do of a page that Do answered. -/
theorem Arg.next {w W : World} {m : Int} {p : Pg} {B : Nat} {ao : Option Addr} {cp : Nat} {R : Rc} {L : Loc} (h : Arg w m p B ao cp R L) (ho : Only (fun _ => False) w W) (N : Int) (q : Pg) (hq : Pw q) (B2 cp2 : Nat) (ao2 : Option Addr) (hS : Strs W B2 ao2 q.items) (hF : Fit ao2 q.items.length cp2) :
    Calls Tryz.prog 4 #[.int .i64 m, .agg #[.int .i64 q.lsn, .int .i64 q.kind, .int .i64 q.level, .int .i64 q.right, .string q.high, .slice ao2 q.items.length cp2], .int .i64 N, .agg (R.cells L)] W fun e w' => Res W w' e (doP m q N R).1 (doP m q N R).2 := do_any W m q.lsn q.kind q.level q.right N q.high B2 cp2 ao2 q.items R L ⟨hS, hF, hq.len, hq.high, h.rk.more ho⟩
end Go.Proofs.YtphofhicehncgaaGreat
