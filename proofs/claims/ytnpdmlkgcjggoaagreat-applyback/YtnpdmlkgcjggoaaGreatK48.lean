/- ApplyAgain's walk. -/
import Derived.Test.YtnpdmlkgcjggoaaGreatK43
import Derived.Test.YtnpdmlkgcjggoaaGreatK47
import Derived.Test.YtnpdmlkgcjggoaaGreatK05
namespace Go.Proofs.YtnpdmlkgcjggoaaGreat
open Go.RowKit

/-- A page that is not too long for the machine. -/
structure Pw (p : Pg) : Prop where
  len : p.items.length ≤ 8796093021952
  high : p.high.size ≤ 140737488355328
theorem pw_none : Pw .none := ⟨by simp [Pg.none], by decide⟩
theorem pw_fit {p : Pg} (h : p.high.size ≤ 140737488355328) : Pw (fitP p).1 := by
  unfold fitP
  split
  · exact pw_none
  · rename_i c
    exact ⟨by show p.items.length ≤ _; omega, h⟩
theorem pw_chg {p : Pg} (hp : Pw p) (x : List ByteArray × Int) (hx : x.1.length ≤ p.items.length) : Pw (p.chg x) := by
  unfold Pg.chg
  split
  · exact ⟨Nat.le_trans hx hp.len, hp.high⟩
  · exact pw_none
theorem pw_ins {p : Pg} (hp : Pw p) (R : Rc) : Pw (insP p R).1 := by
  unfold insP
  split
  · split
    · exact pw_fit hp.high
    · split
      · split
        · exact pw_fit hp.high
        · exact pw_none
      · exact pw_none
  · exact pw_none
theorem pw_nIns {p : Pg} (hp : Pw p) (e : En) : Pw (nIns p e).1 := by
  unfold nIns
  split
  · exact pw_none
  · split
    · split
      · exact pw_none
      · split
        · exact pw_fit hp.high
        · exact pw_none
    · exact pw_none
theorem pw_nRem {p : Pg} (hp : Pw p) (e : En) : Pw (nRem p e).1 := by
  unfold nRem
  split
  · exact pw_none
  · split
    · split
      · exact pw_none
      · split
        · refine ⟨?_, hp.high⟩
          have := hp.len
          show (_ ++ _ : List ByteArray).length ≤ _
          rw [List.length_append, List.length_take, List.length_drop]
          omega
        · exact pw_none
    · exact pw_none
theorem pw_nPos {p : Pg} (hp : Pw p) (e : En) (c : Int) : Pw (nPos p e c).1 := by
  unfold nPos
  split
  · exact pw_none
  · split
    · exact pw_none
    · split
      · exact pw_none
      · split
        · exact pw_fit hp.high
        · exact pw_none
theorem pw_lv {p : Pg} (hp : Pw p) (R : Rc) : Pw (lvP p R).1 := by
  unfold lvP
  split
  · exact pw_none
  · exact pw_nRem hp _
theorem pw_en {p : Pg} (hp : Pw p) (R : Rc) : Pw (enP p R).1 := by
  unfold enP
  split
  · split
    · exact pw_none
    · exact pw_nIns hp _
  · split
    · exact pw_none
    · exact pw_nPos hp _ _
theorem pw_set (m : Int) (p : Pg) (x : Int) (s : Nat) : Pw (setR m p x s) := by
  unfold setR
  split
  · exact ⟨by simp [setP], by show (⟨#[]⟩ : ByteArray).size ≤ _; decide⟩
  · exact pw_none
theorem pw_cut (m : Int) (p : Pg) (x : Int) : Pw (cutR m p x) := by
  unfold cutR
  split
  · exact ⟨by simp [cutP], by show (⟨#[]⟩ : ByteArray).size ≤ _; decide⟩
  · exact pw_none
theorem pw_does (m : Int) {p : Pg} (hp : Pw p) (R : Rc) : Pw (doesP m p R).1 := by
  unfold doesP
  repeat' split
  · exact pw_cut _ _ _
  · exact pw_chg hp _ (frzL_len _ _)
  · exact pw_chg hp _ (clnL_len _ _)
  · exact pw_set _ _ _ _
  · exact pw_set _ _ _ _
  · exact pw_lv hp _
  · exact pw_en hp _
  · exact pw_chg hp _ (undL_len _ _)
  · exact pw_chg hp _ (chgL_len _ _ _)
  · exact pw_ins hp _
/-- What is known of a record's images. -/
structure Iw (R : Rc) : Prop where
  all : ∀ i ∈ R.images, Pw i.body
theorem imP_mem {page : Int} {l : List Im} {q : Pg} (h : imP page l = some q) : ∃ i ∈ l, i.body = q := by
  induction l with
  | nil => cases h
  | cons i t ih =>
    rw [imP] at h
    split at h
    · cases h
      exact ⟨i, by simp, rfl⟩
    · obtain ⟨j, hj, e⟩ := ih h
      exact ⟨j, by simp [hj], e⟩
theorem imP_page {page : Int} {l : List Im} : (imP page l).isSome = true ↔ page ∈ l.map Im.page := by
  induction l with
  | nil => simp [imP]
  | cons i t ih =>
    rw [imP]
    by_cases h : i.page = page
    · simp [h]
    · rw [if_neg h, ih, List.map_cons, List.mem_cons]
      exact ⟨.inr, fun q => q.elim (fun e => absurd e.symm h) id⟩
theorem pw_do (m : Int) {p : Pg} (hp : Pw p) (page : Int) (R : Rc) (hi : Iw R) : Pw (doP m p page R).1 := by
  unfold doP
  split
  · rename_i q hq
    obtain ⟨i, hm, rfl⟩ := imP_mem hq
    exact ⟨(hi.all i hm).len, (hi.all i hm).high⟩
  · split
    · unfold doneP
      split
      · have := pw_does m hp R
        exact ⟨this.len, this.high⟩
      · exact pw_none
    · exact hp
theorem Ims.high {w : World} {T : Nat → Prop} {B : Nat} {ao : Option Addr} {l : List Im} (h : Ims w T B ao l) : ∀ i ∈ l, i.body.high.size ≤ 140737488355328 := by
  intro i hi
  obtain ⟨j, hj, rfl⟩ := List.getElem_of_mem hi
  obtain ⟨o, e, hc⟩ := h.at_ (by omega)
  obtain ⟨D, a, c, hi, hD⟩ := hc j hj
  exact hi.high
theorem iw_of {w : World} {R : Rc} {L : Loc} (h : RcAt w R L) (hn : RkN R) : Iw R := by
  obtain ⟨T, hi⟩ := h.images
  exact ⟨fun i hm => ⟨hn.few i hm, hi.high i hm⟩⟩
theorem doP_err {m : Int} {p : Pg} {page : Int} {R : Rc} (h : ¬ (doP m p page R).2 = 0) : (doP m p page R).1 = .none := by
  unfold doP at h ⊢
  split
  · rename_i q hq
    rw [hq] at h
    exact absurd rfl h
  · rename_i hq
    rw [hq] at h
    dsimp only at h ⊢
    split
    · rename_i hc
      rw [if_pos hc] at h
      unfold doneP at h ⊢
      split
      · rename_i h0
        rw [if_pos h0] at h
        exact absurd rfl h
      · rfl
    · rename_i hc
      rw [if_neg hc] at h
      exact absurd rfl h
/-- Doing a record again changes nothing. -/
theorem doP_again {m : Int} {p : Pg} {page : Int} {R : Rc} (h : (doP m p page R).2 = 0) : doP m (doP m p page R).1 page R = ((doP m p page R).1, 0) ∧ min p.lsn R.lsn ≤ (doP m p page R).1.lsn := by
  cases hq : imP page R.images with
  | some q =>
    have e : ∀ p, doP m p page R = (q.at R.lsn, 0) := fun p => by unfold doP; rw [hq]
    rw [e, e]
    exact ⟨rfl, by show min p.lsn R.lsn ≤ R.lsn; omega⟩
  | none =>
    have e : ∀ p, doP m p page R = if ownK R.kind = true ∧ page = R.page ∧ p.lsn < R.lsn then doneP R (doesP m p R) else (p, 0) := fun p => by unfold doP; rw [hq]
    rw [e p] at h ⊢
    by_cases hc : ownK R.kind = true ∧ page = R.page ∧ p.lsn < R.lsn
    · rw [if_pos hc] at h ⊢
      unfold doneP at h ⊢
      by_cases h0 : (doesP m p R).2 = 0
      · rw [if_pos h0, e, if_neg (fun k => by have := k.2.2; simp [Pg.at] at this)]
        exact ⟨rfl, by show min p.lsn R.lsn ≤ R.lsn; omega⟩
      · rw [if_neg h0] at h
        exact absurd h h0
    · rw [if_neg hc, e, if_neg hc]
      exact ⟨rfl, by show min p.lsn R.lsn ≤ p.lsn; omega⟩
theorem tou_in {R : Rc} {page : Int} : page ∈ touS R ↔ (imP page R.images).isSome = true ∨ (ownK R.kind = true ∧ page = R.page) := by
  rw [(touS_rise R).2, imP_page]
  unfold touL
  rw [List.mem_append]
  refine ⟨fun h => h.imp id (fun h => ?_), fun h => h.imp id (fun h => ?_)⟩
  · split at h
    · rename_i hk
      exact ⟨hk, by simpa using h⟩
    · cases h
  · rw [if_pos h.1]
    simp [h.2]
theorem doP_out {m : Int} {p : Pg} {page : Int} {R : Rc} (h : page ∉ touS R) : doP m p page R = (p, 0) := by
  rw [tou_in] at h
  unfold doP
  cases hq : imP page R.images with
  | some q => exact absurd (.inl (by rw [hq]; rfl)) h
  | none =>
    dsimp only
    rw [if_neg (fun k => h (.inr ⟨k.1, k.2.1⟩))]
theorem doP_in {m : Int} {p : Pg} {page : Int} {R : Rc} (h : page ∈ touS R) : ¬ (doP m p page R).2 = 0 ∨ R.lsn ≤ (doP m p page R).1.lsn := by
  rw [tou_in] at h
  unfold doP
  cases hq : imP page R.images with
  | some q => exact .inr (Int.le_refl _)
  | none =>
    rw [hq] at h
    dsimp only
    by_cases hc : ownK R.kind = true ∧ page = R.page ∧ p.lsn < R.lsn
    · rw [if_pos hc]
      unfold doneP
      split
      · exact .inr (Int.le_refl _)
      · rename_i h0
        exact .inl h0
    · rw [if_neg hc]
      refine .inr ?_
      rcases h with h | h
      · cases h
      · show R.lsn ≤ p.lsn
        exact Classical.byContradiction fun k => hc ⟨h.1, h.2, by omega⟩
end Go.Proofs.YtnpdmlkgcjggoaaGreat

namespace Go.Proofs.YtnpdmlkgcjggoaaGreat
open Go.RowKit

/-- A page and its number in a variable. -/
structure Ob (w : World) (b : Nat) (p : Pg) (ao : Option Addr) (cp : Nat) (N : Int) : Prop where
  c0 : w.cell? ⟨b, 0, none⟩ = some (.int .i64 p.lsn)
  c1 : w.cell? ⟨b, 1, none⟩ = some (.int .i64 p.kind)
  c2 : w.cell? ⟨b, 2, none⟩ = some (.int .i64 p.level)
  c3 : w.cell? ⟨b, 3, none⟩ = some (.int .i64 p.right)
  c4 : w.cell? ⟨b, 4, none⟩ = some (.string p.high)
  c5 : w.cell? ⟨b, 5, none⟩ = some (.slice ao p.items.length cp)
  c6 : w.cell? ⟨b, 6, none⟩ = some (.int .i64 N)
  lt : b < w.heap.size
theorem Ob.new (w : World) (p : Pg) (ao : Option Addr) (cp : Nat) (N : Int) : Ob (w.alloc (.cells #[.int .i64 p.lsn, .int .i64 p.kind, .int .i64 p.level, .int .i64 p.right, .string p.high, .slice ao p.items.length cp, .int .i64 N] 26)) w.heap.size p ao cp N :=
  ⟨by simp, by simp, by simp, by simp, by simp, by simp, by simp, by simp⟩
theorem Ob.more {w w' : World} {b : Nat} {p : Pg} {ao : Option Addr} {cp : Nat} {N : Int} (h : Ob w b p ao cp N) (ho : Only (fun _ => False) w w') : Ob w' b p ao cp N := by
  have k : ∀ (j : Nat) (v : Value), w.cell? ⟨b, j, none⟩ = some v → w'.cell? ⟨b, j, none⟩ = some v := fun j v hj => (ho.cell (p := ⟨b, j, none⟩) h.lt (fun h => h)).trans hj
  exact ⟨k _ _ h.c0, k _ _ h.c1, k _ _ h.c2, k _ _ h.c3, k _ _ h.c4, k _ _ h.c5, k _ _ h.c6, Nat.lt_of_lt_of_le h.lt ho.size⟩
/-- What comes to the laws: a number, a page with its number, a record. -/
structure Arg (w : World) (m : Int) (p : Pg) (B : Nat) (ao : Option Addr) (cp : Nat) (R : Rc) (L : Loc) : Prop where
  pn : Pn w p B ao cp
  at_ : RcAt w R L
  n : RkN R
  m : I64 m
theorem Arg.rk {w : World} {m : Int} {p : Pg} {B : Nat} {ao : Option Addr} {cp : Nat} {R : Rc} {L : Loc} (h : Arg w m p B ao cp R L) : Rk w m R L := ⟨h.at_, h.m, ⟨h.n.xid.1, by have := h.n.xid.2; omega⟩, ⟨h.n.new.1, by have := h.n.new.2; omega⟩⟩
theorem Rk.more {w w' : World} {m : Int} {R : Rc} {L : Loc} (h : Rk w m R L) (ho : Only (fun _ => False) w w') : Rk w' m R L := ⟨h.at_.go ho, h.m, h.xid, h.new⟩
theorem Arg.di {w W : World} {m : Int} {p : Pg} {B : Nat} {ao : Option Addr} {cp : Nat} {R : Rc} {L : Loc} (h : Arg w m p B ao cp R L) (ho : Only (fun _ => False) w W) : Di W m p B cp ao R L := ⟨h.pn.strs.more ho, h.pn.fit, h.pn.len, h.pn.high, h.rk.more ho⟩
theorem Arg.pw {w : World} {m : Int} {p : Pg} {B : Nat} {ao : Option Addr} {cp : Nat} {R : Rc} {L : Loc} (h : Arg w m p B ao cp R L) : Pw p := ⟨h.pn.len, h.pn.high⟩
theorem Arg.does {w W : World} {m : Int} {p : Pg} {B : Nat} {ao : Option Addr} {cp : Nat} {R : Rc} {L : Loc} (h : Arg w m p B ao cp R L) (ho : Only (fun _ => False) w W) (N : Int) :
    Calls Tryz.prog 7 #[.int .i64 m, .agg #[.int .i64 p.lsn, .int .i64 p.kind, .int .i64 p.level, .int .i64 p.right, .string p.high, .slice ao p.items.length cp], .int .i64 N, .agg (R.cells L)] W fun e w' => Res W w' e (doP m p N R).1 (doP m p N R).2 := do_any W m p.lsn p.kind p.level p.right N p.high B cp ao p.items R L (h.di ho)
/-- Do of a page that Do answered. -/
theorem Arg.next {w W : World} {m : Int} {p : Pg} {B : Nat} {ao : Option Addr} {cp : Nat} {R : Rc} {L : Loc} (h : Arg w m p B ao cp R L) (ho : Only (fun _ => False) w W) (N : Int) (q : Pg) (hq : Pw q) (B2 cp2 : Nat) (ao2 : Option Addr) (hS : Strs W B2 ao2 q.items) (hF : Fit ao2 q.items.length cp2) :
    Calls Tryz.prog 7 #[.int .i64 m, .agg #[.int .i64 q.lsn, .int .i64 q.kind, .int .i64 q.level, .int .i64 q.right, .string q.high, .slice ao2 q.items.length cp2], .int .i64 N, .agg (R.cells L)] W fun e w' => Res W w' e (doP m q N R).1 (doP m q N R).2 := do_any W m q.lsn q.kind q.level q.right N q.high B2 cp2 ao2 q.items R L ⟨hS, hF, hq.len, hq.high, h.rk.more ho⟩
/-- The variables of the laws: the page with its number, and the record. -/
theorem arg_new (w : World) (p : Pg) (ao : Option Addr) (cp : Nat) (N : Int) (R : Rc) (L : Loc) : Ob ((w.alloc (.cells #[.int .i64 p.lsn, .int .i64 p.kind, .int .i64 p.level, .int .i64 p.right, .string p.high, .slice ao p.items.length cp, .int .i64 N] 26)).alloc (.cells (R.cells L) 33)) w.heap.size p ao cp N ∧ Rb ((w.alloc (.cells #[.int .i64 p.lsn, .int .i64 p.kind, .int .i64 p.level, .int .i64 p.right, .string p.high, .slice ao p.items.length cp, .int .i64 N] 26)).alloc (.cells (R.cells L) 33)) (w.heap.size + 1) R L ∧ Only (fun _ => False) w ((w.alloc (.cells #[.int .i64 p.lsn, .int .i64 p.kind, .int .i64 p.level, .int .i64 p.right, .string p.high, .slice ao p.items.length cp, .int .i64 N] 26)).alloc (.cells (R.cells L) 33)) := by
  have e := Rb.new (w.alloc (.cells #[.int .i64 p.lsn, .int .i64 p.kind, .int .i64 p.level, .int .i64 p.right, .string p.high, .slice ao p.items.length cp, .int .i64 N] 26)) R L
  rw [World.size_alloc] at e
  exact ⟨(Ob.new w p ao cp N).more (onlyA _ _), e, o2 (onlyA _ _) (onlyA _ _)⟩
set_option maxRecDepth 100000 in
set_option maxHeartbeats 3200000 in
theorem again_law (w : World) (m N : Int) (p : Pg) (B : Nat) (ao : Option Addr) (cp : Nat) (R : Rc) (L : Loc) (h : Arg w m p B ao cp R L) :
    Calls Tryz.prog 3 #[.int .i64 m, .agg #[.int .i64 p.lsn, .int .i64 p.kind, .int .i64 p.level, .int .i64 p.right, .string p.high, .slice ao p.items.length cp, .int .i64 N], .agg (R.cells L)] w fun e w' => e = .returned (.bool true) ∧ Only (fun _ => False) w w' := by
  have HX := hide (arg_new w p ao cp N R L)
  have HAW := hide (fun W => apawake_any W)
  have HD1 := hide (fun W ho => h.does (W := W) ho N)
  have HD2 : Hid ((doP m p N R).2 = 0 → ∀ W B2 cp2 ao2, Only (fun _ => False) w W → Strs W B2 ao2 (doP m p N R).1.items → Fit ao2 (doP m p N R).1.items.length cp2 → Calls Tryz.prog 7 #[.int .i64 m, .agg #[.int .i64 (doP m p N R).1.lsn, .int .i64 (doP m p N R).1.kind, .int .i64 (doP m p N R).1.level, .int .i64 (doP m p N R).1.right, .string (doP m p N R).1.high, .slice ao2 (doP m p N R).1.items.length cp2], .int .i64 N, .agg (R.cells L)] W fun e w' => Res W w' e (doP m p N R).1 0) := fun h0 W B2 cp2 ao2 ho hS hF => by
    have := h.next ho N (doP m p N R).1 (pw_do m h.pw N R (iw_of h.at_ h.n)) B2 cp2 ao2 hS hF
    rw [(doP_again h0).1] at this
    exact this
  have HER : Hid (¬ (doP m p N R).2 = 0 → (doP m p N R).1 = .none) := fun h0 => doP_err h0
  have HMN : Hid ((doP m p N R).2 = 0 → min p.lsn R.lsn ≤ (doP m p N R).1.lsn) := fun h0 => (doP_again h0).2
  obtain ⟨A, hA⟩ : ∃ A, (doP m p N R).1 = A := ⟨_, rfl⟩
  obtain ⟨C, hC⟩ : ∃ C, (doP m p N R).2 = C := ⟨_, rfl⟩
  rw [hA, hC] at HD1 HD2 HER HMN
  clear hA hC h
  go_enter Tryz.func3, Tryz.ntmps3
  go_upto_region 1 with fail
  obtain ⟨W0, hW0⟩ : ∃ x, (w.alloc (.cells #[.int .i64 p.lsn, .int .i64 p.kind, .int .i64 p.level, .int .i64 p.right, .string p.high, .slice ao p.items.length cp, .int .i64 N] 26)).alloc (.cells (R.cells L) 33) = x := ⟨_, rfl⟩
  rw [hW0] at HX ⊢
  clear hW0
  obtain ⟨c0, c1, c2, c3, c4, c5, c6, _⟩ := HX.out.1
  have HA1 := hide (onlyA W0 (.cells #[.int .i64 p.lsn, .int .i64 p.kind, .int .i64 p.level, .int .i64 p.right, .string p.high, .slice ao p.items.length cp] 24))
  have HP1 := hide (Pag.new W0 (.int .i64 p.lsn) (.int .i64 p.kind) (.int .i64 p.level) (.int .i64 p.right) (.string p.high) (.slice ao p.items.length cp))
  have HR1 := hide (HX.out.2.1.more HA1.out)
  have HO1 := hide (o2 HX.out.2.2 HA1.out)
  go_upto_region 3 with fail
  obtain ⟨b7, hb7⟩ : ∃ b, W0.heap.size = b := ⟨_, rfl⟩
  rw [hb7] at HP1 ⊢
  clear hb7
  obtain ⟨W1, hW1⟩ : ∃ x, W0.alloc (.cells #[.int .i64 p.lsn, .int .i64 p.kind, .int .i64 p.level, .int .i64 p.right, .string p.high, .slice ao p.items.length cp] 24) = x := ⟨_, rfl⟩
  rw [hW1] at HP1 HR1 HO1 ⊢
  clear hW1 c0 c1 c2 c3 c4 c5 c6 HX HA1
  obtain ⟨p0, p1, p2, p3, p4, p5, _⟩ := HP1.out
  go_wp2_with (refine wpList_load_rc rfl (.tmp 5) rfl (w.heap.size + 1) rfl R L HR1.out.range ?_; go_frame)
  refine (HD1.out _ HO1.out).mono ?_
  rintro e w2 ⟨B3, ao3, cp3, rfl, hS3, hF3, ho3, _⟩
  have HA2 := hide (onlyA w2 (.cells #[.int .i64 A.lsn, .int .i64 A.kind, .int .i64 A.level, .int .i64 A.right, .string A.high, .slice ao3 A.items.length cp3] 24))
  have HP2 := hide ((HP1.out.more ho3).more HA2.out)
  have HR2 := hide ((HR1.out.more ho3).more HA2.out)
  have HO2 := hide (o2 (o2 HO1.out ho3) HA2.out)
  have HQ2 := hide (Pag.new w2 (.int .i64 A.lsn) (.int .i64 A.kind) (.int .i64 A.level) (.int .i64 A.right) (.string A.high) (.slice ao3 A.items.length cp3))
  have HS2 := hide (hS3.more HA2.out)
  have HF2 := hide hF3
  clear p0 p1 p2 p3 p4 p5 hS3 hF3 ho3 HP1 HR1 HO1 HA2 HD1
  go_upto_region 4 with fail
  obtain ⟨b9, hb9⟩ : ∃ b, w2.heap.size = b := ⟨_, rfl⟩
  rw [hb9] at HQ2 ⊢
  clear hb9
  obtain ⟨w3, hw3⟩ : ∃ x, w2.alloc (.cells #[.int .i64 A.lsn, .int .i64 A.kind, .int .i64 A.level, .int .i64 A.right, .string A.high, .slice ao3 A.items.length cp3] 24) = x := ⟨_, rfl⟩
  rw [hw3] at HP2 HR2 HO2 HQ2 HS2 ⊢
  clear hw3
  by_cases hC : C = 0
  · have HD20 := hide (HD2.out hC)
    have HMN0 := hide (HMN.out hC)
    subst hC
    clear HD2 HMN HER
    obtain ⟨q0, q1, q2, q3, q4, q5, _⟩ := HQ2.out
    go_wp2_with (refine wpList_load_rc rfl (.tmp 5) rfl (w.heap.size + 1) rfl R L HR2.out.range ?_; go_frame)
    refine (HD20.out _ _ _ _ HO2.out HS2.out HF2.out).mono ?_
    rintro e w4 ⟨B5, ao5, cp5, rfl, hS5, hF5, ho5, _⟩
    have HA4 := hide (onlyA w4 (.cells #[.int .i64 A.lsn, .int .i64 A.kind, .int .i64 A.level, .int .i64 A.right, .string A.high, .slice ao5 A.items.length cp5] 24))
    have HP4 := hide ((HP2.out.more ho5).more HA4.out)
    have HR4 := hide ((HR2.out.more ho5).more HA4.out)
    have HO4 := hide (o2 (o2 HO2.out ho5) HA4.out)
    have HQ4 := hide ((HQ2.out.more ho5).more HA4.out)
    have HS4 := hide ((HS2.out.more ho5).more HA4.out)
    have HT4 := hide (Pag.new w4 (.int .i64 A.lsn) (.int .i64 A.kind) (.int .i64 A.level) (.int .i64 A.right) (.string A.high) (.slice ao5 A.items.length cp5))
    have HU4 := hide (hS5.more HA4.out)
    clear q0 q1 q2 q3 q4 q5 hS5 hF5 ho5 HP2 HR2 HO2 HQ2 HS2 HF2 HA4 HD20
    go_upto_region 7 with fail
    obtain ⟨bb, hbb⟩ : ∃ b, w4.heap.size = b := ⟨_, rfl⟩
    rw [hbb] at HT4 ⊢
    clear hbb
    obtain ⟨w5, hw5⟩ : ∃ x, w4.alloc (.cells #[.int .i64 A.lsn, .int .i64 A.kind, .int .i64 A.level, .int .i64 A.right, .string A.high, .slice ao5 A.items.length cp5] 24) = x := ⟨_, rfl⟩
    rw [hw5] at HP4 HR4 HO4 HQ4 HS4 HT4 HU4 ⊢
    clear hw5
    obtain ⟨q0, q1, q2, q3, q4, q5, _⟩ := HQ4.out
    obtain ⟨t0, t1, t2, t3, t4, t5, _⟩ := HT4.out
    go_wp2_with fail
    refine (ysame_any w5 A.lsn A.kind A.level A.right A.lsn A.kind A.level A.right A.high A.high _ _ cp3 cp5 ao3 ao5 A.items A.items HS4.out HU4.out).mono ?_
    rintro e w6 ⟨rfl, ho6⟩
    rw [decide_eq_true (show A.lsn = A.lsn ∧ A.kind = A.kind ∧ A.level = A.level ∧ A.right = A.right ∧ A.high = A.high ∧ A.items = A.items from ⟨rfl, rfl, rfl, rfl, rfl, rfl⟩)]
    have HO6 := hide (o2 HO4.out ho6)
    have HP6 := hide (HP4.out.more ho6)
    have HR6 := hide (HR4.out.more ho6)
    have HQ6 := hide (HQ4.out.more ho6)
    clear q0 q1 q2 q3 q4 q5 t0 t1 t2 t3 t4 t5 ho6 HP4 HR4 HO4 HQ4 HS4 HT4 HU4
    have q0 := HQ6.out.c0
    have p0 := HP6.out.c0
    have r0 := HR6.out.bx.c0
    have hmn := HMN0.out
    go_wp2_with fail
    refine (HAW.out _).mono ?_
    rintro e w7 ⟨rfl, ho7⟩
    go_wp2_with fail
    go_ret
    exact ⟨rfl, o2 HO6.out ho7⟩
  · have hCb : (C == 0) = false := by simpa using hC
    have eA := HER.out hC
    subst eA
    clear hC HER HMN HD2
    have q5 := HQ2.out.c5
    go_wp2_with fail
    refine (HAW.out _).mono ?_
    rintro e w4 ⟨rfl, ho4⟩
    go_wp2_with fail
    go_ret
    exact ⟨rfl, o2 HO2.out ho4⟩
end Go.Proofs.YtnpdmlkgcjggoaaGreat
