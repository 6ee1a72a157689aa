/- What the document's Take and Logged do. -/
import Derived.Test.YtmcghpeamnmbpaaORef
import Derived.Test.YtmcghpeamnmbpaaOOut
import Derived.Deep.RegionHeld3
namespace Go.Proofs.Ytmcghpeamnmbpaa
open Go.RowKit Go.Maps

theorem set_mid {A l : List Value} {k : Nat} (u : Value) : (A ++ l).set (A.length + k) u = A ++ l.set k u := by
  rw [List.set_append_right _ _ (by omega)]
  congr 2
  omega
theorem flat_set {α : Type} {E : Lay α} {L : List α} {j k : Nat} (hj : j < L.length) (hk : k < E.c) {u : Value} {x : α} (hx : E.e x = (E.e L[j]).set k u) : (L.flatMap E.e).set (j * E.c + k) u = (L.set j x).flatMap E.e := by
  have e : L = L.take j ++ L[j] :: L.drop (j + 1) := by rw [← List.drop_eq_getElem_cons hj, List.take_append_drop]
  have e1 : L.set j x = L.take j ++ x :: L.drop (j + 1) := List.set_eq_take_append_cons_drop.trans (by rw [if_pos hj])
  have e2 : L.flatMap E.e = (L.take j).flatMap E.e ++ (E.e L[j] ++ (L.drop (j + 1)).flatMap E.e) := by
    conv => lhs; rw [e]
    rw [List.flatMap_append, List.flatMap_cons]
  have hl : ((L.take j).flatMap E.e).length = j * E.c := by rw [E.length, List.length_take]; rw [Nat.min_eq_left (by omega)]
  rw [e2, e1, ← hl, set_mid, List.flatMap_append, List.flatMap_cons, hx, List.set_append_left _ _ (by rw [E.len]; exact hk)]
theorem GRow.poke {α : Type} {E : Lay α} {ty : TypeId} {w : World} {base g n cp : Nat} {L : List α} (h : GRow E ty w base (.slice (some ⟨g, 0, none⟩) n cp) L) (hn : L.length = n) {j k : Nat} (hj : j < L.length) (hk : k < E.c) {u : Value} {x : α} (hx : E.e x = (E.e L[j]).set k u) : GRow E ty (w.setCell ⟨g, j * E.c + k, none⟩ u) base (.slice (some ⟨g, 0, none⟩) n cp) (L.set j x) := by
  subst hn
  unfold GRow
  rw [List.length_set, ← flat_set hj hk hx]
  exact (World.ownsRow.stored h _ u).1
theorem GRow.poke2 {α : Type} {E : Lay α} {ty : TypeId} {w : World} {base g n cp : Nat} {L : List α} {j k : Nat} (x y : α) (h : GRow E ty w base (.slice (some ⟨g, 0, none⟩) n cp) (L.set j x)) (hn : L.length = n) (hj : j < L.length) (hk : k < E.c) {u : Value} (hx : E.e y = (E.e x).set k u) : GRow E ty (w.setCell ⟨g, j * E.c + k, none⟩ u) base (.slice (some ⟨g, 0, none⟩) n cp) (L.set j y) := by
  have := h.poke (x := y) (by rw [List.length_set]; exact hn) (j := j) (k := k) (by rw [List.length_set]; exact hj) hk (u := u) (by rw [List.getElem_set_self]; exact hx)
  rwa [List.set_set] at this
open Classical in
theorem take_none {f : Tt} {a : Int} (x : Int) (h : f a = none) : takeE f a x = 182 ∧ takeF f a x = f := by
  unfold takeE takeF
  rw [h]
  exact ⟨rfl, rfl⟩
open Classical in
theorem take_bad {f : Tt} {a x : Int} {t : Tx} (h : f a = some t) (hc : x < 1 ∨ t.xid ≠ 0 ∨ f.Has x) : takeE f a x = 1 ∧ takeF f a x = f := by
  unfold takeE takeF
  rw [h]
  simp only [if_pos hc]
  exact ⟨trivial, trivial⟩
open Classical in
theorem take_ok {f : Tt} {a x : Int} {t : Tx} (h : f a = some t) (hc : ¬ (x < 1 ∨ t.xid ≠ 0 ∨ f.Has x)) : takeE f a x = 0 ∧ takeF f a x = f.set a (t.take x) := by
  unfold takeE takeF
  rw [h]
  simp only [if_neg hc]
  exact ⟨trivial, trivial⟩
theorem log_none {f : Tt} {a : Int} (l : Int) (u : Bool) (h : f a = none) : logE f a l = 182 ∧ logF f a l u = f := by
  unfold logE logF
  rw [h]
  exact ⟨rfl, rfl⟩
theorem log_bad {f : Tt} {a l : Int} {t : Tx} (u : Bool) (h : f a = some t) (hc : t.xid = 0 ∨ l ≤ t.lst) : logE f a l = 1 ∧ logF f a l u = f := by
  unfold logE logF
  rw [h]
  simp only [if_pos hc]
  exact ⟨trivial, trivial⟩
theorem log_ok {f : Tt} {a l : Int} {t : Tx} (u : Bool) (h : f a = some t) (hc : ¬ (t.xid = 0 ∨ l ≤ t.lst)) : logE f a l = 0 ∧ logF f a l u = f.set a (t.log l u) := by
  unfold logE logF
  rw [h]
  simp only [if_neg hc]
  exact ⟨trivial, trivial⟩
/-- A row has been turned. -/
theorem Rm.poke {w w' : World} {Y : Nat → Prop} {r n n' g cp i : Nat} {f f' : Tt} {R : List Rw} (H : Rm w Y r n f (some ⟨g, 0, none⟩) cp R) (hi : i < R.length) {x : Rw} (hw : x.who = R[i].who) (hs : x.s = R[i].s) (ho : Only (fun k => k = g) w w') (hrow : RRow w' 0 (.slice (some ⟨g, 0, none⟩) R.length cp) (R.set i x)) (hf : f' = f.set R[i].who x.tx) (hn : n ≤ n') (hok : f'.Ok n') : Rm w' Y r n' f' (some ⟨g, 0, none⟩) cp (R.set i x) := by
  have hg := H.own g 0 none rfl
  subst hf
  refine ⟨?_, ?_, by rw [List.length_set]; exact hrow, H.own, fun y hy => ?_, H.yr, H.hi.set hi hw, by rw [List.length_set]; exact Nat.le_trans H.hn hn, hok⟩
  · rw [List.length_set]
    exact (ho.cell (p := ⟨r, 0, none⟩) H.lt (fun e => hg.2 e.symm)).trans H.c0
  · exact (ho.frozen (p := ⟨r, 0, none⟩) H.lt (fun e => hg.2 e.symm)).trans H.f0
  · obtain ⟨q, hq, rfl⟩ := List.getElem_of_mem hy
    rw [List.length_set] at hq
    have key : ∀ s : Sp, Nm w (Qy Y r (some ⟨g, 0, none⟩)) s.ao s.act → Nm w' (Qy Y r (some ⟨g, 0, none⟩)) s.ao s.act := fun s h => h.kept ho (fun k _ hq e => hq.2.2 g 0 none rfl e)
    rw [List.getElem_set]
    split
    · rw [hs]
      exact key _ (H.nm R[i] (List.getElem_mem hi))
    · exact key _ (H.nm R[q] (List.getElem_mem hq))
theorem RIs.has {f : Tt} {R : List Rw} (h : RIs f R) {x : Int} {j : Nat} (hj : j < R.length) (e : R[j].xid = x) : f.Has x := ⟨R[j].who, R[j].tx, (h.mem _ _).2 ⟨R[j], List.getElem_mem hj, rfl, rfl⟩, e⟩
theorem RIs.hasnt {f : Tt} {R : List Rw} (h : RIs f R) {x : Int} (hq : ∀ q (h : q < R.length), R[q].xid ≠ x) : ¬ f.Has x := by
  rintro ⟨a, t, ha, hx⟩
  obtain ⟨y, hy, _, rfl⟩ := (h.mem a t).1 ha
  obtain ⟨q, hq', rfl⟩ := List.getElem_of_mem hy
  exact hq q hq' hx
set_option maxRecDepth 100000 in
set_option maxHeartbeats 1600000 in
theorem rtake_any (w : World) (Y : Nat → Prop) (r n : Nat) (f : Tt) (ao : Option Addr) (cp : Nat) (R : List Rw) (H : Rm w Y r n f ao cp R) (hn : n ≤ 4398046511104) (a x : Int) : Calls Try.prog 13 #[.pointer (some ⟨r, 0, none⟩), .int .i64 a, .int .i64 x] w fun e w' =>
    e = .returned (.int .i64 (takeE f a x)) ∧ Rt w' Y r n (takeF f a x) ∧ Only Y w w' := by
  have hlen := H.hn
  have HC := hide (rat_any w Y r n f ao cp R H hn a)
  have HH := hide H
  clear H
  go_enter Try.func13, Try.ntmps13
  go_wp2_with fail
  refine HC.out.mono ?_
  rintro e w2 ⟨⟨i, has, rfl, hA⟩, hO⟩
  have HA := hide hA
  have HO := hide hO
  have HOY : Hid (Only Y w w2) := hO.mono (fun _ _ h => h.elim)
  have hr := HH.out.more hO
  have HR2 := hide hr
  have c0 := hr.c0
  clear hA hO hr HC
  cases has with
  | false =>
    have HV := hide (take_none x (HH.out.hi.none HA.out))
    go_wp2_with fail
    go_ret
    rw [HV.out.1, HV.out.2]
    exact ⟨rfl, ⟨_, _, _, HR2.out⟩, HOY.out⟩
  | true =>
    obtain ⟨hi, hwi, hf⟩ := HH.out.hi.some HA.out
    have HF := hide hf
    obtain ⟨g, rfl, hyg, hgr, _, hcp, _, _, _, k3, _⟩ := HR2.out.row hi
    have f3 : w2.frozen? ⟨g, i * 7 + 3, none⟩ = false := World.ownsRow.frozenAt HR2.out.h _
    have HWI := hide hwi
    have HYG := hide hyg
    obtain ⟨xi, hxi⟩ : ∃ z, R[i].xid = z := ⟨_, rfl⟩
    have HXI : Hid (R[i].tx.xid = xi) := hxi
    rw [hxi] at k3
    have hj0 : (0 : Int) ≤ (i : Int) := by omega
    have hj1 : (i : Int) < (R.length : Int) := by omega
    clear hxi hwi hyg hgr hf
    by_cases h1 : x < 1
    · have HV := hide (take_bad (x := x) HF.out (.inl h1))
      go_wp2_with fail
      go_ret
      rw [HV.out.1, HV.out.2]
      exact ⟨rfl, ⟨_, _, _, HR2.out⟩, HOY.out⟩
    · by_cases h0 : xi = 0
      · have hb : (xi != 0) = false := by simp [h0]
        have H0 := hide h0
        have H1 := hide h1
        clear h0
        go_upto_region 6 with fail
        go_wp2_with fail
        go_loop [9] (fun y => ∃ j : Nat, j ≤ R.length ∧ y = .int .i64 (j : Int) ∧ Hid (∀ q (hq : q < R.length), q < j → R[q].xid ≠ x)) (fun y => R.length - (intOf y).toNat)
        case atStart => exact ⟨0, by omega, rfl, (fun k _ hk => by omega)⟩
        case round =>
          obtain ⟨j, hj, rfl, HQ⟩ := hrel
          by_cases hlt : j < R.length
          · obtain ⟨g', eg, _, _, _, _, _, _, _, q3, _⟩ := HR2.out.row hlt
            injection eg with eg
            injection eg with eg
            subst eg
            obtain ⟨z, hz⟩ : ∃ z, R[j].xid = z := ⟨_, rfl⟩
            have HZ := hide hz
            rw [hz] at q3
            have hj2 : (0 : Int) ≤ (j : Int) := by omega
            have hj3 : (j : Int) < (R.length : Int) := by omega
            clear hz
            by_cases he : z = x
            · have hbb : (z == x) = true := by simp [he]
              have hh : f.Has x := HH.out.hi.has hlt (by rw [HZ.out]; exact he)
              have HV := hide (take_bad (x := x) HF.out (.inr (.inr hh)))
              clear he hh
              go_wp2_with fail
              go_ret
              rw [HV.out.1, HV.out.2]
              exact ⟨rfl, ⟨_, _, _, HR2.out⟩, HOY.out⟩
            · have hbb : (z == x) = false := by simp [he]
              have HE := hide he
              clear he
              go_wp2_with fail
              refine ⟨⟨j + 1, by omega, by go_num, ?_⟩, by simp [intOf]; omega⟩
              intro q hq hqj
              by_cases eq : q = j
              · subst eq; rw [HZ.out]; exact HE.out
              · exact HQ.out q hq (by omega)
          · have hno : ¬ f.Has x := HH.out.hi.hasnt (fun q hq => HQ.out q hq (by omega))
            have hc : ¬ (x < 1 ∨ R[i].tx.xid ≠ 0 ∨ f.Has x) := by
              rintro (e | e | e)
              · have := H1.out; omega
              · exact e (HXI.out.trans H0.out)
              · exact hno e
            have HV := hide (take_ok HF.out hc)
            clear hc hno
            go_wp2_with fail
            go_ret
            rw [HV.out.1, HV.out.2]
            have hrow := GRow.poke (E := ER) (k := 3) (u := .int .i64 x) (x := { R[i] with xid := x }) HR2.out.h rfl hi (by decide) rfl
            refine ⟨rfl, ⟨_, _, _, HR2.out.poke (f' := f.set a (R[i].tx.take x)) hi (x := { R[i] with xid := x }) rfl rfl (Only.put _ _ _ _) hrow (by rw [HWI.out]; rfl) (Nat.le_refl n) ?_⟩, HOY.out.trans (Only.put _ _ _ _) (fun k _ e => by rw [e]; exact HYG.out)⟩
            have := takeF_ok HH.out.ok a x
            rw [HV.out.2] at this
            exact this
      · have hb : (xi != 0) = true := by simp [h0]
        have HV := hide (take_bad (x := x) HF.out (.inr (.inl (by rw [HXI.out]; exact h0))))
        clear h0
        go_wp2_with fail
        go_ret
        rw [HV.out.1, HV.out.2]
        exact ⟨rfl, ⟨_, _, _, HR2.out⟩, HOY.out⟩
theorem yieldsIf_load_cellT {ops : Array Oper} {S : World → Prop} {op : Oper} {a : Act} {v : Value} (hw : Region.wanted op (yielded ops a.tmps) = true) (ty : TypeId) (x : Operand) (ho : op.op = .load ty x)
    (p : Addr) (hx : a.eval x = .pointer (some p)) (hS : ∀ w, S w → w.cell? p = some v) (hl : ∀ w, w.cell? p = some v → (loadVar ty p).run Try.prog w = .ok v w) : YieldsIf Try.prog ops S op v a :=
  .inl ⟨hw, fun w hw' => by
    unfold execOp
    simp only [ho, hx, Instr.loadAt, Instr.sureAddr, Sem.run_bind, Sem.run_pure, Result.andThen_ok, hl w (hS w hw')]⟩
theorem ld_rxrows {w : World} {p : Addr} {v : Value} (h : w.cell? p = some v) : (loadVar 64 p).run Try.prog w = .ok v w := by simp [loadVar, go_sem, h]
theorem yieldsIf_load_tx {ops : Array Oper} {S : World → Prop} {op : Oper} {a : Act} {v0 v1 v2 v3 v4 v5 : Value} (hw : Region.wanted op (yielded ops a.tmps) = true) (x : Operand) (ho : op.op = .load 37 x)
    (b : Nat) (hx : a.eval x = .pointer (some ⟨b, 0, none⟩)) (hS : ∀ w, S w → Cb w b [v0, v1, v2, v3, v4, v5]) : YieldsIf Try.prog ops S op (.agg #[v0, v1, v2, v3, v4, v5]) a :=
  .inl ⟨hw, fun w hw' => by
    unfold execOp
    simp only [ho, hx, Instr.loadAt, Instr.sureAddr, Sem.run_bind, Sem.run_pure, Result.andThen_ok, load_tx (hS w hw')]⟩
end Go.Proofs.Ytmcghpeamnmbpaa
