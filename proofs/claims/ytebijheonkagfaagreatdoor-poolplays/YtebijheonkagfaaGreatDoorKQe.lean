/- The calls over a pool, its log and its disk; how they are made. -/
import Derived.Test.YtebijheonkagfaaGreatDoorKQd
import Derived.Test.YtebijheonkagfaaGreatDoorKE
namespace Go.Proofs.YtebijheonkagfaaGreatDoor
open Go.RowKit
def nt : Rc := ⟨0, 0, 0, 2, 1, 0, 0, 0, 0, 0, ⟨#[]⟩, [], [], [], [], []⟩
theorem nt_at (w : World) : RcAt w nt Loc.none :=
  ⟨Zs.nil _ _ _, Zs.nil _ _ _, ⟨fun _ => True, Ims.nil _ _ _ _⟩, Prs.nil _ _ _, Prs.nil _ _ _, ⟨fun _ => rfl, Nat.le_refl _, Nat.zero_le _⟩, ⟨fun _ => rfl, Nat.le_refl _, Nat.zero_le _⟩, Nat.zero_le _, ⟨by decide, by decide⟩⟩
theorem run_build_nt (w : World) : (Instr.build 59 #[(3, .int .u8 2), (4, .int .i64 1)]).run Tryz.prog w = .ok (.agg (nt.cells Loc.none)) w := run_build w 59 _ _ (by kernel_rfl)
section
variable {ops : Array Oper} {rest : List Oper} {o : Oper} {a : Act} {w : World} {Q : Exit → Act → World → Prop}
theorem wpList_build_nt (hg : o.guard = none) (hop : o.op = .build 59 #[(3, .const (.int .u8 2)), (4, .const (.int .i64 1))]) (h : wpList Tryz.prog ops Q rest (a.put o.dst (.agg (nt.cells Loc.none))) w) : wpList Tryz.prog ops Q (o :: rest) a w := by
  refine wpList_plain hg fun K hK => ?_
  unfold Oper.wp execOp
  have e : (#[(3, Operand.const (.int .u8 2)), (4, .const (.int .i64 1))] : Array (Nat × Operand)).map (fun x => (x.1, a.eval x.2)) = #[(3, .int .u8 2), (4, .int .i64 1)] := by
    simp only [List.map_toArray, List.map_cons, List.map_nil]
    rfl
  simp only [hop, e, Sem.run_bind, Sem.run_pure, Result.andThen_ok, run_build_nt]
  exact hK _ _ h
end
set_option maxRecDepth 100000 in
set_option maxHeartbeats 800000 in
theorem note_any (w : World) : Calls Tryz.prog 15 #[] w fun e w' => e = .returned (.agg (nt.cells Loc.none)) ∧ Only (fun _ => False) w w' := by
  have HTH := hide (there_new w Rc.none Loc.none); have HO := hide (onlyA w (.cells (Rc.none.cells Loc.none) 59))
  go_enter Tryz.func15, Tryz.ntmps15
  go_upto_region 1 with fail
  go_wp2_with (refine wpList_build_nt rfl rfl ?_; go_frame; refine wpList_put_rec rfl (.tmp 0) (.tmp 1) rfl w.heap.size rfl nt Loc.none rfl HTH.out ?_; intro W9 HW9; go_frame)
  refine bodyPost_ret (results_cell1 rfl rfl HW9.out.load) rfl ?_
  exact ⟨rfl, HO.out.trans HW9.out.only (fun i hi e => by omega)⟩
noncomputable def Pl.writeN (P : Pl) (D : Dk) (G : Lg) (n : Int) : Wo :=
  if P.hasC n ≠ 0 then ⟨P.hasC n, P, D, G⟩
  else match P.idx n with
    | some i => if (P.get i).chg = true then P.write D G i (P.get i) else ⟨0, P, D, G⟩
    | none => ⟨0, P, D, G⟩
set_option maxRecDepth 100000 in
set_option maxHeartbeats 3200000 in
theorem oWrite_any (w : World) (p d l fb mb g m : Nat) (P : Pl) (D : Dk) (G : Lg) (B : Nat) (ao : Option Addr) (cp : Nat) (v8 : Value) (T : Nat → Prop) (h : Sh w p d l fb mb g m P D G B ao cp v8 T) (hok : P.Ok) (page : Int) :
    Calls Tryz.prog 19 #[.pointer (some ⟨p, 0, none⟩), .int .i64 page] w fun e w' =>
      e = .returned (.int .i64 (P.writeN D G page).c) ∧ ShR w w' p d l fb mb g m B ao cp v8 T (P.writeN D G page) := by
  obtain ⟨R, hR⟩ : ∃ R, P.writeN D G page = R := ⟨_, rfl⟩; rw [hR]; have HS := hide h; have HOK := hide hok; have HA := hide (ohas_any w p d l fb mb P T h.pool page); have HH := hide (holder_any w p d l fb mb P T h.pool page); unfold Pl.writeN at hR; unfold Pl.ptr at HH; clear h hok
  by_cases hp : P.hasC page ≠ 0
  · rw [if_pos hp] at hR
    obtain ⟨c, hc⟩ : ∃ c, P.hasC page = c := ⟨_, rfl⟩; rw [hc] at hR hp HA; have HR := hide hR
    have hb : (c == 0) = false := by simp [hp]
    clear hR hp hc HH
    go_enter Tryz.func19, Tryz.ntmps19
    go_wp2_with fail
    refine HA.out.mono ?_; rintro e w1 ⟨rfl, hw1⟩; obtain rfl := hw1.symm; clear hw1 HA
    go_wp2_with fail
    go_ret
    rw [← HR.out]
    exact ⟨rfl, ShR.refl HS.out c⟩
  · have hp0 : P.hasC page = 0 := by simpa using hp
    rw [if_neg hp] at hR; rw [hp0] at HA; clear hp hp0
    cases hx : P.idx page with
    | none =>
      rw [hx] at hR HH
      dsimp only [Option.map] at hR HH
      have HR := hide hR; clear hR hx
      go_enter Tryz.func19, Tryz.ntmps19
      go_wp2_with fail
      refine HA.out.mono ?_; rintro e w1 ⟨rfl, hw1⟩; obtain rfl := hw1.symm; clear hw1 HA
      go_wp2_with fail
      refine HH.out.mono ?_; rintro e w1 ⟨rfl, hw1⟩; obtain rfl := hw1.symm; clear hw1 HH
      go_wp2_with fail
      go_ret
      rw [← HR.out]
      exact ⟨rfl, ShR.refl HS.out 0⟩
    | some i =>
      rw [hx] at hR HH
      dsimp only [Option.map] at hR HH
      have hil := (idx_lt hx).1; have hk := (HS.out.pool.fr i hil).cells.2.2; have hnn := HS.out.pool.nn _ (List.getElem_mem hil); have hoj := HOK.out _ (List.getElem_mem hil); have hgj := get_at hil; rw [hgj] at hk hnn hoj; obtain ⟨F, hF⟩ : ∃ F, P.get i = F := ⟨_, rfl⟩; rw [hF] at hR hk hnn hoj hgj; have HI := hide hil
      have HG : Hid (∀ h : i < P.fs.length, P.fs[i] = F) := fun _ => hgj
      clear hx hF hgj hil
      cases hc : F.chg with
      | false =>
        rw [hc, if_neg (by simp)] at hR; rw [hc] at hk; have HR := hide hR; clear hR hc hnn hoj
        go_enter Tryz.func19, Tryz.ntmps19
        go_wp2_with fail
        refine HA.out.mono ?_; rintro e w1 ⟨rfl, hw1⟩; obtain rfl := hw1.symm; clear hw1 HA
        go_wp2_with fail
        refine HH.out.mono ?_; rintro e w1 ⟨rfl, hw1⟩; obtain rfl := hw1.symm; clear hw1 HH
        go_wp2_with fail
        go_ret
        rw [← HR.out]
        exact ⟨rfl, ShR.refl HS.out 0⟩
      | true =>
        rw [hc, if_pos rfl] at hR; rw [hc] at hk
        have hn0 : 0 ≤ F.num ∧ F.num < (P.pages : Int) := by
          rcases hnn with ⟨_, e⟩ | e
          · rw [hc] at e; cases e
          · exact e
        have hv0 := hoj hc; have HWR := hide (owrite_any w p d l fb mb g m P D G B ao cp v8 T HS.out i HI.out F (HG.out HI.out) hn0 hv0); rw [hR] at HWR; clear hR hc hnn hoj hn0 hv0
        go_enter Tryz.func19, Tryz.ntmps19
        go_wp2_with fail
        refine HA.out.mono ?_; rintro e w1 ⟨rfl, hw1⟩; obtain rfl := hw1.symm; clear hw1 HA
        go_wp2_with fail
        refine HH.out.mono ?_; rintro e w1 ⟨rfl, hw1⟩; obtain rfl := hw1.symm; clear hw1 HH
        go_wp2_with fail
        refine HWR.out.mono ?_; rintro e w2 ⟨rfl, hs2⟩; have HS2 := hide hs2; clear hs2 hk; obtain ⟨c, hc⟩ : ∃ c, R.c = c := ⟨_, rfl⟩; rw [hc]; have HC := hide hc; clear hc
        go_wp2_with fail
        go_ret
        exact ⟨by rw [HC.out]; rfl, HS2.out⟩
theorem ok_new (frm pages n : Nat) : (Pl.new frm pages n).Ok := by
  intro f hf hc
  have : f = Fm.none := by simp [Pl.new] at hf; exact hf.2
  subst this
  cases hc
theorem ok_setF {P : Pl} (h : P.Ok) (i : Nat) (F : Fm) (hF : F.chg = true → F.pg.out.2 = 0) : (P.setF i F).Ok := by
  intro f hf hc; have hf' : f ∈ P.fs.set i F := hf
  rcases List.mem_or_eq_of_mem_set hf' with hm | rfl
  · exact h f hm hc
  · exact hF hc
theorem ok_synced {P : Pl} (h : P.Ok) : P.synced.Ok := h
theorem ok_wr {P : Pl} (h : P.Ok) (D : Dk) (G : Lg) (i : Nat) (F : Fm) : (P.wr D G i F).P.Ok := by
  unfold Pl.wr
  split
  · exact ok_setF h i _ (fun hc => by cases hc)
  · exact h
theorem ok_write {P : Pl} (h : P.Ok) (D : Dk) (G : Lg) (i : Nat) (F : Fm) : (P.write D G i F).P.Ok := by
  unfold Pl.write
  split
  · split
    · exact ok_wr (ok_synced h) _ _ _ _
    · exact h
  · exact ok_wr h _ _ _ _
theorem ok_take {P : Pl} (h : P.Ok) (D : Dk) (G : Lg) (pick : Int) : (P.take D G pick).1.P.Ok := by
  unfold Pl.take
  split
  · exact h
  · unfold Pl.takeAt
    split
    · split
      · exact ok_setF (ok_write h _ _ _ _) _ _ (fun hc => by cases hc)
      · exact ok_write h _ _ _ _
    · exact ok_setF h _ _ (fun hc => by cases hc)
theorem ok_setAt {P : Pl} (h : P.Ok) (i n : Nat) (body : Pg) (hb : body.out.2 = 0) : (P.setAt i n body).Ok := by
  unfold Pl.setAt
  split
  · exact ok_setF h i _ (fun _ => hb)
  · exact ok_setF h i ⟨body, (n : Int), true⟩ (fun _ => hb)
theorem setC_out {body : Pg} (h : ¬ body.setC ≠ 0) : body.out.2 = 0 := by
  have h0 : body.setC = 0 := by simpa using h
  unfold Pg.setC at h0
  by_cases e : body.out.2 = 0
  · exact e
  · rw [if_pos e] at h0
    exact absurd h0 e
theorem ok_set {P : Pl} (h : P.Ok) (D : Dk) (G : Lg) (n : Int) (body : Pg) (pick : Int) : (P.set D G n body pick).P.Ok := by
  unfold Pl.set
  split
  · exact h
  · split
    · exact h
    · rename_i hb
      split
      · exact ok_setAt h _ _ _ (setC_out hb)
      · split
        · exact ok_setAt (ok_take h _ _ _) _ _ _ (setC_out hb)
        · exact ok_take h _ _ _
theorem ok_writeN {P : Pl} (h : P.Ok) (D : Dk) (G : Lg) (n : Int) : (P.writeN D G n).P.Ok := by
  unfold Pl.writeN
  split
  · exact h
  · split
    · split
      · exact ok_write h _ _ _ _
      · exact h
    · exact h
theorem ok_fetch {P : Pl} (h : P.Ok) (D : Dk) (G : Lg) (n pick : Int) : (P.fetch D G n pick).1.P.Ok := by
  unfold Pl.fetch
  split
  · exact h
  · split
    · exact h
    · split
      · exact h
      · split
        · exact ok_setF (ok_take h _ _ _) _ _ (fun hc => by cases hc)
        · exact ok_take h _ _ _
theorem lays_out (G : Lg) (hn : 0 < G.n) (N : Nat) (hN : G.frm + G.n ≤ N) (hb : ∀ k, (G.block k).length ≤ 54) (c : Nat) : ∀ (k : Nat) (D : Dk) (f : Nat → List UInt8), D.Wk N f → (G.lays k c D).2 = 0 ∧ ∃ f', (G.lays k c D).1.Wk N f' ∧ ∀ j, j < G.frm ∨ G.frm + G.n ≤ j → f' j = f j := by
  induction c with
  | zero => exact fun k D f h => ⟨rfl, f, h, fun _ _ => rfl⟩
  | succ c ih =>
    intro k D f h; have hm := Nat.mod_lt k hn; have hw := h.write (G.frm + k % G.n) 1 (holdL k (G.block k)) (by rw [hold_len k _ (hb k)]) (by omega); have h1 : (G.lay1 k D).2 = 0 := hw.1; rw [lays_step, if_pos h1]; obtain ⟨a1, f', a2, a3⟩ := ih (k + 1) _ _ hw.2; refine ⟨a1, f', a2, fun j hj => ?_⟩; rw [a3 j hj, if_neg (by omega)]
theorem fl_out (G : Lg) (hn : 0 < G.n) (N : Nat) (hN : G.frm + G.n ≤ N) (D : Dk) (f : Nat → List UInt8) (h : D.Wk N f) : (G.fl D).2.1 = 0 ∧ (G.fl D).2.2 = G.tail ∧ ∃ f', (G.fl D).1.Wk N f' ∧ ∀ j, j < G.frm ∨ G.frm + G.n ≤ j → f' j = f j := by
  unfold Lg.fl
  split
  · rename_i e
    exact ⟨rfl, e, f, h, fun _ _ => rfl⟩
  · obtain ⟨h1, f1, h2, h3⟩ := lays_out G hn N hN (fun k => by unfold Lg.block; rw [List.length_take]; omega) ((G.tail - 2) / 54 + 1 - (G.flushed - 1) / 54) ((G.flushed - 1) / 54) D f h
    unfold Lg.flush; simp only [h1, if_true]; rw [if_pos h2.sync.1]
    exact ⟨rfl, rfl, f1, h2.sync.2, h3⟩
theorem wr_out (P : Pl) (G : Lg) (i : Nat) (F : Fm) (N : Nat) (D : Dk) (f : Nat → List UInt8) (h : D.Wk N f) (hv : F.pg.out.2 = 0) (hN : P.frm + 8 * F.num.toNat + 8 ≤ N) :
    (P.wr D G i F).c = 0 ∧ (P.wr D G i F).P = P.setF i { F with chg := false } ∧ (P.wr D G i F).G = G ∧ (P.wr D G i F).D.Wk N (fun j => if P.frm + 8 * F.num.toNat ≤ j ∧ j < P.frm + 8 * F.num.toNat + 8 then (F.pg.enc.drop (64 * (j - (P.frm + 8 * F.num.toNat)))).take 64 else f j) := by
  have hl := (enc_512 F.pg hv).2; have hw := h.write (P.frm + 8 * F.num.toNat) 8 F.pg.enc (by omega) hN; unfold Pl.wr; rw [if_pos hw.1]
  exact ⟨rfl, rfl, rfl, hw.2⟩
theorem chunk_all (l : List UInt8) (n : Nat) : ((List.range n).map fun i => (l.drop (64 * i)).take 64).flatten = l.take (64 * n) := by
  induction n with
  | zero => simp
  | succ n ih => rw [List.range_succ, List.map_append, List.flatten_append, ih, show 64 * (n + 1) = 64 * n + 64 by omega, List.take_add]; simp
theorem page_back {D : Dk} {N : Nat} {f : Nat → List UInt8} (h : D.Wk N f) (a : Nat) (ha : a + 8 ≤ N) (p : Pg) (hv : p.valid) (hf : ∀ i, i < 8 → f (a + i) = (p.enc.drop (64 * i)).take 64) : D.page a = (p, 0) := by
  have hl := enc_len p hv.fit.2.2
  have hr : D.read (a : Int) 8 = (p.enc, 0) := by
    unfold Dk.read; rw [h.dead, if_neg (by simp), h.len, if_pos (by unfold hasB; simp; omega)]
    have e : D.bytes (a : Int).toNat (8 : Int).toNat = p.enc := by
      unfold Dk.bytes; rw [Int.toNat_natCast, show (8 : Int).toNat = 8 from rfl]
      have e2 : ((List.range 8).map fun i => D.cur (a + i)) = (List.range 8).map fun i => (p.enc.drop (64 * i)).take 64 := by
        apply List.map_congr_left
        intro i hi; have hi := List.mem_range.1 hi; rw [h.cur (a + i) (by omega), hf i hi]
      rw [e2, chunk_all]
      exact List.take_of_length_le (by omega)
    rw [e]
  unfold Dk.page; rw [hr]
  dsimp only
  rw [dec_enc p hv]
  simp
def Lg.Alike (G G' : Lg) : Prop := ∃ x, G' = { G with flushed := x }
theorem Lg.Alike.refl (G : Lg) : G.Alike G := ⟨G.flushed, rfl⟩
theorem alike_wr (P : Pl) (D : Dk) (G : Lg) (i : Nat) (F : Fm) : (P.wr D G i F).G = G := by
  unfold Pl.wr
  split <;> rfl
theorem alike_write (P : Pl) (D : Dk) (G : Lg) (i : Nat) (F : Fm) : G.Alike (P.write D G i F).G := by
  unfold Pl.write
  split
  · split
    · rw [alike_wr]
      exact ⟨_, rfl⟩
    · exact ⟨_, rfl⟩
  · rw [alike_wr]
    exact Lg.Alike.refl G
theorem alike_take (P : Pl) (D : Dk) (G : Lg) (pick : Int) : G.Alike (P.take D G pick).1.G := by
  unfold Pl.take
  split
  · exact Lg.Alike.refl G
  · unfold Pl.takeAt
    split
    · split
      · exact alike_write _ _ _ _ _
      · exact alike_write _ _ _ _ _
    · exact Lg.Alike.refl G
theorem alike_set (P : Pl) (D : Dk) (G : Lg) (n : Int) (body : Pg) (pick : Int) : G.Alike (P.set D G n body pick).G := by
  unfold Pl.set
  split
  · exact Lg.Alike.refl G
  · split
    · exact Lg.Alike.refl G
    · split
      · exact Lg.Alike.refl G
      · split
        · exact alike_take _ _ _ _
        · exact alike_take _ _ _ _
theorem alike_writeN (P : Pl) (D : Dk) (G : Lg) (n : Int) : G.Alike (P.writeN D G n).G := by
  unfold Pl.writeN
  split
  · exact Lg.Alike.refl G
  · split
    · split
      · exact alike_write _ _ _ _ _
      · exact Lg.Alike.refl G
    · exact Lg.Alike.refl G
theorem alike_fetch (P : Pl) (D : Dk) (G : Lg) (n pick : Int) : G.Alike (P.fetch D G n pick).1.G := by
  unfold Pl.fetch
  split
  · exact Lg.Alike.refl G
  · split
    · exact Lg.Alike.refl G
    · split
      · exact Lg.Alike.refl G
      · split
        · exact alike_take _ _ _ _
        · exact alike_take _ _ _ _
structure Sw (w W : World) (p d l fb mb g m : Nat) (P : Pl) (D : Dk) (G : Lg) (v7 v8 : Value) (T : Nat → Prop) : Prop where
  pool : PoolAt W p d l fb mb P T
  dsk : Dsk W d g m D
  log : LogOw W l d G w.heap.size v7 v8
  ok : G.Ok
  sf : G.start ≤ G.flushed
  tb : G.tail < 4294967295
  pok : P.Ok
  xp : ¬ own d g m p ∧ p ≠ l
  xf : ¬ own d g m fb ∧ fb ≠ l
  xm : ¬ own d g m mb ∧ mb ≠ l
  xT : ∀ k, T k → ¬ own d g m k ∧ k ≠ l
  xl : ¬ own d g m l
  x7 : ∀ k, v7.ownBlock = some k → ¬ own d g m k ∧ k ≠ l ∧ k ≠ p ∧ k ≠ fb ∧ k ≠ mb ∧ ¬ T k
  x8 : ∀ k, v8.ownBlock = some k → ¬ own d g m k ∧ k ≠ l ∧ k ≠ p ∧ k ≠ fb ∧ k ≠ mb ∧ ¬ T k
  only : Only (fun _ => False) w W
  lo : w.heap.size ≤ p ∧ w.heap.size ≤ fb ∧ w.heap.size ≤ mb ∧ w.heap.size ≤ l ∧ ∀ k, own d g m k → w.heap.size ≤ k
theorem Sw.more {w W W' : World} {p d l fb mb g m : Nat} {P : Pl} {D : Dk} {G : Lg} {v7 v8 : Value} {T : Nat → Prop} (h : Sw w W p d l fb mb g m P D G v7 v8 T) (ho : Only (fun _ => False) W W') : Sw w W' p d l fb mb g m P D G v7 v8 T :=
  ⟨h.pool.more ho, h.dsk.same ho, h.log.more ho, h.ok, h.sf, h.tb, h.pok, h.xp, h.xf, h.xm, h.xT, h.xl, h.x7, h.x8, o2 h.only ho, h.lo⟩
theorem Row.lt7 {W : World} {l d : Nat} {G : Lg} {base : Nat} {v7 v8 : Value} (h : LogOw W l d G base v7 v8) (k : Nat) (hk : v7.ownBlock = some k) : base ≤ k ∧ k < W.heap.size := h.row.lt k hk
theorem Row.lt8 {W : World} {l d : Nat} {G : Lg} {base : Nat} {v7 v8 : Value} (h : LogOw W l d G base v7 v8) (k : Nat) (hk : v8.ownBlock = some k) : base ≤ k ∧ k < W.heap.size := World.ownsRow.lt h.pl k hk
theorem Sw.sh {w W : World} {p d l fb mb g m : Nat} {P : Pl} {D : Dk} {G : Lg} {v7 v8 : Value} {T : Nat → Prop} (h : Sw w W p d l fb mb g m P D G v7 v8 T) : ∃ B ao cp, v7 = .slice ao G.stream.length cp ∧ Sh W p d l fb mb g m P D G B ao cp v8 T := by
  obtain ⟨B, ao, cp, h1, h2, h3⟩ := h.log.at_
  exact ⟨B, ao, cp, h1, h.pool, h.dsk, h2, h.ok, h.sf, h.tb, h.xp, h.xf, h.xm, h.xT, h.xl, fun h0 => h.x7 B (h3 h0)⟩
theorem Sw.back {w W W' : World} {p d l fb mb g m : Nat} {P : Pl} {D : Dk} {G : Lg} {v7 v8 : Value} {T : Nat → Prop} (h : Sw w W p d l fb mb g m P D G v7 v8 T) {B : Nat} {ao : Option Addr} {cp : Nat} (hv : v7 = .slice ao G.stream.length cp) {o : Wo} (hr : ShR W W' p d l fb mb g m B ao cp v8 T o) (hk : o.P.Ok) (hg : G.Alike o.G) :
    ∃ mb' T', Sw w W' p d l fb mb' g m o.P o.D o.G v7 v8 T' := by
  obtain ⟨mb', T', hs, h1, h2, h3, ho⟩ := hr; obtain ⟨x, hx⟩ := hg
  have n7 : ∀ k, v7.ownBlock = some k → ¬ (own d g m k ∨ k = l ∨ k = p ∨ k = fb ∨ k = mb) := fun k hk e => by
    obtain ⟨a1, a2, a3, a4, a5, _⟩ := h.x7 k hk
    rcases e with e | e | e | e | e
    · exact a1 e
    · exact a2 e
    · exact a3 e
    · exact a4 e
    · exact a5 e
  have n8 : ∀ k, v8.ownBlock = some k → ¬ (own d g m k ∨ k = l ∨ k = p ∨ k = fb ∨ k = mb) := fun k hk e => by
    obtain ⟨a1, a2, a3, a4, a5, _⟩ := h.x8 k hk
    rcases e with e | e | e | e | e
    · exact a1 e
    · exact a2 e
    · exact a3 e
    · exact a4 e
    · exact a5 e
  have hm7 : ∀ k, v7.ownBlock = some k → k ≠ mb' := fun k hk e => by
    have := (Row.lt7 h.log k hk).2
    rcases h3 with h3 | h3
    · exact (h.x7 k hk).2.2.2.2.1 (by rw [e, h3])
    · omega
  have hm8 : ∀ k, v8.ownBlock = some k → k ≠ mb' := fun k hk e => by
    have := (Row.lt8 h.log k hk).2
    rcases h3 with h3 | h3
    · exact (h.x8 k hk).2.2.2.2.1 (by rw [e, h3])
    · omega
  have L := hs.log
  have hst : o.G.stream = G.stream := by rw [hx]
  have hpl : o.G.places = G.places := by rw [hx]
  have c7 := L.c7; rw [hst, ← hv] at c7; have hlo := h.lo; have hsz := h.only.size; refine ⟨mb', T', hs.pool, hs.dsk, ⟨L.c0, L.c1, L.c2, L.c3, L.c4, L.c5, L.c6, c7, L.c8, L.fz, L.lt, ?_, ?_, h.log.n1, h.log.n2, h.log.n3⟩, hs.ok, hs.sf, hs.tb, hk, hs.xp, hs.xf, hs.xm, hs.xT, hs.xl, ?_, ?_, ?_, ?_⟩
  · rw [hst]; exact h.log.row.kept ho n7
  · rw [hpl]; exact own_only h.log.pl ho n8
  · exact fun k hk => ⟨(h.x7 k hk).1, (h.x7 k hk).2.1, (h.x7 k hk).2.2.1, (h.x7 k hk).2.2.2.1, hm7 k hk, fun e => (h.x7 k hk).2.2.2.2.2 (h1 k e)⟩
  · exact fun k hk => ⟨(h.x8 k hk).1, (h.x8 k hk).2.1, (h.x8 k hk).2.2.1, (h.x8 k hk).2.2.2.1, hm8 k hk, fun e => (h.x8 k hk).2.2.2.2.2 (h1 k e)⟩
  · refine h.only.trans ho (fun i hi e => ?_)
    rcases e with e | e | e | e | e
    · have := hlo.2.2.2.2 i e; omega
    · omega
    · omega
    · omega
    · omega
  · refine ⟨hlo.1, hlo.2.1, ?_, hlo.2.2.2⟩
    rcases h3 with h3 | h3
    · rw [h3]; exact hlo.2.2.1
    · omega
theorem sw_append {w W : World} {p d l fb mb g m : Nat} {P : Pl} {D : Dk} {G : Lg} {v7 v8 : Value} {T : Nat → Prop} (h : Sw w W p d l fb mb g m P D G v7 v8 T) (hv : (nt.at_ G.tail).valid) (hroom : (nt.at_ G.tail).enc.length ≤ G.room) (hpl : G.places.length ≤ 1000000000)
    (ok : (G.app (nt.at_ G.tail).enc).Ok) (htb : (G.app (nt.at_ G.tail).enc).tail < 4294967295) :
    Calls Tryz.prog 14 #[.pointer (some ⟨l, 0, none⟩), .agg (nt.cells Loc.none)] W fun e w' => e = .returned (.tuple #[.int .i64 (G.tail : Int), .int .i64 0]) ∧ ∃ v7' v8' T', Sw w w' p d l fb mb g m P D (G.app (nt.at_ G.tail).enc) v7' v8' T' := by
  refine (append_ok W l d G w.heap.size v7 v8 h.log h.ok h.only.size nt Loc.none (nt_at W) hv hroom hpl).mono ?_; rintro e w' ⟨he, v7', v8', hlo, ho, k7, k8⟩; have hl := h.lo
  have hS : ∀ k, ¬ (k = l) → ¬ (v7.ownBlock = some k) → ¬ (v8.ownBlock = some k) → ¬ (k = l ∨ some k = v7.ownBlock ∨ some k = v8.ownBlock) := by
    rintro k e1 e2 e3 (e | e | e)
    · exact e1 e
    · exact e2 e.symm
    · exact e3 e.symm
  have hT : ∀ k, T k → ¬ (k = l ∨ some k = v7.ownBlock ∨ some k = v8.ownBlock) := fun k hk => hS k (h.xT k hk).2 (fun e => (h.x7 k e).2.2.2.2.2 hk) (fun e => (h.x8 k e).2.2.2.2.2 hk)
  have hp : ¬ (p = l ∨ some p = v7.ownBlock ∨ some p = v8.ownBlock) := hS p h.xp.2 (fun e => (h.x7 p e).2.2.1 rfl) (fun e => (h.x8 p e).2.2.1 rfl); have hf : ¬ (fb = l ∨ some fb = v7.ownBlock ∨ some fb = v8.ownBlock) := hS fb h.xf.2 (fun e => (h.x7 fb e).2.2.2.1 rfl) (fun e => (h.x8 fb e).2.2.2.1 rfl); have hm : ¬ (mb = l ∨ some mb = v7.ownBlock ∨ some mb = v8.ownBlock) := hS mb h.xm.2 (fun e => (h.x7 mb e).2.2.2.2.1 rfl) (fun e => (h.x8 mb e).2.2.2.2.1 rfl)
  have hd : ∀ k, own d g m k → ¬ (k = l ∨ some k = v7.ownBlock ∨ some k = v8.ownBlock) := fun k hk => hS k (fun e => h.xl (e ▸ hk)) (fun e => (h.x7 k e).1 hk) (fun e => (h.x8 k e).1 hk)
  have hP := h.pool.kept ho hp hf hm (fun B hB => hT B hB); have hplt := h.pool.lt; have hflt := h.pool.flt; have hmlt := h.pool.map.lt
  have hdl : ∀ k, own d g m k → k < W.heap.size := fun k hk => by
    have := h.dsk.lt; have := h.dsk.old.lt; have := h.dsk.map.lt
    rcases hk with e | e | e <;> omega
  have hll := h.log.lt
  refine ⟨he, v7', v8', fun k => T k ∧ v7'.ownBlock ≠ some k ∧ v8'.ownBlock ≠ some k, ⟨hP.c0, hP.c1, hP.c2, hP.c3, hP.c4, hP.c5, hP.fz, hP.lt, fun i hi => ?_, hP.ffz, hP.flt, hP.map, hP.n1, hP.n2, hP.n3, fun e => hP.t1 e.1, fun e => hP.t2 e.1, fun e => hP.t3 e.1, hP.nf, hP.np, hP.nm, hP.nn, fun k hk => ⟨hP.new k hk, fun e => by have := (Row.lt7 hlo k e).2; omega, fun e => by have := (Row.lt8 hlo k e).2; omega⟩⟩,
    h.dsk.kept ho (hd d (.inl rfl)) (hd g (.inr (.inl rfl))) (hd m (.inr (.inr rfl))), hlo, ok, h.sf, htb, h.pok, h.xp, h.xf, h.xm, fun k hk => h.xT k hk.1, h.xl, ?_, ?_, ?_, hl⟩
  · obtain ⟨⟨B, ao, cp, f1, f2, f3, f4⟩, f5, f6⟩ := h.pool.fr i hi
    obtain ⟨⟨B2, ao2, cp2, g1, g2, g3, g4⟩, g5, g6⟩ := hP.fr i hi; refine ⟨⟨B, ao, cp, fun j v hv => ?_, f2.kept ho (fun h0 => hT B (f4 h0)), f3, fun h0 => ⟨f4 h0, fun e => ?_, fun e => ?_⟩⟩, f5, f6⟩
    · have := f1 j v hv
      exact (ho.cell (p := ⟨fb, i * 8 + j, Option.none⟩) (World.block_lt_of_cell? W _ this) hf).trans this
    · rcases k7 B e with e1 | e1
      · exact (h.x7 B e1).2.2.2.2.2 (f4 h0)
      · have := f2.lt h0; omega
    · rcases k8 B e with e1 | e1
      · exact (h.x8 B e1).2.2.2.2.2 (f4 h0)
      · have := f2.lt h0; omega
  · intro k hk
    rcases k7 k hk with e1 | e1
    · obtain ⟨a1, a2, a3, a4, a5, a6⟩ := h.x7 k e1
      exact ⟨a1, a2, a3, a4, a5, fun e => a6 e.1⟩
    · exact ⟨fun e => by have := hdl k e; omega, by omega, by omega, by omega, by omega, fun e => e.2.1 hk⟩
  · intro k hk
    rcases k8 k hk with e1 | e1
    · obtain ⟨a1, a2, a3, a4, a5, a6⟩ := h.x8 k e1
      exact ⟨a1, a2, a3, a4, a5, fun e => a6 e.1⟩
    · exact ⟨fun e => by have := hdl k e; omega, by omega, by omega, by omega, by omega, fun e => e.2.2 hk⟩
  · refine h.only.trans ho (fun i hi e => ?_)
    rcases e with e | e | e
    · omega
    · have := (Row.lt7 h.log i e.symm).1; omega
    · have := (Row.lt8 h.log i e.symm).1; omega
def pw (p d l fb mb g m : Nat) (k : Nat) : Prop := own d g m k ∨ k = l ∨ k = p ∨ k = fb ∨ k = mb
theorem sw_set {w W : World} {p d l fb mb g m : Nat} {P : Pl} {D : Dk} {G : Lg} {v7 v8 : Value} {T : Nat → Prop} (h : Sw w W p d l fb mb g m P D G v7 v8 T) (page pick : Int) (body : Pg) (Bb : Nat) (ab : Option Addr) (cb : Nat) (hS : Strs W Bb ab body.items) (hB : 0 < body.items.length → ¬ own d g m Bb ∧ Bb ≠ l ∧ Bb ≠ p ∧ Bb ≠ fb ∧ Bb ≠ mb) (hh : body.high.size ≤ 140737488355328) (hl : body.lsn < 9223372036854775808) :
    Calls Tryz.prog 17 #[.pointer (some ⟨p, 0, none⟩), .int .i64 page, .agg #[.int .i64 body.lsn, .int .i64 body.kind, .int .i64 body.level, .int .i64 body.right, .string body.high, .slice ab body.items.length cb], .int .i64 pick] W fun e w' =>
      e = .returned (.int .i64 (P.set D G page body pick).c) ∧ (∃ mb' T', Sw w w' p d l fb mb' g m (P.set D G page body pick).P (P.set D G page body pick).D (P.set D G page body pick).G v7 v8 T') ∧ Only (pw p d l fb mb g m) W w' := by
  obtain ⟨B, ao, cp, hv, hs⟩ := h.sh; refine (oset_any W p d l fb mb g m P D G B ao cp v8 T hs h.pok page pick body Bb ab cb hS hB hh hl).mono ?_; rintro e w' ⟨rfl, hr⟩; have ho := hr.choose_spec.choose_spec.2.2.2.2
  exact ⟨rfl, h.back hv hr (ok_set h.pok _ _ _ _ _) (alike_set _ _ _ _ _ _), ho⟩
theorem sw_fetch {w W : World} {p d l fb mb g m : Nat} {P : Pl} {D : Dk} {G : Lg} {v7 v8 : Value} {T : Nat → Prop} (h : Sw w W p d l fb mb g m P D G v7 v8 T) (page pick : Int) (pg : Pg) (hpg : (P.fetch D G page pick).2 = pg) :
    Calls Tryz.prog 11 #[.pointer (some ⟨p, 0, none⟩), .int .i64 page, .int .i64 pick] W fun e w' =>
      ∃ Bq aq cq, e = .returned (.tuple #[.agg #[.int .i64 pg.lsn, .int .i64 pg.kind, .int .i64 pg.level, .int .i64 pg.right, .string pg.high, .slice aq pg.items.length cq], .int .i64 (P.fetch D G page pick).1.c]) ∧ Strs w' Bq aq pg.items ∧ Fit aq pg.items.length cq ∧ (0 < pg.items.length → W.heap.size ≤ Bq)
        ∧ (∃ mb' T', Sw w w' p d l fb mb' g m (P.fetch D G page pick).1.P (P.fetch D G page pick).1.D (P.fetch D G page pick).1.G v7 v8 T') ∧ Only (pw p d l fb mb g m) W w' := by
  subst hpg; obtain ⟨B, ao, cp, hv, hs⟩ := h.sh; refine (ofetch_any W p d l fb mb g m P D G B ao cp v8 T hs h.pok page pick).mono ?_; rintro e w' ⟨Bq, aq, cq, rfl, h1, h2, h3, hr⟩; have ho := hr.choose_spec.choose_spec.2.2.2.2
  exact ⟨Bq, aq, cq, rfl, h1, h2, h3, h.back hv hr (ok_fetch h.pok _ _ _ _) (alike_fetch _ _ _ _ _), ho⟩
theorem st_disk (w : World) (N : Nat) (h1 : 1 ≤ N) (h2 : N ≤ 65536) : Calls Tryz.prog 4 #[.int .i64 (N : Int)] w fun e w' => ∃ d g m, e = .returned (.tuple #[.pointer (some ⟨d, 0, none⟩), .int .i64 0]) ∧ Dsk w' d g m (Dk.new N) ∧ Only (fun _ => False) w w' ∧ (∀ k, own d g m k → w.heap.size ≤ k ∧ k < w'.heap.size) := by
  refine (new_ok w N h1 h2).mono ?_; rintro e w' ⟨he, hD, ho⟩; have := hD.lt; refine ⟨_, _, _, he, hD, ho, fun k hk => ?_⟩
  rcases hk with e | e | e <;> omega
theorem st_zero {D : Dk} {N n : Nat} (h : D.Wk N (fun _ => zs64)) (hn : n ≤ N) : (D.write ((0 : Nat) : Int) (List.replicate (n * 64) 0)).2 = 0 ∧ (D.write ((0 : Nat) : Int) (List.replicate (n * 64) 0)).1.sync.2 = 0 ∧ (D.write ((0 : Nat) : Int) (List.replicate (n * 64) 0)).1.sync.1.Wk N (fun _ => zs64) := by
  obtain ⟨h1, h2⟩ := h.write 0 n (List.replicate (n * 64) 0) (by rw [List.length_replicate]; omega) (by omega)
  have e : (fun j => if 0 ≤ j ∧ j < 0 + n then ((List.replicate (n * 64) (0 : UInt8)).drop (64 * (j - 0))).take 64 else zs64) = (fun _ => zs64) := by
    funext j
    split
    · rw [List.drop_replicate, List.take_replicate, show min 64 (n * 64 - 64 * (j - 0)) = 64 by omega]
    · rfl
  rw [e] at h2
  exact ⟨h1, h2.sync.1, h2.sync.2⟩
theorem st_log {w W : World} {d g m N n : Nat} (hD : Dsk W d g m (Dk.new N)) (ho : Only (fun _ => False) w W) (hk : ∀ k, own d g m k → w.heap.size ≤ k ∧ k < W.heap.size) (hn : 4 ≤ n) (hnN : n ≤ N) :
    Calls Tryz.prog 6 #[.pointer (some ⟨d, 0, none⟩), .int .i64 ((0 : Nat) : Int), .int .i64 (n : Int)] W fun e w' => ∃ l D, e = .returned (.tuple #[.pointer (some ⟨l, 0, none⟩), .int .i64 0]) ∧ D.Wk N (fun _ => zs64) ∧ Dsk w' d g m D ∧ LogOw w' l d (Lg.new 0 n) w.heap.size (.slice none 0 0) (.slice none 0 0) ∧ ¬ own d g m l ∧ w.heap.size ≤ l ∧ Only (fun _ => False) w w' ∧ (∀ k, own d g m k → w.heap.size ≤ k ∧ k < w'.heap.size) := by
  have hx := st_zero (Dk.Wk.new N) hnN
  have hf : fitsB (Dk.new N).old.length ((0 : Nat) : Int) (n : Int) = true := by
    rw [(Dk.Wk.new N).len]; unfold fitsB
    simp
    omega
  refine Calls.mono (format_ok W d g m (Dk.new N) hD 0 n hf hx.1 hx.2.1) ?_; rintro e w' ⟨l, he, hD', hL, hl, ho'⟩; have hs := ho.size; refine ⟨l, _, he, hx.2.2, hD', hL.owned, fun e => ?_, by omega, ho.trans ho' (fun i hi e => ?_), fun k hk' => ⟨(hk k hk').1, Nat.lt_of_lt_of_le (hk k hk').2 ho'.size⟩⟩
  · have := (hk l e).2; omega
  · have := (hk i e).1; omega
theorem st_pool {w W : World} {d g m l N n pages frames : Nat} {D : Dk} (hW : D.Wk N (fun _ => zs64)) (hD : Dsk W d g m D) (hL : LogOw W l d (Lg.new 0 n) w.heap.size (.slice none 0 0) (.slice none 0 0)) (hnl : ¬ own d g m l) (hlw : w.heap.size ≤ l) (ho : Only (fun _ => False) w W) (hk : ∀ k, own d g m k → w.heap.size ≤ k ∧ k < W.heap.size)
    (hn : 4 ≤ n) (hf1 : 1 ≤ frames) (hf : frames ≤ 1024) (hp1 : 1 ≤ pages) (hp : pages ≤ 8192) (hN : n + 8 * pages ≤ N) (hN2 : N ≤ 65536) :
    Calls Tryz.prog 8 #[.pointer (some ⟨d, 0, none⟩), .pointer (some ⟨l, 0, none⟩), .int .i64 (n : Int), .int .i64 (pages : Int), .int .i64 (frames : Int)] W fun e w' => ∃ p fb mb T, e = .returned (.tuple #[.pointer (some ⟨p, 0, none⟩), .int .i64 0]) ∧ Sw w w' p d l fb mb g m (Pl.new n pages frames) D (Lg.new 0 n) (.slice none 0 0) (.slice none 0 0) T := by
  refine (onew_ok W d l g m D hD n pages frames hf1 hf hp1 hp (by rw [hW.len]; omega) (by rw [hW.len]; omega)).mono ?_; rintro e w' ⟨p, fb, mb, T, he, hP, ho', h1, h2, h3, hT⟩; have hs := ho.size; have hs' := ho'.size; have hll := hL.lt; refine ⟨p, fb, mb, T, he, hP, hD.same ho', hL.more ho', ⟨?_, ?_, ?_, ?_, ?_, ?_, ?_, ?_, ?_⟩, ?_, ?_, ok_new _ _ _, ⟨fun e => by have := (hk _ e).2; omega, by omega⟩, ⟨fun e => by have := (hk _ e).2; omega, by omega⟩, ⟨fun e => by have := (hk _ e).2; omega, by omega⟩, fun k hk' => ⟨fun e => by have := (hk _ e).2; have := hT k hk'; omega, by have := hT k hk'; omega⟩, hnl, (fun k hk' => by cases hk'), (fun k hk' => by cases hk'), o2 ho ho', ⟨by omega, by omega, by omega, hlw, fun k hk' => (hk k hk').1⟩⟩
  all_goals (try simp only [Lg.new])
  all_goals (try simp)
  all_goals omega
end Go.Proofs.YtebijheonkagfaaGreatDoor
