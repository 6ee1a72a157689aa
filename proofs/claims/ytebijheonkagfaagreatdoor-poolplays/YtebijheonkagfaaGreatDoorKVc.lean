/- The document's pool: Dirty, Held, copied. -/
import Derived.Test.YtebijheonkagfaaGreatDoorKVb
namespace Go.Proofs.YtebijheonkagfaaGreatDoor
open Go.RowKit
def Fm.xl (F : Fm) (ao : Option Addr) (cp : Nat) : List Value := [.int .i64 F.num, .int .i64 F.pg.lsn, .int .i64 F.pg.kind, .int .i64 F.pg.level, .int .i64 F.pg.right, .string F.pg.high, .slice ao F.pg.items.length cp, .bool F.chg]
theorem Fm.xl_len (F : Fm) (ao : Option Addr) (cp : Nat) : (F.xl ao cp).length = 8 := rfl
structure XfAt (W : World) (fb o : Nat) (F : Fm) (N : Nat → Prop) : Prop where
  ex : ∃ B ao cp, W.rangeAt fb o (F.xl ao cp) ∧ Strs W B ao F.pg.items ∧ Fit ao F.pg.items.length cp ∧ (0 < F.pg.items.length → N B)
  high : F.pg.high.size ≤ 140737488355328
  lsn : F.pg.lsn < 9223372036854775808
theorem XfAt.kept {S N : Nat → Prop} {W W' : World} {fb o : Nat} {F : Fm} (h : XfAt W fb o F N) (ho : Only S W W') (hf : ¬ S fb) (hT : ∀ B, B < W.heap.size → N B → ¬ S B) : XfAt W' fb o F N := by
  obtain ⟨⟨B, ao, cp, h1, h2, h3, h4⟩, h5, h6⟩ := h; refine ⟨⟨B, ao, cp, fun j v hv => ?_, h2.kept ho (fun h0 => hT B (h2.lt h0) (h4 h0)), h3, h4⟩, h5, h6⟩; have := h1 j v hv
  exact (ho.cell (p := ⟨fb, o + j, Option.none⟩) (World.block_lt_of_cell? W _ this) hf).trans this
theorem XfAt.wide {N N' : Nat → Prop} {W : World} {fb o : Nat} {F : Fm} (h : XfAt W fb o F N) (hN : ∀ B, B < W.heap.size → N B → N' B) : XfAt W fb o F N' := by
  obtain ⟨⟨B, ao, cp, h1, h2, h3, h4⟩, h5, h6⟩ := h
  exact ⟨⟨B, ao, cp, h1, h2, h3, fun h0 => hN B (h2.lt h0) (h4 h0)⟩, h5, h6⟩
structure TabIs (P : Pl) (tl : List (Int × Int)) : Prop where
  up : tl.Pairwise (fun p q => p.1 < q.1)
  mem : ∀ n x, (n, x) ∈ tl ↔ ∃ k : Nat, n = (k : Int) ∧ P.ow k = some x
  lt : ∀ k, (P.ow k).isSome = true → k < P.pages
structure Xp (W : World) (p xd x fb cf tb : Nat) (ta : Option Addr) (tc : Nat) (P : Pl) (tl : List (Int × Int)) (N : Nat → Prop) : Prop where
  c0 : W.cell? ⟨p, 0, Option.none⟩ = some (.pointer (some ⟨xd, 0, Option.none⟩))
  c1 : W.cell? ⟨p, 1, Option.none⟩ = some (.pointer (some ⟨x, 0, Option.none⟩))
  c2 : W.cell? ⟨p, 2, Option.none⟩ = some (.int .i64 (P.frm : Int))
  c3 : W.cell? ⟨p, 3, Option.none⟩ = some (.int .i64 (P.pages : Int))
  c4 : W.cell? ⟨p, 4, Option.none⟩ = some (.slice (some ⟨fb, 0, Option.none⟩) P.fs.length cf)
  c5 : W.cell? ⟨p, 5, Option.none⟩ = some (.slice ta tl.length tc)
  fz : ∀ k, W.frozen? ⟨p, k, Option.none⟩ = false
  lt : p < W.heap.size
  fr : ∀ i (h : i < P.fs.length), XfAt W fb (i * 8) P.fs[i] N
  ffz : ∀ k, W.frozen? ⟨fb, k, Option.none⟩ = false
  flt : fb < W.heap.size
  tab : Prs W tb ta tl
  tft : Fit ta tl.length tc
  tn : 0 < tl.length → N tb
  n1 : p ≠ fb
  t1 : ¬ N p
  t2 : ¬ N fb
  nf : 1 ≤ P.fs.length ∧ P.fs.length ≤ 1024
  np : 1 ≤ P.pages ∧ P.pages ≤ 8192
  nm : P.frm ≤ 65536
  nn : ∀ f ∈ P.fs, f.num = -1 ∧ f.chg = false ∨ 0 ≤ f.num ∧ f.num < (P.pages : Int)
  ts : TabIs P tl
  tm : tl.length ≤ 8192
  new : ∀ k, W.heap.size ≤ k → N k
theorem Xp.kept {S N : Nat → Prop} {W W' : World} {p xd x fb cf tb : Nat} {ta : Option Addr} {tc : Nat} {P : Pl} {tl : List (Int × Int)} (h : Xp W p xd x fb cf tb ta tc P tl N) (ho : Only S W W') (h1 : ¬ S p) (h2 : ¬ S fb) (hT : ∀ B, B < W.heap.size → N B → ¬ S B) : Xp W' p xd x fb cf tb ta tc P tl N := by
  have k : ∀ (j : Nat) (v : Value), W.cell? ⟨p, j, Option.none⟩ = some v → W'.cell? ⟨p, j, Option.none⟩ = some v := fun j v hj => (ho.cell (p := ⟨p, j, Option.none⟩) h.lt h1).trans hj
  exact ⟨k _ _ h.c0, k _ _ h.c1, k _ _ h.c2, k _ _ h.c3, k _ _ h.c4, k _ _ h.c5, fun j => (ho.frozen (p := ⟨p, j, Option.none⟩) h.lt h1).trans (h.fz j), Nat.lt_of_lt_of_le h.lt ho.size, fun i hi => (h.fr i hi).kept ho h2 hT, fun j => (ho.frozen (p := ⟨fb, j, Option.none⟩) h.flt h2).trans (h.ffz j), Nat.lt_of_lt_of_le h.flt ho.size, h.tab.kept ho (fun h0 => hT tb (h.tab.lt h0) (h.tn h0)), h.tft, h.tn, h.n1, h.t1, h.t2, h.nf, h.np, h.nm, h.nn, h.ts, h.tm, fun k hk => h.new k (Nat.le_trans ho.size hk)⟩
theorem Xp.more {N : Nat → Prop} {W W' : World} {p xd x fb cf tb : Nat} {ta : Option Addr} {tc : Nat} {P : Pl} {tl : List (Int × Int)} (h : Xp W p xd x fb cf tb ta tc P tl N) (ho : Only (fun _ => False) W W') : Xp W' p xd x fb cf tb ta tc P tl N := h.kept ho (fun h => h) (fun h => h) (fun _ _ _ h => h)
theorem XfAt.cells {W : World} {fb o : Nat} {F : Fm} {N : Nat → Prop} (h : XfAt W fb o F N) : W.cell? ⟨fb, o, none⟩ = some (.int .i64 F.num) ∧ W.cell? ⟨fb, o + 1, none⟩ = some (.int .i64 F.pg.lsn) ∧ W.cell? ⟨fb, o + 7, none⟩ = some (.bool F.chg) := by
  obtain ⟨⟨B, ao, cp, h1, _⟩, _⟩ := h
  exact ⟨h1 0 _ rfl, h1 1 _ rfl, h1 7 _ rfl⟩
def idxI (o : Option Nat) : Int := match o with | some i => (i : Int) | none => -1
set_option maxRecDepth 100000 in
set_option maxHeartbeats 800000 in
theorem gpat_any (w : World) (p xd x fb cf tb : Nat) (ta : Option Addr) (tc : Nat) (P : Pl) (tl : List (Int × Int)) (N : Nat → Prop) (h : Xp w p xd x fb cf tb ta tc P tl N) (n : Int) :
    Calls Tryz.prog 55 #[.pointer (some ⟨p, 0, none⟩), .int .i64 n] w fun e w' => e = .returned (.int .i64 (idxI (P.idx n))) ∧ w' = w := by
  have c4 := h.c4; have hnf := h.nf.2; have HF := hide h.fr; obtain ⟨R, hR⟩ : ∃ R, idxI (P.idx n) = R := ⟨_, rfl⟩; rw [hR]; have HR := hide hR; clear h hR
  go_enter Tryz.func55, Tryz.ntmps55
  go_wp2_with fail
  go_loop [5] (fun y => ∃ j : Nat, j ≤ P.fs.length ∧ y = .int .i64 (j : Int) ∧ Hid (∀ k (hk : k < P.fs.length), k < j → P.fs[k].num ≠ n)) (fun y => P.fs.length - (intOf y).toNat)
  case atStart => exact ⟨0, by omega, rfl, (fun k _ hk => by omega)⟩
  case round =>
    obtain ⟨j, hj, rfl, HQ⟩ := hrel
    by_cases hlt : j < P.fs.length
    · obtain ⟨k1, _, _⟩ := (HF.out j hlt).cells
      have hjl : (j : Int) < (P.fs.length : Int) := by omega
      by_cases he : P.fs[j].num = n
      · have HI := hide (idx_at hlt HQ.out he)
        rw [he] at k1; clear he
        go_wp2_with fail
        go_ret
        exact ⟨by rw [← HR.out, HI.out]; rfl, rfl⟩
      · obtain ⟨z, hz⟩ : ∃ z, P.fs[j].num = z := ⟨_, rfl⟩
        have HZ := hide hz; rw [hz] at k1 he; clear hz
        have hb : (z == n) = false := by simp [he]
        have HE := hide he; clear he
        go_wp2_with fail
        go_round
        case rel =>
          refine ⟨j + 1, by omega, by go_num, ?_⟩; intro k hk hkj
          by_cases ek : k = j
          · subst ek; rw [HZ.out]; exact HE.out
          · exact HQ.out k hk (by omega)
        case measure => simp [intOf]; omega
    · have HI := hide (idx_no (P := P) (n := n) (fun k hk => HQ.out k hk (by omega)))
      have hjl : ¬ (j : Int) < (P.fs.length : Int) := by omega
      go_wp2_with fail
      go_ret
      exact ⟨by rw [← HR.out, HI.out]; rfl, rfl⟩
theorem TabIs.owes {P : Pl} {tl : List (Int × Int)} (h : TabIs P tl) (n : Nat) : (P.ow n).isSome = true ↔ ∃ q, ∃ hq : q < tl.length, tl[q].1 = (n : Int) := by
  constructor
  · intro hs
    obtain ⟨v, hv⟩ := Option.isSome_iff_exists.1 hs; obtain ⟨q, hq, e⟩ := List.getElem_of_mem ((h.mem (n : Int) v).2 ⟨n, rfl, hv⟩)
    exact ⟨q, hq, by rw [e]⟩
  · rintro ⟨q, hq, e⟩
    have hm : (tl[q].1, tl[q].2) ∈ tl := List.getElem_mem hq; obtain ⟨k, hk, hv⟩ := (h.mem _ _).1 hm; rw [e] at hk
    have : n = k := by omega
    rw [this, hv]
    rfl
set_option maxRecDepth 100000 in
set_option maxHeartbeats 800000 in
theorem gpowes_any (w : World) (p xd x fb cf tb : Nat) (ta : Option Addr) (tc : Nat) (P : Pl) (tl : List (Int × Int)) (N : Nat → Prop) (h : Xp w p xd x fb cf tb ta tc P tl N) (n : Int) :
    Calls Tryz.prog 37 #[.pointer (some ⟨p, 0, none⟩), .int .i64 n] w fun e w' => e = .returned (.bool (decide (∃ q, ∃ hq : q < tl.length, tl[q].1 = n))) ∧ w' = w := by
  have c5 := h.c5; have htm := h.tm; have HT := hide h.tab; obtain ⟨R, hR⟩ : ∃ R, decide (∃ q, ∃ hq : q < tl.length, tl[q].1 = n) = R := ⟨_, rfl⟩; rw [hR]; have HR := hide hR; clear h hR
  go_enter Tryz.func37, Tryz.ntmps37
  go_wp2_with fail
  go_loop [5] (fun y => ∃ j : Nat, j ≤ tl.length ∧ y = .int .i64 (j : Int) ∧ Hid (∀ k (hk : k < tl.length), k < j → tl[k].1 ≠ n)) (fun y => tl.length - (intOf y).toNat)
  case atStart => exact ⟨0, by omega, rfl, (fun k _ hk => by omega)⟩
  case round =>
    obtain ⟨j, hj, rfl, HQ⟩ := hrel
    by_cases hlt : j < tl.length
    · obtain ⟨o, rfl, hc⟩ := HT.out.at_ (by omega)
      obtain ⟨k1, _⟩ := hc j hlt
      have hjl : (j : Int) < (tl.length : Int) := by omega
      by_cases he : tl[j].1 = n
      · have HI : Hid (R = true) := by unfold Hid; rw [← HR.out]; exact decide_eq_true ⟨j, hlt, he⟩
        rw [he] at k1; clear he hc
        go_wp2_with fail
        go_ret
        exact ⟨by rw [HI.out]; rfl, rfl⟩
      · obtain ⟨z, hz⟩ : ∃ z, tl[j].1 = z := ⟨_, rfl⟩
        have HZ := hide hz; rw [hz] at k1 he; clear hz hc
        have hb : (z == n) = false := by simp [he]
        have HE := hide he; clear he
        go_wp2_with fail
        go_round
        case rel =>
          refine ⟨j + 1, by omega, by go_num, ?_⟩; intro k hk hkj
          by_cases ek : k = j
          · subst ek; rw [HZ.out]; exact HE.out
          · exact HQ.out k hk (by omega)
        case measure => simp [intOf]; omega
    · have HI : Hid (R = false) := by unfold Hid; rw [← HR.out]; exact decide_eq_false (fun ⟨q, hq, e⟩ => HQ.out q hq (by omega) e)
      have hjl : ¬ (j : Int) < (tl.length : Int) := by omega
      go_wp2_with fail
      go_ret
      exact ⟨by rw [HI.out]; rfl, rfl⟩
def ORow (w : World) (base : Nat) (v : Value) (L : List (Int × Int)) : Prop := w.ownsRow base 115 2 v L.length (L.flatMap prc)
theorem ORow.nil (w : World) (base : Nat) : ORow w base (.slice none 0 0) [] := ⟨rfl, .inl ⟨rfl, rfl⟩⟩
theorem prc_get (L : List (Int × Int)) (j : Nat) (hj : j < L.length) : (L.flatMap prc)[j * 2]? = some (.int .i64 L[j].1) ∧ (L.flatMap prc)[j * 2 + 1]? = some (.int .i64 L[j].2) := by
  induction L generalizing j with
  | nil => simp at hj
  | cons q r ih =>
    cases j with
    | zero => exact ⟨rfl, rfl⟩
    | succ j =>
      have := ih j (by simpa using hj); simp only [List.flatMap_cons, prc, List.cons_append, List.nil_append]; rw [show (j + 1) * 2 = j * 2 + 1 + 1 by omega]
      simpa using this
theorem prc_len (L : List (Int × Int)) : (L.flatMap prc).length = L.length * 2 := by
  induction L with
  | nil => rfl
  | cons q r ih => rw [List.flatMap_cons, List.length_append, ih]; simp [prc]; omega
theorem ORow.kept {S : Nat → Prop} {w w' : World} {base : Nat} {v : Value} {L : List (Int × Int)} (h : ORow w base v L) (ho : Only S w w') (hS : ∀ k, v.ownBlock = some k → ¬ S k) : ORow w' base v L := by
  obtain ⟨h1, h2⟩ := h; refine ⟨h1, ?_⟩
  rcases h2 with h2 | ⟨g, cap, cur, hv, hg, hh, r⟩
  · exact .inl h2
  · subst hv
    exact .inr ⟨g, cap, cur, rfl, hg, by rw [ho.block g (Array.getElem?_eq_some_iff.1 hh).1 (hS g rfl)]; exact hh, r⟩
theorem ORow.prs {w : World} {base : Nat} {v : Value} {L : List (Int × Int)} (h : ORow w base v L) (hL : L.length ≤ 17592186043904) : ∃ B ao cp, v = .slice ao L.length cp ∧ Prs w B ao L ∧ Fit ao L.length cp ∧ (0 < L.length → base ≤ B ∧ v.ownBlock = some B) := by
  have h' := h
  rcases h.2 with ⟨rfl, h0⟩ | ⟨g, cap, cur, rfl, hb, hh, h1, h2, _⟩
  · exact ⟨0, none, 0, by rw [h0], ⟨fun e => by omega, fun e => by omega, hL⟩, ⟨fun _ => rfl, by omega, by simp [maxLen]⟩, fun e => by omega⟩
  · refine ⟨g, some ⟨g, 0, none⟩, cap, rfl, ⟨fun _ => ⟨0, rfl, fun j hj => ?_⟩, fun _ => (Array.getElem?_eq_some_iff.1 hh).1, hL⟩, ⟨(fun e => by cases e), h1, h2⟩, fun _ => ⟨hb, rfl⟩⟩
    obtain ⟨q1, q2⟩ := prc_get L j hj; have e1 := World.ownsRow.cells h' (g := g) rfl _ _ q1; have e2 := World.ownsRow.cells h' (g := g) rfl _ _ q2; rw [add_at] at e1 e2
    exact ⟨e1, e2⟩
theorem orow_append {w : World} {base : Nat} {v : Value} {L M : List (Int × Int)} {B : Nat} {ao : Option Addr} {c : Nat} (h : ORow w base v L) (hs : Prs w B ao M) (hf : Fit ao M.length c) (hn : L.length + M.length ≤ 100000) (hb : base ≤ w.heap.size) :
    ∃ v' w', (Builtin.append_ #[56, 56] 56 #[v, .slice ao M.length c]).run Tryz.prog w = .ok v' w' ∧ ORow w' base v' (L ++ M) ∧ Only (fun k => some k = v.ownBlock) w w' ∧ (v'.ownBlock = v.ownBlock ∨ v'.ownBlock = some w.heap.size) := by
  obtain ⟨i0, hi, hz0, hz1, hz2⟩ := info_parts Tryz.infoOwed
  cases ao with
  | none =>
    have hc := hf.nil rfl; subst hc
    have hM : M.length = 0 := by have := hf.le; omega
    have hN : M = [] := List.eq_nil_of_length_eq_zero hM; subst hN
    exact ⟨v, w, run_append_owned_none (P := Tryz.prog) w base 56 56 115 i0 2 Tryz.underlying56 hi v L.length (L.flatMap prc) h, by rw [List.append_nil]; exact h, Only.refl _ _, .inl rfl⟩
  | some ad =>
    obtain ⟨v', w', hr, ho, hg, _, hloc⟩ := run_append_own_at (P := Tryz.prog) w base 56 56 115 i0 (.agg #[.int .i64 0, .int .i64 0]) 2 16 Tryz.underlying56 hi hz0 hz1 hz2 rfl (by decide) v L.length (L.flatMap prc) h ad M.length c (M.flatMap prc) (by rw [prc_len]) (fun j u hu => by
      have hj : j < M.length * 2 := by have := (List.getElem?_eq_some_iff.1 hu).1; rwa [prc_len] at this
      obtain ⟨o, e, hc⟩ := hs.at_ (by omega)
      cases e
      obtain ⟨q1, q2⟩ := prc_get M (j / 2) (by omega); obtain ⟨e1, e2⟩ := hc (j / 2) (by omega); rw [add_at]
      rcases Nat.mod_two_eq_zero_or_one j with hm | hm
      · have ej : j = j / 2 * 2 := by omega
        rw [ej] at hu ⊢; rw [q1] at hu; rw [e1]
        exact hu
      · have ej : j = j / 2 * 2 + 1 := by omega
        rw [ej] at hu ⊢; rw [q2] at hu; rw [← Nat.add_assoc, e2]
        exact hu) (by intro u hu; obtain ⟨q, _, hq⟩ := List.mem_flatMap.1 hu; simp [prc] at hq; rcases hq with rfl | rfl <;> rfl) (by unfold maxLen; omega) (by omega) hb
    refine ⟨v', w', hr, ?_, Only.grown hg (fun k hk => hk.symm), hloc⟩; unfold ORow; rw [List.length_append, List.flatMap_append]
    exact ho
structure Pl.Ux (P : Pl) : Prop where
  dist : ∀ i j (hi : i < P.fs.length) (hj : j < P.fs.length), P.fs[i].num = P.fs[j].num → 0 ≤ P.fs[i].num → i = j
  owed : ∀ f ∈ P.fs, f.chg = true → 0 ≤ f.num ∧ (P.ow f.num.toNat).isSome = true
def Pl.keepQ (P : Pl) (n : Int) : Bool := match P.idx n with | some k => (P.get k).chg | none => false
theorem idx_ex {P : Pl} {n : Int} (h : ∃ j, ∃ hj : j < P.fs.length, P.fs[j].num = n) : ∃ i, P.idx n = some i := by
  cases e : P.idx n with
  | some i => exact ⟨i, rfl⟩
  | none =>
    obtain ⟨j, hj, hn⟩ := h; unfold Pl.idx at e; rw [List.findIdx?_eq_none_iff] at e; have := e _ (List.getElem_mem hj)
    simp [hn] at this
theorem keepQ_iff {P : Pl} (hu : P.Ux) (k : Nat) : P.keepQ (k : Int) = true ↔ ∃ f ∈ P.fs, f.chg = true ∧ f.num = (k : Int) := by
  unfold Pl.keepQ
  constructor
  · intro h
    cases e : P.idx (k : Int) with
    | none => rw [e] at h; cases h
    | some i =>
      rw [e] at h; obtain ⟨h1, h2⟩ := idx_lt e; rw [← get_at h1] at h2; simp only [← get_at h1] at h
      exact ⟨P.fs[i], List.getElem_mem h1, h, h2⟩
  · rintro ⟨f, hf, hc, hn⟩
    obtain ⟨j, hj, rfl⟩ := List.getElem_of_mem hf; obtain ⟨i, e⟩ := idx_ex (P := P) (n := (k : Int)) ⟨j, hj, hn⟩; rw [e]; obtain ⟨h1, h2⟩ := idx_lt e; rw [← get_at h1] at h2; have hij : i = j := hu.dist i j h1 hj (by rw [h2, hn]) (by rw [h2]; omega); subst hij; simp only [← get_at h1]
    exact hc
theorem synced_tab {P : Pl} {tl : List (Int × Int)} (h : TabIs P tl) (hu : P.Ux) : TabIs P.synced (tl.filter (fun q => P.keepQ q.1)) := by
  have ho : ∀ k : Nat, P.synced.ow k = if P.keepQ (k : Int) = true then P.ow k else none := fun k => by
    unfold Pl.synced
    simp only
    by_cases hk : ∃ f ∈ P.fs, f.chg = true ∧ f.num = (k : Int)
    · rw [if_pos hk, if_pos ((keepQ_iff hu k).2 hk)]
      obtain ⟨f, hf, hc, hn⟩ := hk; have := (hu.owed f hf hc).2; rw [hn, Int.toNat_natCast] at this; obtain ⟨v, hv⟩ := Option.isSome_iff_exists.1 this; rw [hv]
      rfl
    · rw [if_neg hk, if_neg (fun e => hk ((keepQ_iff hu k).1 e))]
  refine ⟨h.up.filter _, fun n x => ?_, fun k hk => ?_⟩
  · rw [List.mem_filter, h.mem]
    constructor
    · rintro ⟨⟨k, rfl, hv⟩, hq⟩
      exact ⟨k, rfl, by rw [ho k, if_pos hq]; exact hv⟩
    · rintro ⟨k, rfl, hv⟩
      rw [ho k] at hv
      split at hv
      · exact ⟨⟨k, rfl, hv⟩, by assumption⟩
      · cases hv
  · rw [ho k] at hk
    split at hk
    · exact h.lt k hk
    · cases hk
theorem own_slice2 {w : World} {base n : Nat} {e : TypeId} {v : Value} {xs : List Value} (h : w.ownsRow base e 2 v n xs) : ∃ ao ln cp, v = .slice ao ln cp := by
  rcases h.2 with ⟨rfl, _⟩ | ⟨g, cap, cur, rfl, _⟩
  · exact ⟨_, _, _, rfl⟩
  · exact ⟨_, _, _, rfl⟩
theorem Xp.table {N : Nat → Prop} {W : World} {p xd x fb cf tb : Nat} {ta : Option Addr} {tc : Nat} {P : Pl} {tl L : List (Int × Int)} (h : Xp W p xd x fb cf tb ta tc P tl N) {base : Nat} {v : Value} {ow : Nat → Option Int} (hr : ORow W base v L) (hb : ∀ k, base ≤ k → N k) (hL : L.length ≤ 8192) (ht : TabIs { P with ow := ow } L) :
    ∃ tb' ta' tc', v = .slice ta' L.length tc' ∧ Xp (W.setCell ⟨p, 5, none⟩ v) p xd x fb cf tb' ta' tc' { P with ow := ow } L N ∧ Only (fun k => k = p) W (W.setCell ⟨p, 5, none⟩ v) := by
  obtain ⟨B, ao, cp, rfl, h1, h2, h3⟩ := hr.prs (by omega); have ho : Only (fun k => k = p) W (W.setCell ⟨p, 5, none⟩ (.slice ao L.length cp)) := Only.setCell (S := fun k => k = p) _ _ _ rfl
  have k : ∀ (j : Nat) (u : Value), j ≠ 5 → W.cell? ⟨p, j, none⟩ = some u → (W.setCell ⟨p, 5, none⟩ (.slice ao L.length cp)).cell? ⟨p, j, none⟩ = some u := fun j u hj hc =>
    (World.cell?_setCell_other _ _ _ _ (by intro e; injection e with _ e; exact hj e.symm)).trans hc
  have hne : ∀ B, N B → ¬ B = p := fun B hB e => h.t1 (e ▸ hB)
  refine ⟨B, ao, cp, rfl, ⟨k _ _ (by decide) h.c0, k _ _ (by decide) h.c1, k _ _ (by decide) h.c2, k _ _ (by decide) h.c3, k _ _ (by decide) h.c4, World.cell?_setCell_same _ _ _ h.c5, fun j => by rw [World.frozen?_setCell]; exact h.fz j, Nat.lt_of_lt_of_le h.lt ho.size, fun i hi => (h.fr i hi).kept ho (fun e => h.n1 e.symm) (fun B _ hB => hne B hB), fun j => by rw [World.frozen?_setCell]; exact h.ffz j, Nat.lt_of_lt_of_le h.flt ho.size, h1.kept ho (fun h0 => hne B (hb B (h3 h0).1)), h2, fun h0 => hb B (h3 h0).1, h.n1, h.t1, h.t2, h.nf, h.np, h.nm, h.nn, ht, hL, fun q hq => h.new q (Nat.le_trans ho.size hq)⟩, ho⟩
set_option maxRecDepth 100000 in
set_option maxHeartbeats 1600000 in
theorem gpsynced_any (w : World) (p xd x fb cf tb : Nat) (ta : Option Addr) (tc : Nat) (P : Pl) (tl : List (Int × Int)) (N : Nat → Prop) (h : Xp w p xd x fb cf tb ta tc P tl N) (hu : P.Ux) :
    Calls Tryz.prog 24 #[.pointer (some ⟨p, 0, none⟩)] w fun e w' => e = .returned (.tuple #[]) ∧ (∃ tb' ta' tc' tl', Xp w' p xd x fb cf tb' ta' tc' P.synced tl' N) ∧ Only (fun k => k = p) w w' := by
  have HX := hide h; have htm := h.tm; have HT := hide (synced_tab h.ts hu); have hnf := h.nf.2; have HNN := hide h.new; clear h hu
  go_enter Tryz.func24, Tryz.ntmps24
  go_wp2_with fail
  go_loopw [2, 3] (fun v i wr => ∃ (k : Nat), k ≤ tl.length ∧ i = .int .i64 (k : Int) ∧ Hid (ORow wr w.heap.size v ((tl.take k).filter (fun q => P.keepQ q.1))) ∧ Hid (Only (fun _ => False) w wr)) (fun _ i _ => tl.length - (intOf i).toNat)
  case atStart => exact ⟨0, Nat.zero_le _, rfl, by simpa using hide (ORow.nil w w.heap.size), hide (Only.refl _ _)⟩
  case round =>
    obtain ⟨k, hk, rfl, HR, HO⟩ := hrel; have HXr := hide (HX.out.more HO.out); have c5 := HXr.out.c5; have c4 := HXr.out.c4
    have hfl : ((tl.take k).filter (fun q => P.keepQ q.1)).length ≤ k := by
      have h1 := List.length_filter_le (fun q : Int × Int => P.keepQ q.1) (tl.take k); have h2 : (tl.take k).length ≤ k := List.length_take_le _ _
      omega
    by_cases hlt : k < tl.length
    · obtain ⟨o, rfl, hc⟩ := HXr.out.tab.at_ (by omega)
      obtain ⟨d1, d2⟩ := hc k hlt
      have hkl : (k : Int) < (tl.length : Int) := by omega
      have HTK : Hid ((tl.take (k + 1)).filter (fun q => P.keepQ q.1) = (tl.take k).filter (fun q => P.keepQ q.1) ++ (if P.keepQ tl[k].1 then [tl[k]] else [])) := by
        unfold Hid; rw [List.take_succ_eq_append_getElem hlt, List.filter_append]
        congr 1
        simp only [List.filter_cons, List.filter_nil]
      obtain ⟨z, hz⟩ : ∃ z, tl[k] = z := ⟨_, rfl⟩; rw [hz] at d1 d2 HTK; have HAT := hide (gpat_any wr p xd x fb cf tb _ tc P tl N HXr.out z.1); obtain ⟨L, hL⟩ : ∃ L, (tl.take k).filter (fun q => P.keepQ q.1) = L := ⟨_, rfl⟩; rw [hL] at HR HTK hfl; clear hc hz hL
      cases hq : P.keepQ z.1
      · rw [hq] at HTK
        simp only [Bool.false_eq_true, if_false, List.append_nil] at HTK
        have HR2 : Hid (ORow wr w.heap.size u2 ((tl.take (k + 1)).filter (fun q => P.keepQ q.1))) := by unfold Hid; rw [HTK.out]; exact HR.out
        unfold Pl.keepQ at hq
        cases hi : P.idx z.1 with
        | none =>
          rw [hi] at HAT; unfold idxI at HAT
          simp only at HAT
          clear hq hi
          go_wp2_with fail
          refine HAT.out.mono ?_; rintro e w1 ⟨rfl, hw⟩; obtain rfl := hw.symm; clear hw
          go_wp2_with fail
          go_roundw
          case rel => exact ⟨k + 1, by omega, by go_num, HR2, HO⟩
          case measure => simp [intOf]; omega
        | some i =>
          rw [hi] at HAT hq
          simp only at hq
          unfold idxI at HAT
          simp only at HAT
          obtain ⟨i1, i2⟩ := idx_lt hi; have e7 := (HXr.out.fr i i1).cells.2.2; rw [get_at i1, hq] at e7
          have hil : (i : Int) < (P.fs.length : Int) := by omega
          clear hq hi i2
          go_wp2_with fail
          refine HAT.out.mono ?_; rintro e w1 ⟨rfl, hw⟩; obtain rfl := hw.symm; clear hw
          go_wp2_with fail
          go_roundw
          case rel => exact ⟨k + 1, by omega, by go_num, HR2, HO⟩
          case measure => simp [intOf]; omega
      · rw [hq] at HTK
        simp only [if_true] at HTK; unfold Pl.keepQ at hq
        cases hi : P.idx z.1 with
        | none =>
          rw [hi] at hq
          cases hq
        | some i =>
          rw [hi] at HAT hq
          simp only at hq
          unfold idxI at HAT
          simp only at HAT
          obtain ⟨i1, i2⟩ := idx_lt hi; have e7 := (HXr.out.fr i i1).cells.2.2; rw [get_at i1, hq] at e7
          have hil : (i : Int) < (P.fs.length : Int) := by omega
          obtain ⟨v', w2, hap, ow2, on2⟩ := append_owed wr 56 w.heap.size u2 L HR.out z (by omega) HO.out.size; obtain ⟨a9, n9, k9, rfl⟩ := own_slice2 HR.out; have R := hide hap
          have HR2 : Hid (ORow w2 w.heap.size v' ((tl.take (k + 1)).filter (fun q => P.keepQ q.1))) := by unfold Hid; rw [HTK.out]; exact ow2
          have HO2 : Hid (Only (fun _ => False) w w2) := HO.out.trans on2 (fun i hi e => by omega); clear hq hi i2 hap ow2 on2
          go_wp2_with fail
          refine HAT.out.mono ?_; rintro e w1 ⟨rfl, hw⟩; obtain rfl := hw.symm; clear hw
          go_wp2_with (at_builtin; refine Lib.wpList_append_run _ rfl (.tmp 36) (.tmp 44) _ _ rfl _ _ rfl rfl _ _ R.out ?_)
          go_roundw
          case rel => exact ⟨k + 1, by omega, by go_num, HR2, HO2⟩
          case measure => simp [intOf]; omega
    · have hkl : ¬ (k : Int) < (tl.length : Int) := by omega
      have ek : tl.take k = tl := List.take_of_length_le (by omega); rw [ek] at HR hfl; have f5 := HXr.out.fz 5; obtain ⟨tb', ta', tc', e1, z1, z2⟩ := HXr.out.table (base := w.heap.size) HR.out HNN.out (by omega) HT.out; have HZ1 := hide z1; have HZ2 := hide z2; clear z1 z2 ek; subst e1
      go_wp2_with fail
      go_end0
      exact ⟨rfl, ⟨tb', ta', tc', _, HZ1.out⟩, (HO.out.mono (T := fun k => k = p) (fun _ _ e => e.elim)).trans HZ2.out (fun _ _ e => e)⟩
set_option maxRecDepth 100000 in
set_option maxHeartbeats 800000 in
theorem gpdirty_any (w : World) (p xd x fb cf tb : Nat) (ta : Option Addr) (tc : Nat) (P : Pl) (tl : List (Int × Int)) (N : Nat → Prop) (h : Xp w p xd x fb cf tb ta tc P tl N) :
    Calls Tryz.prog 32 #[.pointer (some ⟨p, 0, none⟩)] w fun e w' => (∃ B ao cp, e = .returned (.slice ao tl.length cp) ∧ Prs w' B ao tl ∧ (0 < tl.length → w.heap.size ≤ B)) ∧ Only (fun _ => False) w w' := by
  have c5 := h.c5; have htm := h.tm; obtain ⟨v', w', hr, ho, hon, _⟩ := orow_append (ORow.nil w w.heap.size) h.tab h.tft (by simpa using by omega) (Nat.le_refl _); rw [List.nil_append] at ho; obtain ⟨B, ao, cp, rfl, h1, h2, h3⟩ := ho.prs (by omega); have R := hide hr; have HA := hide (And.intro h1 (fun h0 => (h3 h0).1)); have HO : Hid (Only (fun _ => False) w w') := hon.mono (fun _ _ e => by cases e); clear h hr ho hon h1 h2 h3
  go_enter Tryz.func32, Tryz.ntmps32
  go_wp2_with (at_builtin; refine Lib.wpList_append_run _ rfl (.tmp 4) (.tmp 8) _ _ rfl _ _ rfl rfl _ _ R.out ?_)
  go_ret
  exact ⟨⟨B, ao, cp, rfl, HA.out.1, HA.out.2⟩, HO.out⟩
set_option maxRecDepth 100000 in
set_option maxHeartbeats 1600000 in
theorem gpheld_any (w : World) (p xd x fb cf tb : Nat) (ta : Option Addr) (tc : Nat) (P : Pl) (tl : List (Int × Int)) (N : Nat → Prop) (h : Xp w p xd x fb cf tb ta tc P tl N) :
    Calls Tryz.prog 35 #[.pointer (some ⟨p, 0, none⟩)] w fun e w' => (∃ v, e = .returned v ∧ w'.ownsRow w.heap.size 3 1 v (P.fs.map Fm.num).length ((P.fs.map Fm.num).map (Value.int .i64))) ∧ Only (fun _ => False) w w' := by
  have HX := hide h; have hnf := h.nf.2; clear h
  go_enter Tryz.func35, Tryz.ntmps35
  go_wp2_with fail
  go_loopw [3, 4] (fun v i wr => ∃ (k : Nat), k ≤ P.fs.length ∧ i = .int .i64 (k : Int) ∧ Hid (wr.ownsRow w.heap.size 3 1 v ((P.fs.take k).map Fm.num).length (((P.fs.take k).map Fm.num).map (Value.int .i64))) ∧ Hid (Only (fun _ => False) w wr)) (fun _ i _ => P.fs.length - (intOf i).toNat)
  case atStart => exact ⟨0, Nat.zero_le _, rfl, hide (World.ownsRow_nil _ _ _ _), hide (Only.refl _ _)⟩
  case round =>
    obtain ⟨k, hk, rfl, HR, HO⟩ := hrel; have HXr := hide (HX.out.more HO.out); have c4 := HXr.out.c4
    by_cases hlt : k < P.fs.length
    · have e0 := (HXr.out.fr k hlt).cells.1
      have hkl : (k : Int) < (P.fs.length : Int) := by omega
      have HTK : Hid ((P.fs.take (k + 1)).map Fm.num = (P.fs.take k).map Fm.num ++ [P.fs[k].num]) := by
        unfold Hid; rw [List.take_succ_eq_append_getElem hlt, List.map_append]
        rfl
      obtain ⟨z, hz⟩ : ∃ z, P.fs[k].num = z := ⟨_, rfl⟩; rw [hz] at e0 HTK; obtain ⟨L, hL⟩ : ∃ L, (P.fs.take k).map Fm.num = L := ⟨_, rfl⟩
      have hLl : L.length ≤ 1024 := by rw [← hL]; simp; omega
      rw [hL] at HR HTK; obtain ⟨v', w2, hap, ow2, on2, bl2⟩ := append_place wr 54 w.heap.size u3 L HR.out z (by omega) HO.out.size (wr.alloc (.cells #[.int .i64 z] 3)) (onlyA _ _) wr.heap.size (by simp)
      have hown : ∀ q, u3.ownBlock = some q → w.heap.size ≤ q := fun q hq => (World.ownsRow.lt HR.out q hq).1
      obtain ⟨a9, n9, k9, rfl⟩ := own_slice HR.out; have R := hide hap
      have HR2 : Hid (w2.ownsRow w.heap.size 3 1 v' ((P.fs.take (k + 1)).map Fm.num).length (((P.fs.take (k + 1)).map Fm.num).map (Value.int .i64))) := by unfold Hid; rw [HTK.out]; exact ow2
      have HO2 : Hid (Only (fun _ => False) w w2) := HO.out.trans on2 (fun i hi e => by have := hown i e.symm; omega); clear hap ow2 on2 hz hL hown bl2
      go_wp2_with (at_builtin; refine Lib.wpList_append_run _ rfl (.tmp 14) (.tmp 23) _ _ rfl _ _ rfl rfl _ _ R.out ?_)
      go_roundw
      case rel => exact ⟨k + 1, by omega, by go_num, HR2, HO2⟩
      case measure => simp [intOf]; omega
    · have hkl : ¬ (k : Int) < (P.fs.length : Int) := by omega
      have ek : P.fs.take k = P.fs := List.take_of_length_le (by omega); rw [ek] at HR
      go_wp2_with fail
      go_ret
      exact ⟨⟨u3, rfl, by simpa using HR.out⟩, HO.out⟩
set_option maxRecDepth 100000 in
set_option maxHeartbeats 800000 in
theorem gpcopied_any (w : World) (p : Pg) (B cp : Nat) (ao : Option Addr) (hS : Strs w B ao p.items) (hF : Fit ao p.items.length cp) :
    Calls Tryz.prog 56 #[.agg #[.int .i64 p.lsn, .int .i64 p.kind, .int .i64 p.level, .int .i64 p.right, .string p.high, .slice ao p.items.length cp]] w fun e w' => PgR w w' e p := by
  obtain ⟨a, k, v, r, h, l⟩ := p
  dsimp only at hS hF ⊢
  have hlen := hS.len; have HS := hide hS; have HF := hide hF; clear hS hF; have HB0 := hide (boxes_only w a k v r h (.slice ao l.length cp)); have HB1 := hide (boxes_one w a k v r h (.slice ao l.length cp)); have HB2 := hide (boxes_two w a k v r h (.slice ao l.length cp)); have HBZ := hide (boxes_size w a k v r h (.slice ao l.length cp)); obtain ⟨v2, w2, hr, hl2, ho2⟩ := append_strs _ 43 _ (.slice none 0 0) [] (Ls.nil _ _) B cp ao l (HS.out.more HB0.out) HF.out (by simpa using by omega) (Nat.le_refl _); rw [List.nil_append] at hl2; have ho2' := ho2.mono (T := fun _ => False) (fun k hk e => by omega); have R := hide hr; have HO2 := hide (o2 HB0.out ho2'); obtain ⟨p0, p1, p2, p3, p4, p5, g0, g1, g2, g3, g4, g5, gl⟩ := HB1.out.more ho2'; obtain ⟨q0, q1, q2, q3, q4, q5, t0, t1, t2, t3, t4, t5, tl⟩ := HB2.out.more ho2'; obtain ⟨B5, ao5, cp5, rfl, hS5, hF5, hB5, _⟩ := hl2.strs hlen HS.out.size; have hbz := HBZ.out
  have h2 : 0 < l.length → w.heap.size + 2 ≤ B5 := fun h0 => by have := hB5 h0; omega
  have HA := hide (And.intro hS5 (And.intro hF5 h2)); have HP2 := hide ((HB2.out.more ho2').kept (Only.setCell (S := fun k => k = w.heap.size) w2 ⟨w.heap.size, 5, none⟩ (.slice ao5 l.length cp5) rfl) (by omega)); clear hl2 hS5 hF5 hB5 h2 ho2 ho2' hbz hr
  go_enter Tryz.func56, Tryz.ntmps56
  go_wp2_with (at_builtin; refine Lib.wpList_append_run _ rfl (.tmp 4) (.tmp 6) _ _ rfl _ _ rfl rfl _ _ R.out ?_)
  refine bodyPost_ret (results_pg1 rfl rfl (Pag.six HP2.out _ _ _ _ _ _)) rfl ?_; obtain ⟨hS5, hF5, h2⟩ := HA.out; have o1 := Only.setCell (S := fun k => k = w.heap.size) w2 ⟨w.heap.size, 5, none⟩ (.slice ao5 l.length cp5) rfl; have o3 := Only.six (w2.setCell ⟨w.heap.size, 5, none⟩ (.slice ao5 l.length cp5)) (w.heap.size + 1) (.int .i64 a) (.int .i64 k) (.int .i64 v) (.int .i64 r) (.string h) (.slice ao5 l.length cp5); refine ⟨B5, ao5, cp5, rfl, (hS5.kept o1 (fun h0 e => by have := h2 h0; omega)).kept o3 (fun h0 e => by have := h2 h0; omega), hF5, ?_, fun h0 => by have := h2 h0; omega⟩
  exact ((HO2.out.mono (T := fun k => w.heap.size ≤ k) (fun _ _ h => h.elim)).trans o1 (fun k _ e => by omega) |>.trans o3 (fun k _ e => by omega)).mono (fun k hk e => by omega)
end Go.Proofs.YtebijheonkagfaaGreatDoor
