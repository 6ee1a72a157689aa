/- Pages apart; whether a page may be set. -/
import Derived.Test.YtebijheonkagfaaGreatDoorKD
import Derived.Deep.RegionWith
import Derived.Deep.DeepCutAuto
import Derived.Test.YtebijheonkagfaaGreatDoorKPc
namespace Go.Proofs.YtebijheonkagfaaGreatDoor
open Go.RowKit Go.Maps
def intElem (v : Value) : Option (DataW Unit × List MemPlace) := match v with
  | .int .i64 n => some (.lit (.int .i64 n), [])
  | _ => none
theorem intElem_mk (n : Int) : intElem (.int .i64 n) = some (.lit (.int .i64 n), []) := rfl
theorem intElem_inv {v : Value} {z : DataW Unit × List MemPlace} (h : intElem v = some z) : ∃ n : Int, v = .int .i64 n ∧ z = (.lit (.int .i64 n), []) := by
  unfold intElem at h
  split at h
  · injection h with h
    exact ⟨_, rfl, h.symm⟩
  · cases h
set_option maxRecDepth 100000 in
theorem zero_int (w : World) : (zeroValue 3).run Tryz.prog w = .ok (.int .i64 0) w := rfl
structure OwD (D : DataW Unit) (n : Nat) (f : Nat → Option Int) : Prop where
  key : ∀ kl, Maps.has D kl = true → ∃ k : Nat, k < n ∧ kl = .int .i64 k
  has : ∀ k : Nat, Maps.has D (.int .i64 (k : Int)) = (f k).isSome
  at_ : ∀ (k : Nat) b, f k = some b → ∀ z, D.atKey (.int .i64 (k : Int)) z = .lit (.int .i64 b)
def Ows (w : World) (m n : Nat) (f : Nat → Option Int) : Prop := ∃ N D, w.ownsMap Tryz.prog 3 intElem m N D ∧ OwD D n f
theorem Ows.kept {S : Nat → Prop} {w w' : World} {m n : Nat} {f : Nat → Option Int} (h : Ows w m n f) (ho : Only S w w') (hS : ¬ S m) : Ows w' m n f := by
  obtain ⟨N, D, ⟨es, clock, hb, F, hs, hD⟩, hf⟩ := h
  exact ⟨N, D, ⟨es, clock, (ho.block m (Array.getElem?_eq_some_iff.1 hb).1 hS).trans hb, F, hs, hD⟩, hf⟩
theorem Ows.lt {w : World} {m n : Nat} {f : Nat → Option Int} (h : Ows w m n f) : m < w.heap.size := by
  obtain ⟨N, D, h, _⟩ := h
  exact h.lt
theorem tightI {w : World} {m N : Nat} {D : DataW Unit} (h : w.ownsMap Tryz.prog 3 intElem m N D) : w.ownsMap Tryz.prog 3 intElem m (Maps.size D) D := by
  obtain ⟨es, clock, hb, F, hs, rfl⟩ := h
  exact ⟨es, clock, hb, F, by rw [Maps.size_eq, length_sorted]; simp, rfl⟩
theorem OwD.size_le {w : World} {m N n : Nat} {D : DataW Unit} {f : Nat → Option Int} (h : w.ownsMap Tryz.prog 3 intElem m N D) (hf : OwD D n f) : Maps.size D ≤ n := by
  obtain ⟨es, rfl, hp, hk⟩ := h.entries keyed; have h1 : (es.map (·.1)).Nodup := List.pairwise_map.2 hp
  have h2 : es.map (·.1) ⊆ (List.range n).map (fun k : Nat => Lit.int .i64 (k : Int)) := by
    intro x hx; obtain ⟨p, hp', rfl⟩ := List.mem_map.1 hx; obtain ⟨k, hk1, hk2⟩ := hf.key p.1 (by rw [Maps.has_eq, List.any_eq_true]; exact ⟨p, hp', WideAt.sameKey_self (hk p hp')⟩); rw [hk2]
    exact List.mem_map.2 ⟨k, List.mem_range.2 hk1, rfl⟩
  have := h1.length_le_of_subset h2
  simpa [Maps.size_eq] using this
theorem OwD.put {D : DataW Unit} {n : Nat} {f : Nat → Option Int} (hm : Maps.IsMap D) (h : OwD D n f) {k : Nat} (hk : k < n) (b : Int) :
    OwD (D.put (.int .i64 (k : Int)) (.lit (.int .i64 b))) n (fun j => if j = k then some b else f j) := by
  have kl : WideAt.IsKeyLit (.int .i64 (k : Int)) := trivial; refine ⟨?_, ?_, ?_⟩
  · intro x hx
    by_cases e : x = .int .i64 (k : Int)
    · exact ⟨k, hk, e⟩
    · rw [Maps.has_put_other e] at hx
      exact h.key x hx
  · intro j
    by_cases e : j = k
    · subst e
      rw [Maps.has_put_same hm kl]
      simp
    · rw [Maps.has_put_other (by simp; omega), h.has j]
      simp [e]
  · intro j x hx z
    by_cases e : j = k
    · subst e
      simp only [if_true] at hx
      cases hx
      rw [Maps.atKey_put_same hm kl]
    · simp only [if_neg e] at hx
      rw [Maps.atKey_put_other (by simp; omega)]
      exact h.at_ j x hx z
theorem OwD.empty (n : Nat) : OwD (.map []) n (fun _ => none) := by
  refine ⟨?_, ?_, ?_⟩
  · intro x hx; simp [Maps.has] at hx
  · intro k; simp [Maps.has]
  · intro k b h; cases h
theorem Ows.look {w : World} {m n : Nat} {f : Nat → Option Int} (h : Ows w m n f) (hn : n ≤ 65536) {k : Nat} (hk : k < n) :
    (Instr.lookup 94 (.map (some m)) (.int .i64 (k : Int)) true).run Tryz.prog w = .ok (.tuple #[.int .i64 ((f k).getD 0), .bool (f k).isSome]) w
    ∧ (Instr.lookup 94 (.map (some m)) (.int .i64 (k : Int)) false).run Tryz.prog w = .ok (.int .i64 ((f k).getD 0)) w := by
  obtain ⟨N, D, hown, hD⟩ := h; have hz := intElem_mk 0; obtain ⟨v, ps, h1, h2⟩ := hown.look_ok keyed Tryz.underlying94 (zero_int w) hz (key_ok (k := k) (by omega)); obtain ⟨v', ps', h3, h4⟩ := hown.lookup keyed Tryz.underlying94 (zero_int w) hz (key_ok (k := k) (by omega)); rw [hD.has k] at h1
  have e : D.atKey (.int .i64 (k : Int)) (.lit (.int .i64 0)) = .lit (.int .i64 ((f k).getD 0)) := by
    cases hf : f k with
    | none => 
      rw [Maps.atKey_of_not_has (by rw [hD.has k, hf]; rfl)]
      rfl
    | some b => rw [hD.at_ k b hf]; rfl
  rw [e] at h2 h4
  have key : ∀ v ps, intElem v = some (DataW.lit (.int .i64 ((f k).getD 0)), ps) → v = .int .i64 ((f k).getD 0) := by
    intro v ps hv; obtain ⟨l, rfl, hz2⟩ := intElem_inv hv; simp only [Prod.mk.injEq, DataW.lit.injEq, Lit.int.injEq, true_and] at hz2; rw [hz2.1]
  rw [key v ps h2] at h1; rw [key v' ps' h4] at h3
  exact ⟨h1, h3⟩
theorem Ows.put {w : World} {m n : Nat} {f : Nat → Option Int} (h : Ows w m n f) (hn : n ≤ 65536) {k : Nat} (hk : k < n) (b : Int) :
    ∃ w', (Instr.mapUpdate 94 (.map (some m)) (.int .i64 (k : Int)) (.int .i64 b)).run Tryz.prog w = .ok () w' ∧ Ows w' m n (fun j => if j = k then some b else f j) ∧ Only (fun i => i = m) w w' := by
  obtain ⟨N, D, hown, hD⟩ := h; have hs := OwD.size_le hown hD; obtain ⟨w', h1, h2, h3⟩ := (tightI hown).update keyed Tryz.underlying94 (by unfold maxLen; omega) (key_ok (k := k) (by omega)) (intElem_mk b)
  exact ⟨w', h1, ⟨_, _, h2, hD.put hown.isMap hk b⟩, Only.grown h3 (fun i hi => by cases hi; rfl)⟩
theorem Ows.new (w : World) (n : Nat) : Ows (w.alloc (.map #[] 0)) w.heap.size n (fun _ => none) := ⟨0, .map [], World.ownsMap_made w Tryz.prog 3 intElem, OwD.empty n⟩
end Go.Proofs.YtebijheonkagfaaGreatDoor
namespace Go.Proofs.YtebijheonkagfaaGreatDoor
open Go.RowKit
theorem only_cells8 (b : Nat) (vs : List Value) (o : Nat) (w : World) : Only (fun k => k = b) w (w.setCells b o vs) := by
  induction vs generalizing o w with
  | nil => exact Only.refl _ _
  | cons v r ih =>
    rw [World.setCells]
    exact (Only.setCell (S := fun k => k = b) w ⟨b, o, none⟩ v rfl).trans (ih (o + 1) _) (fun _ _ h => h)
structure Fm where
  pg : Pg
  num : Int
  chg : Bool
def Fm.none : Fm := ⟨Pg.none, -1, false⟩
structure Pl where
  frm : Nat
  pages : Nat
  fs : List Fm
  ow : Nat → Option Int
def Fm.cl (F : Fm) (ao : Option Addr) (cp : Nat) : List Value := [.int .i64 F.pg.lsn, .int .i64 F.pg.kind, .int .i64 F.pg.level, .int .i64 F.pg.right, .string F.pg.high, .slice ao F.pg.items.length cp, .int .i64 F.num, .bool F.chg]
theorem Fm.cl_len (F : Fm) (ao : Option Addr) (cp : Nat) : (F.cl ao cp).length = 8 := rfl
structure FmAt (W : World) (fb o : Nat) (F : Fm) (T : Nat → Prop) : Prop where
  ex : ∃ B ao cp, W.rangeAt fb o (F.cl ao cp) ∧ Strs W B ao F.pg.items ∧ Fit ao F.pg.items.length cp ∧ (0 < F.pg.items.length → T B)
  high : F.pg.high.size ≤ 140737488355328
  lsn : F.pg.lsn < 9223372036854775808
theorem FmAt.kept {S T : Nat → Prop} {W W' : World} {fb o : Nat} {F : Fm} (h : FmAt W fb o F T) (ho : Only S W W') (hf : ¬ S fb) (hT : ∀ B, T B → ¬ S B) : FmAt W' fb o F T := by
  obtain ⟨⟨B, ao, cp, h1, h2, h3, h4⟩, h5, h6⟩ := h; refine ⟨⟨B, ao, cp, fun j v hv => ?_, h2.kept ho (fun h0 => hT B (h4 h0)), h3, h4⟩, h5, h6⟩; have := h1 j v hv
  exact (ho.cell (p := ⟨fb, o + j, Option.none⟩) (World.block_lt_of_cell? W _ this) hf).trans this
structure PoolAt (W : World) (p d l fb mb : Nat) (P : Pl) (T : Nat → Prop) : Prop where
  c0 : W.cell? ⟨p, 0, Option.none⟩ = some (.pointer (some ⟨d, 0, Option.none⟩))
  c1 : W.cell? ⟨p, 1, Option.none⟩ = some (.pointer (some ⟨l, 0, Option.none⟩))
  c2 : W.cell? ⟨p, 2, Option.none⟩ = some (.int .i64 (P.frm : Int))
  c3 : W.cell? ⟨p, 3, Option.none⟩ = some (.int .i64 (P.pages : Int))
  c4 : W.cell? ⟨p, 4, Option.none⟩ = some (.slice (some ⟨fb, 0, Option.none⟩) P.fs.length P.fs.length)
  c5 : W.cell? ⟨p, 5, Option.none⟩ = some (.map (some mb))
  fz : ∀ k, W.frozen? ⟨p, k, Option.none⟩ = false
  lt : p < W.heap.size
  fr : ∀ i (h : i < P.fs.length), FmAt W fb (i * 8) P.fs[i] T
  ffz : ∀ k, W.frozen? ⟨fb, k, Option.none⟩ = false
  flt : fb < W.heap.size
  map : Ows W mb P.pages P.ow
  n1 : p ≠ fb
  n2 : p ≠ mb
  n3 : fb ≠ mb
  t1 : ¬ T p
  t2 : ¬ T fb
  t3 : ¬ T mb
  nf : 1 ≤ P.fs.length ∧ P.fs.length ≤ 1024
  np : 1 ≤ P.pages ∧ P.pages ≤ 8192
  nm : P.frm ≤ 65536
  nn : ∀ f ∈ P.fs, f.num = -1 ∧ f.chg = false ∨ 0 ≤ f.num ∧ f.num < (P.pages : Int)
  new : ∀ k, W.heap.size ≤ k → T k
theorem PoolAt.kept {S T : Nat → Prop} {W W' : World} {p d l fb mb : Nat} {P : Pl} (h : PoolAt W p d l fb mb P T) (ho : Only S W W') (h1 : ¬ S p) (h2 : ¬ S fb) (h3 : ¬ S mb) (hT : ∀ B, T B → ¬ S B) : PoolAt W' p d l fb mb P T := by
  have k : ∀ (j : Nat) (v : Value), W.cell? ⟨p, j, Option.none⟩ = some v → W'.cell? ⟨p, j, Option.none⟩ = some v := fun j v hj => (ho.cell (p := ⟨p, j, Option.none⟩) h.lt h1).trans hj
  exact ⟨k _ _ h.c0, k _ _ h.c1, k _ _ h.c2, k _ _ h.c3, k _ _ h.c4, k _ _ h.c5, fun j => (ho.frozen (p := ⟨p, j, Option.none⟩) h.lt h1).trans (h.fz j), Nat.lt_of_lt_of_le h.lt ho.size, fun i hi => (h.fr i hi).kept ho h2 hT, fun j => (ho.frozen (p := ⟨fb, j, Option.none⟩) h.flt h2).trans (h.ffz j), Nat.lt_of_lt_of_le h.flt ho.size, h.map.kept ho h3, h.n1, h.n2, h.n3, h.t1, h.t2, h.t3, h.nf, h.np, h.nm, h.nn, fun k hk => h.new k (Nat.le_trans ho.size hk)⟩
theorem PoolAt.more {T : Nat → Prop} {W W' : World} {p d l fb mb : Nat} {P : Pl} (h : PoolAt W p d l fb mb P T) (ho : Only (fun _ => False) W W') : PoolAt W' p d l fb mb P T := h.kept ho (fun h => h) (fun h => h) (fun h => h) (fun _ _ h => h)
def Pl.idx (P : Pl) (n : Int) : Option Nat := P.fs.findIdx? (fun f => f.num == n)
def Pl.setF (P : Pl) (i : Nat) (F : Fm) : Pl := { P with fs := P.fs.set i F }
open Classical in
noncomputable def Pl.synced (P : Pl) : Pl := { P with ow := fun n => if ∃ f ∈ P.fs, f.chg = true ∧ f.num = (n : Int) then some ((P.ow n).getD 0) else Option.none }
theorem setF_same {P : Pl} {i : Nat} {F : Fm} (h : i < (P.setF i F).fs.length) : (P.setF i F).fs[i] = F := List.getElem_set_self h
theorem setF_other {P : Pl} {i j : Nat} {F : Fm} (h : j < (P.setF i F).fs.length) (h' : j < P.fs.length) (e : j ≠ i) : (P.setF i F).fs[j] = P.fs[j] := List.getElem_set_ne (Ne.symm e) h
theorem PoolAt.lay {T T' : Nat → Prop} {W : World} {p d l fb mb : Nat} {P : Pl} (h : PoolAt W p d l fb mb P T) (i : Nat) (hi : i < P.fs.length) (F : Fm) (B : Nat) (ao : Option Addr) (cp : Nat) (hS : Strs W B ao F.pg.items) (hF : Fit ao F.pg.items.length cp) (hT : ∀ B, T B → T' B) (hB : 0 < F.pg.items.length → T' B) (hB2 : 0 < F.pg.items.length → B ≠ fb) (t1 : ¬ T' p) (t2 : ¬ T' fb) (t3 : ¬ T' mb) (hh : F.pg.high.size ≤ 140737488355328) (hl : F.pg.lsn < 9223372036854775808) (hn : F.num = -1 ∧ F.chg = false ∨ 0 ≤ F.num ∧ F.num < (P.pages : Int)) :
    PoolAt (W.setCells fb (i * 8) (F.cl ao cp)) p d l fb mb (P.setF i F) T' ∧ Only (fun k => k = fb) W (W.setCells fb (i * 8) (F.cl ao cp)) := by
  have ho : Only (fun k => k = fb) W (W.setCells fb (i * 8) (F.cl ao cp)) := only_cells8 fb (F.cl ao cp) (i * 8) W
  have k : ∀ (j : Nat) (v : Value), W.cell? ⟨p, j, Option.none⟩ = some v → (W.setCells fb (i * 8) (F.cl ao cp)).cell? ⟨p, j, Option.none⟩ = some v := fun j v hj => (ho.cell (p := ⟨p, j, Option.none⟩) h.lt h.n1).trans hj
  have hlen : (P.setF i F).fs.length = P.fs.length := by show (P.fs.set i F).length = _; simp
  have hth : ∀ j (hj : j < P.fs.length), W.there fb (j * 8) 8 := fun j hj => by
    obtain ⟨⟨B, ao, cp, h1, _⟩, _⟩ := h.fr j hj; intro q hq
    exact ⟨h1.isSome q hq, h.ffz _⟩
  have hne : ∀ B, T B → B ≠ fb := fun B hB e => h.t2 (e ▸ hB)
  refine ⟨⟨k _ _ h.c0, k _ _ h.c1, k _ _ h.c2, k _ _ h.c3, ?_, k _ _ h.c5, fun j => (ho.frozen (p := ⟨p, j, Option.none⟩) h.lt h.n1).trans (h.fz j), Nat.lt_of_lt_of_le h.lt ho.size, fun j hj => ?_, fun j => by rw [World.frozen?_setCells]; exact h.ffz j, Nat.lt_of_lt_of_le h.flt ho.size, h.map.kept ho (fun e => h.n3 e.symm), h.n1, h.n2, h.n3, t1, t2, t3, ?_, h.np, h.nm, fun f hf => ?_, ?_⟩, ho⟩
  · rw [hlen]; exact k _ _ h.c4
  · have hj' : j < P.fs.length := by rw [← hlen]; exact hj
    by_cases e : j = i
    · subst e
      rw [setF_same hj]
      exact ⟨⟨B, ao, cp, World.rangeAt_setCells_same W fb (j * 8) _ (hth j hj'), hS.kept ho hB2, hF, hB⟩, hh, hl⟩
    · rw [setF_other hj hj' e]
      obtain ⟨⟨B2, ao2, cp2, h1, h2, h3, h4⟩, h5, h6⟩ := h.fr j hj'; refine ⟨⟨B2, ao2, cp2, World.rangeAt_setCells_apart h1 fb (i * 8) _ (.inr ?_), h2.kept ho (fun h0 => hne B2 (h4 h0)), h3, fun h0 => hT B2 (h4 h0)⟩, h5, h6⟩; simp only [Fm.cl_len]
      omega
  · rw [hlen]; exact h.nf
  · have hf' : f ∈ P.fs.set i F := hf
    rcases List.mem_or_eq_of_mem_set hf' with hm | rfl
    · exact h.nn f hm
    · exact hn
  · exact fun k hk => hT k (h.new k (Nat.le_trans ho.size hk))
theorem PoolAt.table {T : Nat → Prop} {W W' : World} {p d l fb mb mb' : Nat} {P : Pl} {ow : Nat → Option Int} (h : PoolAt W p d l fb mb P T) (ho : Only (fun k => k = mb') W W') (hm : Ows W' mb' P.pages ow) (hb : W.heap.size ≤ mb' ∨ mb' = mb) :
    PoolAt (W'.setCell ⟨p, 5, Option.none⟩ (.map (some mb'))) p d l fb mb' { P with ow := ow } (fun B => T B ∧ B ≠ mb') ∧ Only (fun k => k = p ∨ k = mb') W (W'.setCell ⟨p, 5, Option.none⟩ (.map (some mb'))) := by
  have hl := h.lt; have hf := h.flt
  have hn1 : p ≠ mb' := by rcases hb with hb | hb; omega; rw [hb]; exact h.n2
  have hn2 : fb ≠ mb' := by rcases hb with hb | hb; omega; rw [hb]; exact h.n3
  have o1 : Only (fun k => k = p) W' (W'.setCell ⟨p, 5, Option.none⟩ (.map (some mb'))) := Only.setCell (S := fun k => k = p) _ _ _ rfl; have oo : Only (fun k => k = p ∨ k = mb') W (W'.setCell ⟨p, 5, Option.none⟩ (.map (some mb'))) := (ho.mono (fun _ _ h => .inr h)).trans o1 (fun _ _ h => .inl h)
  have k0 : ∀ (j : Nat) (v : Value), W.cell? ⟨p, j, Option.none⟩ = some v → W'.cell? ⟨p, j, Option.none⟩ = some v := fun j v hj => (ho.cell (p := ⟨p, j, Option.none⟩) h.lt hn1).trans hj
  have k : ∀ (j : Nat) (v : Value), j ≠ 5 → W.cell? ⟨p, j, Option.none⟩ = some v → (W'.setCell ⟨p, 5, Option.none⟩ (.map (some mb'))).cell? ⟨p, j, Option.none⟩ = some v := fun j v hj hc => (World.cell?_setCell_other _ _ _ _ (by intro e; injection e with _ e; exact hj e.symm)).trans (k0 _ _ hc)
  refine ⟨⟨k _ _ (by decide) h.c0, k _ _ (by decide) h.c1, k _ _ (by decide) h.c2, k _ _ (by decide) h.c3, k _ _ (by decide) h.c4, World.cell?_setCell_same _ _ _ (k0 _ _ h.c5), fun j => ?_, Nat.lt_of_lt_of_le h.lt oo.size, fun i hi => ?_, fun j => ?_, Nat.lt_of_lt_of_le h.flt oo.size, hm.kept o1 (fun e => hn1 e.symm), h.n1, hn1, hn2, fun e => h.t1 e.1, fun e => h.t2 e.1, fun e => e.2 rfl, h.nf, h.np, h.nm, h.nn, fun j hj => ⟨h.new j (Nat.le_trans oo.size hj), fun e => ?_⟩⟩, oo⟩
  · rw [World.frozen?_setCell]; exact (ho.frozen (p := ⟨p, j, Option.none⟩) h.lt hn1).trans (h.fz j)
  · obtain ⟨⟨B, ao, cp, h1, h2, h3, h4⟩, h5, h6⟩ := h.fr i hi
    have hne : 0 < P.fs[i].pg.items.length → B ≠ p ∧ B ≠ mb' := fun h0 => by
      have hB := h2.lt h0; refine ⟨fun e => h.t1 (e ▸ h4 h0), fun e => ?_⟩
      rcases hb with hb | hb
      · omega
      · exact h.t3 (by rw [← hb, ← e]; exact h4 h0)
    refine ⟨⟨B, ao, cp, fun j v hv => ?_, h2.kept oo (fun h0 e => ?_), h3, fun h0 => ⟨h4 h0, (hne h0).2⟩⟩, h5, h6⟩
    · have := h1 j v hv
      exact (oo.cell (p := ⟨fb, i * 8 + j, Option.none⟩) (World.block_lt_of_cell? W _ this) (fun e => by rcases e with e | e; exact h.n1 e.symm; exact hn2 e)).trans this
    · rcases e with e | e
      · exact (hne h0).1 e
      · exact (hne h0).2 e
  · rw [World.frozen?_setCell]; exact (ho.frozen (p := ⟨fb, j, Option.none⟩) h.flt hn2).trans (h.ffz j)
  · have := hm.lt; have := o1.size; omega
theorem FmAt.cells {W : World} {fb o : Nat} {F : Fm} {T : Nat → Prop} (h : FmAt W fb o F T) : W.cell? ⟨fb, o, none⟩ = some (.int .i64 F.pg.lsn) ∧ W.cell? ⟨fb, o + 6, none⟩ = some (.int .i64 F.num) ∧ W.cell? ⟨fb, o + 7, none⟩ = some (.bool F.chg) := by
  obtain ⟨⟨B, ao, cp, h1, _⟩, _⟩ := h
  exact ⟨h1 0 _ rfl, h1 6 _ rfl, h1 7 _ rfl⟩
def Pl.hasC (P : Pl) (n : Int) : Int := if 0 ≤ n ∧ n < (P.pages : Int) then 0 else 4
set_option maxRecDepth 100000 in
set_option maxHeartbeats 800000 in
theorem ohas_any (w : World) (p d l fb mb : Nat) (P : Pl) (T : Nat → Prop) (h : PoolAt w p d l fb mb P T) (n : Int) :
    Calls Tryz.prog 50 #[.pointer (some ⟨p, 0, none⟩), .int .i64 n] w fun e w' => e = .returned (.int .i64 (P.hasC n)) ∧ w' = w := by
  have c3 := h.c3; have HP := hide h.np; unfold Pl.hasC; obtain ⟨N, hN⟩ : ∃ N : Int, (P.pages : Int) = N := ⟨_, rfl⟩; rw [hN] at c3 ⊢; clear h hN
  by_cases h0 : n < 0
  · rw [if_neg (by omega)]
    go_enter Tryz.func50, Tryz.ntmps50
    go_wp2
    go_ret
    exact ⟨rfl, rfl⟩
  · by_cases h1 : N ≤ n
    · rw [if_neg (by omega)]
      go_enter Tryz.func50, Tryz.ntmps50
      go_wp2
      go_ret
      exact ⟨rfl, rfl⟩
    · rw [if_pos (by omega)]
      go_enter Tryz.func50, Tryz.ntmps50
      go_wp2
      go_ret
      exact ⟨rfl, rfl⟩
theorem idx_at {P : Pl} {n : Int} {i : Nat} (hi : i < P.fs.length) (h1 : ∀ k (hk : k < P.fs.length), k < i → P.fs[k].num ≠ n) (h2 : P.fs[i].num = n) : P.idx n = some i := by
  unfold Pl.idx; rw [List.findIdx?_eq_some_iff_getElem]
  exact ⟨hi, by simp [h2], fun j hj => by simp [h1 j (by omega) hj]⟩
theorem idx_no {P : Pl} {n : Int} (h : ∀ k (hk : k < P.fs.length), P.fs[k].num ≠ n) : P.idx n = none := by
  unfold Pl.idx; rw [List.findIdx?_eq_none_iff]; intro x hx; obtain ⟨k, hk, rfl⟩ := List.getElem_of_mem hx
  simp [h k hk]
def Pl.ptr (P : Pl) (fb : Nat) (n : Int) : Value := .pointer ((P.idx n).map fun i => ⟨fb, i * 8, none⟩)
theorem ret_ptr {a b : Value} (h : a = b) : Ending.returned a = .returned b := by rw [h]
set_option maxRecDepth 100000 in
set_option maxHeartbeats 800000 in
theorem holder_any (w : World) (p d l fb mb : Nat) (P : Pl) (T : Nat → Prop) (h : PoolAt w p d l fb mb P T) (n : Int) :
    Calls Tryz.prog 51 #[.pointer (some ⟨p, 0, none⟩), .int .i64 n] w fun e w' => e = .returned (P.ptr fb n) ∧ w' = w := by
  have c4 := h.c4; have hnf := h.nf.2; have HF := hide h.fr; clear h
  go_enter Tryz.func51, Tryz.ntmps51
  go_wp2_with fail
  go_loop [11] (fun y => ∃ j : Nat, j ≤ P.fs.length ∧ y = .int .i64 (j : Int) ∧ Hid (∀ k (hk : k < P.fs.length), k < j → P.fs[k].num ≠ n)) (fun y => P.fs.length - (intOf y).toNat)
  case atStart => exact ⟨0, by omega, rfl, (fun k _ hk => by omega)⟩
  case round =>
    obtain ⟨j, hj, rfl, HQ⟩ := hrel
    by_cases hlt : j < P.fs.length
    · obtain ⟨_, k1, _⟩ := (HF.out j hlt).cells
      have hjl : (j : Int) < (P.fs.length : Int) := by omega
      by_cases he : P.fs[j].num = n
      · have HI := hide (idx_at hlt HQ.out he)
        rw [he] at k1; clear he
        go_wp2_with fail
        go_ret
        exact ⟨ret_ptr (by unfold Pl.ptr; rw [HI.out]; rfl), rfl⟩
      · obtain ⟨z, hz⟩ : ∃ z, P.fs[j].num = z := ⟨_, rfl⟩
        have HZ := hide hz; rw [hz] at k1 he; clear hz
        have hb : (z == n) = false := by simp [he]
        have HE := hide he; clear he
        go_wp2_with fail
        go_round
        case rel =>
          refine ⟨j + 1, by omega, by go_num, ?_⟩; intro k hk hkj
          by_cases ek : k = j
          · subst ek; rw [HZ.out]; exact HE.out
          · exact HQ.out k hk (by omega)
        case measure => simp [intOf]; omega
    · have HI := hide (idx_no (P := P) (n := n) (fun k hk => HQ.out k hk (by omega)))
      have hjl : ¬ (j : Int) < (P.fs.length : Int) := by omega
      go_wp2_with fail
      go_ret
      exact ⟨ret_ptr (by unfold Pl.ptr; rw [HI.out]; rfl), rfl⟩
set_option maxRecDepth 100000 in
set_option maxHeartbeats 800000 in
theorem owes_any (w : World) (p d l fb mb : Nat) (P : Pl) (T : Nat → Prop) (h : PoolAt w p d l fb mb P T) (n : Nat) (hn : n < P.pages) :
    Calls Tryz.prog 36 #[.pointer (some ⟨p, 0, none⟩), .int .i64 (n : Int)] w fun e w' => e = .returned (.bool (P.ow n).isSome) ∧ w' = w := by
  have c5 := h.c5; have hk := (h.map.look (by have := h.np.2; omega) hn).1; clear h
  go_enter Tryz.func36, Tryz.ntmps36
  go_wp2
  go_ret
  exact ⟨rfl, rfl⟩
set_option maxRecDepth 100000 in
theorem sector_at (w : World) (p d l fb mb : Nat) (P : Pl) (T : Nat → Prop) (h : PoolAt w p d l fb mb P T) (n : Nat) (hn : n < P.pages) :
    Calls Tryz.prog 84 #[.pointer (some ⟨p, 0, none⟩), .int .i64 (n : Int)] w fun e w' => e = .returned (.int .i64 ((P.frm + 8 * n : Nat) : Int)) ∧ w' = w := by
  have c2 := h.c2; have h1 := h.nm; have h2 := h.np.2
  have hf : (P.frm : Int) ≤ 65536 := by omega
  have hm : (n : Int) ≤ 8192 := by omega
  obtain ⟨R, hR⟩ : ∃ R : Nat, P.frm + 8 * n = R := ⟨_, rfl⟩
  have e : (P.frm : Int) + 8 * (n : Int) = (R : Int) := by omega
  rw [hR]; clear h hR h1 h2 hn
  go_enter Tryz.func84, Tryz.ntmps84
  go_wp2
  go_ret
  exact ⟨by first | rfl | exact ret_int e, rfl⟩
open Classical in
noncomputable def syn (P : Pl) (i : Nat) : Nat → Option Int := fun n => if ∃ k, ∃ h : k < P.fs.length, k < i ∧ P.fs[k].chg = true ∧ P.fs[k].num = (n : Int) then some ((P.ow n).getD 0) else none
theorem syn_zero (P : Pl) : syn P 0 = fun _ => none := by
  funext n
  unfold syn; rw [if_neg]; rintro ⟨k, h, h1, _⟩
  omega
theorem syn_skip {P : Pl} {i : Nat} (hi : i < P.fs.length) (h : P.fs[i].chg = false) : syn P (i + 1) = syn P i := by
  funext n
  unfold syn
  congr 1
  apply propext
  constructor
  · rintro ⟨k, hk, h1, h2, h3⟩
    by_cases e : k = i
    · subst e; rw [h] at h2; cases h2
    · exact ⟨k, hk, by omega, h2, h3⟩
  · rintro ⟨k, hk, h1, h2, h3⟩
    exact ⟨k, hk, by omega, h2, h3⟩
theorem syn_put {P : Pl} {i n : Nat} (hi : i < P.fs.length) (h : P.fs[i].chg = true) (hn : P.fs[i].num = (n : Int)) : syn P (i + 1) = fun j => if j = n then some ((P.ow n).getD 0) else syn P i j := by
  funext j
  by_cases e : j = n
  · subst e
    unfold syn; rw [if_pos rfl, if_pos ⟨i, hi, by omega, h, hn⟩]
  · rw [if_neg e]
    unfold syn
    congr 1
    apply propext
    constructor
    · rintro ⟨k, hk, h1, h2, h3⟩
      by_cases e2 : k = i
      · subst e2; rw [hn] at h3; omega
      · exact ⟨k, hk, by omega, h2, h3⟩
    · rintro ⟨k, hk, h1, h2, h3⟩
      exact ⟨k, hk, by omega, h2, h3⟩
theorem syn_all (P : Pl) : syn P P.fs.length = P.synced.ow := by
  funext n
  unfold syn Pl.synced
  show (if _ then _ else _) = (if _ then _ else _)
  congr 1
  apply propext
  constructor
  · rintro ⟨k, hk, _, h2, h3⟩
    exact ⟨P.fs[k], List.getElem_mem hk, h2, h3⟩
  · rintro ⟨f, hf, h2, h3⟩
    obtain ⟨k, hk, rfl⟩ := List.getElem_of_mem hf
    exact ⟨k, hk, hk, h2, h3⟩
structure SyS (W1 wr : World) (mb' : Nat) (P : Pl) (i : Nat) : Prop where
  map : Ows wr mb' P.pages (syn P i)
  only : Only (fun k => k = mb') W1 wr
set_option maxRecDepth 100000 in
set_option maxHeartbeats 1600000 in
theorem synced_any (w : World) (p d l fb mb : Nat) (P : Pl) (T : Nat → Prop) (h : PoolAt w p d l fb mb P T) :
    Calls Tryz.prog 23 #[.pointer (some ⟨p, 0, none⟩)] w fun e w' => e = .returned (.tuple #[]) ∧ PoolAt w' p d l fb w.heap.size P.synced (fun B => T B ∧ B ≠ w.heap.size) ∧ Only (fun k => k = p) w w' := by
  have hA := onlyA w (.map #[] 0); obtain ⟨W1, hW1⟩ : ∃ W, w.alloc (.map #[] 0) = W := ⟨_, rfl⟩; obtain ⟨mb', hmb⟩ : ∃ b, w.heap.size = b := ⟨_, rfl⟩; have hP := h.more hA; have hmp := h.map.lt; have hpl := h.lt; have hfl := h.flt
  have hn1 : p ≠ mb' := by omega
  have hn2 : fb ≠ mb' := by omega
  have hn3 : mb ≠ mb' := by omega
  have hS0 : SyS W1 W1 mb' P 0 := ⟨by rw [syn_zero, ← hW1, ← hmb]; exact Ows.new w P.pages, Only.refl _ _⟩; rw [hW1] at hP hA; have HP := hide hP; have HPW := hide h; have HS0 := hide hS0; have HA := hide hA; have HW := hide hmb; have hnf := h.nf.2; have hnp := h.np.2; rw [hmb]; have HN := hide (And.intro hn1 (And.intro hn2 hn3)); clear h hP hA hS0 hmp hpl hfl hn1 hn2 hn3
  have hmm : (Instr.makeMap 94 none).run Tryz.prog w = .ok (.map (some mb')) W1 := by rw [run_makeMap, hW1, hmb]
  go_enter Tryz.func23, Tryz.ntmps23
  go_upto_region 2 with fail
  clear hW1 hmb hmm; have c4 := HP.out.c4
  go_wp2_with fail
  clear c4
  go_loopw [13] (fun y wr => ∃ i : Nat, i ≤ P.fs.length ∧ y = .int .i64 (i : Int) ∧ Hid (SyS W1 wr mb' P i)) (fun y _ => P.fs.length - (intOf y).toNat)
  case atStart => exact ⟨0, by omega, rfl, HS0⟩
  case round =>
    obtain ⟨i, hi, rfl, HS⟩ := hrel; clear HS0; obtain ⟨hn1, hn2, hn3⟩ := HN.out; have c4 := (HS.out.only.cell (p := ⟨p, 4, none⟩) HP.out.lt hn1).trans HP.out.c4; have c5 := (HS.out.only.cell (p := ⟨p, 5, none⟩) HP.out.lt hn1).trans HP.out.c5
    by_cases hlt : i < P.fs.length
    · obtain ⟨_, k1, k2⟩ := (HP.out.fr i hlt).cells
      have k1 := (HS.out.only.cell (p := ⟨fb, i * 8 + 6, none⟩) HP.out.flt hn2).trans k1; have k2 := (HS.out.only.cell (p := ⟨fb, i * 8 + 7, none⟩) HP.out.flt hn2).trans k2
      have hil : (i : Int) < (P.fs.length : Int) := by omega
      have hnn := HP.out.nn P.fs[i] (List.getElem_mem hlt)
      cases hc : P.fs[i].chg with
      | false =>
        have HSN : Hid (SyS W1 wr mb' P (i + 1)) := ⟨by rw [syn_skip hlt hc]; exact HS.out.map, HS.out.only⟩; rw [hc] at k2; clear hc hnn k1 hn1 hn2 hn3 HS
        go_wp2_with fail
        go_roundw
        case rel => exact ⟨i + 1, by omega, by go_num, HSN⟩
        case measure => simp [intOf]; omega
      | true =>
        have hnum : 0 ≤ P.fs[i].num ∧ P.fs[i].num < (P.pages : Int) := by
          rcases hnn with ⟨_, e⟩ | e
          · rw [hc] at e; cases e
          · exact e
        obtain ⟨n, hn⟩ : ∃ n : Nat, P.fs[i].num = (n : Int) := ⟨P.fs[i].num.toNat, by omega⟩
        have hnl : n < P.pages := by omega
        have hmap := HP.out.map.kept HS.out.only hn3; have hlk := ((hmap.kept (Only.drew (fun _ => False) wr) (fun h => h)).look (by omega) hnl).2; obtain ⟨v, hv⟩ : ∃ v, (P.ow n).getD 0 = v := ⟨_, rfl⟩; obtain ⟨w2, hpt, hm2, ho2⟩ := (HS.out.map.kept (Only.drew (fun _ => False) wr) (fun h => h)).put (by omega) hnl v
        have HSN : Hid (SyS W1 w2 mb' P (i + 1)) := by
          refine ⟨by rw [syn_put hlt hc hn, hv]; exact hm2, ?_⟩
          exact (HS.out.only.trans (Only.drew (fun _ => False) wr) (fun _ _ h => h.elim)).trans ho2 (fun _ _ h => h)
        rw [hc] at k2; rw [hn] at k1; rw [hv] at hlk; clear hc hnn hn1 hn2 hn3 HS hnum hn hnl hmap hv hm2 ho2
        go_upto_region 7 with fail
        go_region
        go_wp2_with fail
        go_roundw
        case rel => exact ⟨i + 1, by omega, by go_num, HSN⟩
        case measure => simp [intOf]; omega
    · have e : i = P.fs.length := by omega
      subst e; have hmap := HS.out.map; rw [syn_all] at hmap
      have hw : w.heap.size ≤ mb' := by have := HW.out; omega
      have hq := HPW.out.table (mb' := mb') (ow := P.synced.ow) ((HA.out.mono (fun _ _ h => h.elim)).trans HS.out.only (fun _ _ h => h)) hmap (.inl hw); have HQ := hide hq; have f5 : wr.frozen? ⟨p, 5, none⟩ = false := (HS.out.only.frozen (p := ⟨p, 5, none⟩) HP.out.lt hn1).trans (HP.out.fz 5); clear hq hmap HS hn1 hn2 hn3 HP HA hw HPW
      go_wp2_with fail
      refine bodyPost_end (results_none rfl _ _ _) rfl ?_; refine ⟨rfl, HQ.out.1, HQ.out.2.mono (fun k hk e => ?_)⟩; have := HW.out
      rcases e with e | e
      · exact e
      · omega
theorem results_pg1 {fn : Func} {p : Tmp} (h : fn.results = #[.cell p 45]) {tmps : Array Value} {w : World} {b : Nat} {v0 v1 v2 v3 v4 v5 : Value} (hp : tmps.getD p undef = .pointer (some ⟨b, 0, none⟩)) (hP : Pag w b v0 v1 v2 v3 v4 v5) :
    (results fn tmps).run Tryz.prog w = .ok (.agg #[v0, v1, v2, v3, v4, v5]) w := by
  have e : (asAddr (.pointer (some ⟨b, 0, none⟩))).run Tryz.prog w = .ok ⟨b, 0, none⟩ w := rfl
  have key : (results fn tmps).run Tryz.prog w = ((asAddr (tmps.getD p undef)).run Tryz.prog w).andThen fun a w₁ => (loadVar 45 a).run Tryz.prog w₁ := by
    simp only [results, h]
    simp [Sem.run_bind, Result.andThen]
  rw [key, hp, e]; simp only [Result.andThen, load_page hP]
def PgR (w w' : World) (e : Ending) (p : Pg) : Prop := ∃ B ao cp, e = .returned (.agg #[.int .i64 p.lsn, .int .i64 p.kind, .int .i64 p.level, .int .i64 p.right, .string p.high, .slice ao p.items.length cp]) ∧ Strs w' B ao p.items ∧ Fit ao p.items.length cp ∧ Only (fun _ => False) w w' ∧ (0 < p.items.length → w.heap.size ≤ B)
set_option maxRecDepth 100000 in
set_option maxHeartbeats 800000 in
theorem apart_any (w : World) (p : Pg) (B cp : Nat) (ao : Option Addr) (hS : Strs w B ao p.items) :
    Calls Tryz.prog 52 #[.agg #[.int .i64 p.lsn, .int .i64 p.kind, .int .i64 p.level, .int .i64 p.right, .string p.high, .slice ao p.items.length cp]] w fun e w' => PgR w w' e p := by
  obtain ⟨a, k, v, r, h, l⟩ := p
  dsimp only at hS ⊢
  have hlen := hS.len; have HS := hide hS; clear hS; have HB0 := hide (boxes_only w a k v r h (.slice ao l.length cp)); have HB1 := hide (boxes_one w a k v r h (.slice ao l.length cp)); have HB2 := hide (boxes_two w a k v r h (.slice ao l.length cp)); have HBZ := hide (boxes_size w a k v r h (.slice ao l.length cp))
  go_enter Tryz.func52, Tryz.ntmps52
  go_wp2_with fail
  refine (clone_any _ B cp ao l (HS.out.more HB0.out)).mono ?_; rintro e w2 ⟨v2, rfl, hl2, ho2⟩; have HO2 := hide (o2 HB0.out ho2); obtain ⟨p0, p1, p2, p3, p4, p5, g0, g1, g2, g3, g4, g5, gl⟩ := HB1.out.more ho2; obtain ⟨q0, q1, q2, q3, q4, q5, t0, t1, t2, t3, t4, t5, tl⟩ := HB2.out.more ho2; obtain ⟨B5, ao5, cp5, rfl, hS5, hF5, hB5, _⟩ := hl2.strs hlen HS.out.size; have hbz := HBZ.out
  have h2 : 0 < l.length → w.heap.size + 2 ≤ B5 := fun h0 => by have := hB5 h0; omega
  have HA := hide (And.intro hS5 (And.intro hF5 h2)); have HP2 := hide ((HB2.out.more ho2).kept (Only.setCell (S := fun k => k = w.heap.size) w2 ⟨w.heap.size, 5, none⟩ (.slice ao5 l.length cp5) rfl) (by omega)); clear hl2 hS5 hF5 hB5 h2 ho2 hbz
  go_wp2_with fail
  refine bodyPost_ret (results_pg1 rfl rfl (Pag.six HP2.out _ _ _ _ _ _)) rfl ?_; obtain ⟨hS5, hF5, h2⟩ := HA.out; have o1 := Only.setCell (S := fun k => k = w.heap.size) w2 ⟨w.heap.size, 5, none⟩ (.slice ao5 l.length cp5) rfl; have o3 := Only.six (w2.setCell ⟨w.heap.size, 5, none⟩ (.slice ao5 l.length cp5)) (w.heap.size + 1) (.int .i64 a) (.int .i64 k) (.int .i64 v) (.int .i64 r) (.string h) (.slice ao5 l.length cp5); refine ⟨B5, ao5, cp5, rfl, (hS5.kept o1 (fun h0 e => by have := h2 h0; omega)).kept o3 (fun h0 e => by have := h2 h0; omega), hF5, ?_, fun h0 => by have := h2 h0; omega⟩
  exact ((HO2.out.mono (T := fun k => w.heap.size ≤ k) (fun _ _ h => h.elim)).trans o1 (fun k _ e => by omega) |>.trans o3 (fun k _ e => by omega)).mono (fun k hk e => by omega)
def Pg.setC (p : Pg) : Int := if p.out.2 ≠ 0 then p.out.2 else if p.lsn < 1 then 1 else 0
set_option maxRecDepth 100000 in
set_option maxHeartbeats 800000 in
theorem mayBeSet_any (w : World) (p : Pg) (B cp : Nat) (ao : Option Addr) (hS : Strs w B ao p.items) (hh : p.high.size ≤ 140737488355328) (hl : p.lsn < 9223372036854775808) :
    Calls Tryz.prog 64 #[.agg #[.int .i64 p.lsn, .int .i64 p.kind, .int .i64 p.level, .int .i64 p.right, .string p.high, .slice ao p.items.length cp]] w fun e w' => e = .returned (.int .i64 p.setC) ∧ Only (fun _ => False) w w' := by
  obtain ⟨a, k, v, r, h, l⟩ := p
  dsimp only at hS hh hl ⊢
  have HS := hide hS; have HH := hide hh; have HL := hide hl; clear hS hh hl; have HC := hide (show Pg.setC ⟨a, k, v, r, h, l⟩ = if (Pg.out ⟨a, k, v, r, h, l⟩).2 ≠ 0 then (Pg.out ⟨a, k, v, r, h, l⟩).2 else if a < 1 then 1 else 0 from rfl); have HP := hide (Pag.new w (.int .i64 a) (.int .i64 k) (.int .i64 v) (.int .i64 r) (.string h) (.slice ao l.length cp)); have HO := hide (onlyA w (.cells #[.int .i64 a, .int .i64 k, .int .i64 v, .int .i64 r, .string h, .slice ao l.length cp] 45))
  go_enter Tryz.func64, Tryz.ntmps64
  go_wp2_with fail
  refine (pencode_any _ a k v r h B cp ao l (HS.out.more HO.out) HH.out HL.out).mono ?_; rintro e w1 ⟨rfl, ho1⟩; obtain ⟨p0, p1, p2, p3, p4, p5, _⟩ := HP.out.more ho1; have HO1 := hide (o2 HO.out ho1); clear ho1 p1 p2 p3 p4 p5; obtain ⟨o1, h1⟩ : ∃ o, (Pg.out ⟨a, k, v, r, h, l⟩).1 = o := ⟨_, rfl⟩; obtain ⟨c, hc⟩ : ∃ c, (Pg.out ⟨a, k, v, r, h, l⟩).2 = c := ⟨_, rfl⟩; rw [h1, hc]; rw [hc] at HC; clear h1 hc
  by_cases h0 : c = 0
  · subst h0
    by_cases h1 : a < 1
    · have HD : Hid (Pg.setC ⟨a, k, v, r, h, l⟩ = 1) := HC.out.trans (by rw [if_neg (by simp), if_pos h1])
      go_wp2_with fail
      go_ret
      exact ⟨by rw [HD.out]; rfl, HO1.out⟩
    · have HD : Hid (Pg.setC ⟨a, k, v, r, h, l⟩ = 0) := HC.out.trans (by rw [if_neg (by simp), if_neg h1])
      go_wp2_with fail
      go_ret
      exact ⟨by rw [HD.out]; rfl, HO1.out⟩
  · have HD : Hid (Pg.setC ⟨a, k, v, r, h, l⟩ = c) := HC.out.trans (by rw [if_pos h0])
    have hb : (c == 0) = false := by simp [h0]
    clear h0
    go_wp2_with fail
    go_ret
    exact ⟨by rw [HD.out]; rfl, HO1.out⟩
end Go.Proofs.YtebijheonkagfaaGreatDoor
