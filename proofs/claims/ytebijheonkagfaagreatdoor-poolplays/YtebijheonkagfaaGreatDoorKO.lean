/- Acts over a pool that came in, opened, with what their pages are. -/
import Derived.ProofKit
import Derived.OpenShut
import Derived.ShutString
import Derived.SizedLaws
import Derived.Deep.Strs
import Derived.Deep.Draws
import Derived.Deep.Grids
import Derived.Test.YtebijheonkagfaaGreatDoorKQh
namespace Go.Proofs.YtebijheonkagfaaGreatDoor
open Go.ChangeShapes Go.WideShapes Go.ChangeAt Go.RowKit Go.Deep
theorem Tryz.laidOut : laidOutB Tryz.prog = true := by kernel_rfl
theorem Tryz.cellsInt : Tryz.prog.cellsOf 3 = 1 := by kernel_rfl
theorem Tryz.cellsStr : Tryz.prog.cellsOf 9 = 1 := by kernel_rfl
theorem Tryz.cellsStrs : Tryz.prog.cellsOf 43 = 1 := by kernel_rfl
theorem Tryz.bytesStr : Tryz.prog.bytesOf 9 = 16 := by kernel_rfl
theorem cell_spot {w : World} {a : Addr} {v : Value} (h : w.cell? a = some v) : a = ⟨a.block, a.off, none⟩ := by
  obtain ⟨b, o, s⟩ := a
  cases s with
  | none => rfl
  | some q =>
    unfold World.cell? at h
    split at h
    · simp at h
    · simp at h
theorem weightsAll_mem {H : Type} {P : Program} {e : TypeId} {d : DataW H} {l : List (DataW H)} {n : Nat} (hd : d ∈ l) (hn : n ∈ d.weights P e) : n ∈ DataW.weightsAll P e l := by
  induction l with
  | nil => cases hd
  | cons x t ih =>
    rw [DataW.weightsAll, List.mem_append]
    rcases List.mem_cons.1 hd with rfl | h
    · exact .inl hn
    · exact .inr (ih h)
theorem strs_of_trod {H : Type} {enc : TypeId × Value → H} {W : World} {c : Value} {x : DataW H × List MemPlace} {n : Nat} (h : DataW.trod enc Tryz.prog W 0 (fun _ => true) true n 43 [c] = some x) (hw : ∀ m ∈ x.1.weights Tryz.prog 43, m ≤ reachBytes) :
    ∃ (B : Nat) (ao : Option Addr) (cp : Nat) (l : List ByteArray), c = .slice ao l.length cp ∧ Strs W B ao l ∧ Fit ao l.length cp ∧ l.length ≤ 8796093021952 := by
  rcases open_strs Tryz.underlying43 Tryz.underlying9 Tryz.cellsStr h with ⟨hcs, _⟩ | ⟨ad, len, cap, m, Sx, hcs, _, hl, hm, hmm, hx, hc⟩
  · simp at hcs
    subst hcs
    exact ⟨0, none, 0, [], rfl, Strs.nil _ _ _, ⟨fun _ => rfl, by simp, (by unfold maxLen; omega)⟩, by simp⟩
  · simp at hcs hmm
    subst hcs; subst hmm; rw [hx] at hw; simp only [DataW.weights, Tryz.underlying43, Tryz.bytesStr] at hw; have hwb := hw ((((List.range len).map fun i => DataW.lit (H := H) (.string (Sx i).data.toList)).length + ((List.range (m - len)).map fun j => DataW.lit (H := H) (.string (Sx (len + j)).data.toList)).length) * 16) (by simp); simp only [List.length_map, List.length_range] at hwb
    have hlen : ((List.range len).map Sx).length = len := by simp
    have hwr : reachBytes = 140737488351232 := by decide
    refine ⟨ad.block, some ad, m, (List.range len).map Sx, by rw [hlen], ⟨fun h0 => ?_, fun h0 => ?_, by rw [hlen]; omega, fun s hs => ?_⟩, ⟨(fun h => by cases h), (by rw [hlen]; exact hl), hm⟩, by rw [hlen]; omega⟩
    · rw [hlen] at h0
      have c0 := (hc 0 (by omega)).1
      have e0 : ad.add 0 = ad := by unfold Addr.add; split <;> simp_all
      rw [e0] at c0; have ha := cell_spot c0; refine ⟨ad.off, by rw [← ha], fun j hj => ?_⟩; rw [hlen] at hj; have cj := (hc j (by omega)).1; rw [ha, add_at] at cj; rw [cj]
      simp
    · rw [hlen] at h0
      have c0 := (hc 0 (by omega)).1
      have e0 : ad.add 0 = ad := by unfold Addr.add; split <;> simp_all
      rw [e0] at c0
      exact World.block_lt_of_cell? W _ c0
    · obtain ⟨i, hi, rfl⟩ := List.mem_map.1 hs
      have hmem : (DataW.lit (H := H) (.string (Sx i).data.toList)) ∈ (List.range len).map fun i => DataW.lit (H := H) (.string (Sx i).data.toList) := List.mem_map.2 ⟨i, hi, rfl⟩
      have := hw (Sx i).data.toList.length (by
        refine List.mem_cons_of_mem _ (List.mem_append.2 (.inl (weightsAll_mem hmem ?_)))
        simp [DataW.weights])
      rw [show (Sx i).data.toList.length = (Sx i).size from bl_len _] at this
      omega
theorem add0 (a : Addr) : a.add 0 = a := by unfold Addr.add; simp
set_option maxRecDepth 100000 in
theorem slice_reach {H : Type} {enc : TypeId × Value → H} {W : World} {t e : TypeId} {c : Value} {x : DataW H × List MemPlace} {n : Nat} (ht : Tryz.prog.underlying t = some (.slice e)) (h : DataW.trod enc Tryz.prog W 0 (fun _ => true) true n t [c] = some x) (hw : ∀ m ∈ x.1.weights Tryz.prog t, m ≤ reachBytes) (hb : 8 ≤ Tryz.prog.bytesOf e) :
    c = .slice none 0 0 ∨ ∃ (a : Addr) (len cap m : Nat) (D : Nat → DataW H) (Pl : Nat → List MemPlace), c = .slice (some a) len cap ∧ len ≤ cap ∧ cap ≤ maxLen ∧ cap ≤ 17592186043904 ∧
      (∀ i, i < cap → ∃ cs', W.cells? 0 (a.add (i * Tryz.prog.cellsOf e)) (Tryz.prog.cellsOf e) = some cs' ∧ DataW.trod enc Tryz.prog W 0 (fun _ => true) true m e cs' = some (D i, Pl i)) ∧
      (∀ i, i < len → ∀ k ∈ (D i).weights Tryz.prog e, k ≤ reachBytes) := by
  rcases open_slice ht h with ⟨hcs, hx⟩ | ⟨a', len', cap', m, n', D, Pl, hcs, hb', hl, hm, hmm, hx, hit⟩
  · simp at hcs
    exact .inl hcs
  · simp at hcs hmm
    subst hmm
    have hwr : reachBytes = 140737488351232 := by decide
    rw [hx] at hw; simp only [DataW.weights, ht] at hw; have hwb := hw ((((List.range len').map D).length + ((List.range (m - len')).map fun j => D (len' + j)).length) * Tryz.prog.bytesOf e) (by simp); simp only [List.length_map, List.length_range] at hwb; have h8 : (len' + (m - len')) * 8 ≤ (len' + (m - len')) * Tryz.prog.bytesOf e := Nat.mul_le_mul_left _ hb; refine .inr ⟨a', len', m, n', D, Pl, hcs, hl, hm, by omega, hit, fun i hi k hk => ?_⟩; refine hw k (List.mem_cons_of_mem _ (List.mem_append.2 (.inl (weightsAll_mem (d := D i) (List.mem_map.2 ⟨i, List.mem_range.2 hi, rfl⟩) hk))))
set_option maxRecDepth 100000 in
theorem page_of_trod {H : Type} {enc : TypeId × Value → H} {W : World} {c0 c1 c2 c3 c4 c5 : Value} {x : DataW H × List MemPlace} {n : Nat} (h : DataW.trod enc Tryz.prog W 0 (fun _ => true) true n 45 [c0, c1, c2, c3, c4, c5] = some x) (hw : ∀ m ∈ x.1.weights Tryz.prog 45, m ≤ reachBytes) :
    ∃ (p : Pg) (B : Nat) (ao : Option Addr) (cp : Nat), c0 = .int .i64 p.lsn ∧ c1 = .int .i64 p.kind ∧ c2 = .int .i64 p.level ∧ c3 = .int .i64 p.right ∧ c4 = .string p.high ∧ c5 = .slice ao p.items.length cp ∧ Strs W B ao p.items ∧ Fit ao p.items.length cp ∧ p.high.size ≤ 140737488355328 ∧ p.lsn < 9223372036854775808 := by
  obtain ⟨xs, n', _, hx, _, hlen, hfs⟩ := DataW.trod_struct Tryz.underlying45 h
  match xs, hlen with
  | [y0, y1, y2, y3, y4, y5], _ =>
    have g0 := hfs 0 _ rfl; have g1 := hfs 1 _ rfl; have g2 := hfs 2 _ rfl; have g3 := hfs 3 _ rfl; have g4 := hfs 4 _ rfl; have g5 := hfs 5 _ rfl
    simp [Tryz.cellsInt, Tryz.cellsStr, Tryz.cellsStrs] at g0 g1 g2 g3 g4 g5
    obtain ⟨a, e0, _, w0⟩ := DataW.trod_int Tryz.underlying3 g0; obtain ⟨k, e1, _, w1⟩ := DataW.trod_int Tryz.underlying3 g1; obtain ⟨u, e2, _, w2⟩ := DataW.trod_int Tryz.underlying3 g2; obtain ⟨r, e3, _, w3⟩ := DataW.trod_int Tryz.underlying3 g3; obtain ⟨h, e4, f4, _⟩ := DataW.trod_string Tryz.underlying9 g4
    simp at e0 e1 e2 e3 e4
    rw [hx] at hw; simp only [DataW.weights, Tryz.underlying45] at hw
    have hw4 : ∀ m ∈ y4.1.weights Tryz.prog 9, m ≤ reachBytes := fun m hm => hw m (DataW.weights_mem_each (j := 4) (t := 9) (d := y4.1) rfl rfl m hm)
    have hw5 : ∀ m ∈ y5.1.weights Tryz.prog 43, m ≤ reachBytes := fun m hm => hw m (DataW.weights_mem_each (j := 5) (t := 43) (d := y5.1) rfl rfl m hm)
    obtain ⟨B, ao, cp, l, e5, hS, hF, hL⟩ := strs_of_trod g5 hw5
    have hwr : reachBytes = 140737488351232 := by decide
    have hh : h.size ≤ 140737488355328 := by
      rw [f4] at hw4; have := hw4 h.data.toList.length (by simp [DataW.weights]); rw [show h.data.toList.length = h.size from bl_len _] at this
      omega
    have b0 := bounds_i64 w0
    exact ⟨⟨a, k, u, r, h, l⟩, B, ao, cp, e0, e1, e2, e3, e4, e5, hS, hF, hh, by show a < _; omega⟩
theorem Tryz.cellsOop : Tryz.prog.cellsOf 47 = 9 := by kernel_rfl
theorem Tryz.bytesOop : Tryz.prog.bytesOf 47 = 96 := by kernel_rfl
structure Qo where
  ask : Int
  page : Int
  pick : Int
  body : Pg
  B : Nat
  ab : Option Addr
  cb : Nat
def qcl (o : Qo) : List Value := [.int .i64 o.ask, .int .i64 o.page, .int .i64 o.pick, .int .i64 o.body.lsn, .int .i64 o.body.kind, .int .i64 o.body.level, .int .i64 o.body.right, .string o.body.high, .slice o.ab o.body.items.length o.cb]
end Go.Proofs.YtebijheonkagfaaGreatDoor
namespace Go.Proofs.YtebijheonkagfaaGreatDoor
open Go.RowKit
structure Ob (w : World) (b : Nat) (z : Qo) : Prop where
  c0 : w.cell? ⟨b, 0, none⟩ = some (.int .i64 z.ask)
  c1 : w.cell? ⟨b, 1, none⟩ = some (.int .i64 z.page)
  c2 : w.cell? ⟨b, 2, none⟩ = some (.int .i64 z.pick)
  c3 : w.cell? ⟨b, 3, none⟩ = some (.int .i64 z.body.lsn)
  c4 : w.cell? ⟨b, 4, none⟩ = some (.int .i64 z.body.kind)
  c5 : w.cell? ⟨b, 5, none⟩ = some (.int .i64 z.body.level)
  c6 : w.cell? ⟨b, 6, none⟩ = some (.int .i64 z.body.right)
  c7 : w.cell? ⟨b, 7, none⟩ = some (.string z.body.high)
  c8 : w.cell? ⟨b, 8, none⟩ = some (.slice z.ab z.body.items.length z.cb)
  lt : b < w.heap.size
theorem Ob.kept {S : Nat → Prop} {w w' : World} {b : Nat} {z : Qo} (h : Ob w b z) (ho : Only S w w') (hS : ¬ S b) : Ob w' b z := by
  have k : ∀ (j : Nat) (v : Value), w.cell? ⟨b, j, none⟩ = some v → w'.cell? ⟨b, j, none⟩ = some v := fun j v hj => (ho.cell (p := ⟨b, j, none⟩) h.lt hS).trans hj
  exact ⟨k _ _ h.c0, k _ _ h.c1, k _ _ h.c2, k _ _ h.c3, k _ _ h.c4, k _ _ h.c5, k _ _ h.c6, k _ _ h.c7, k _ _ h.c8, Nat.lt_of_lt_of_le h.lt ho.size⟩
theorem Ob.new (w : World) (z : Qo) : Ob (w.alloc (.cells #[.int .i64 z.ask, .int .i64 z.page, .int .i64 z.pick, .int .i64 z.body.lsn, .int .i64 z.body.kind, .int .i64 z.body.level, .int .i64 z.body.right, .string z.body.high, .slice z.ab z.body.items.length z.cb] 47)) w.heap.size z := ⟨by simp, by simp, by simp, by simp, by simp, by simp, by simp, by simp, by simp, by simp⟩
end Go.Proofs.YtebijheonkagfaaGreatDoor
namespace Go.Proofs.YtebijheonkagfaaGreatDoor
open Go.ChangeShapes Go.WideShapes Go.ChangeAt Go.RowKit Go.Deep
structure QoJ (w : World) (o : Qo) : Prop where
  strs : Strs w o.B o.ab o.body.items
  page : -9223372036854775808 ≤ o.page ∧ o.page < 9223372036854775808
  pick : -9223372036854775808 ≤ o.pick ∧ o.pick < 9223372036854775808
  high : o.body.high.size ≤ 140737488355328
  fit : Fit o.ab o.body.items.length o.cb
  lsn : o.body.lsn < 9223372036854775808
structure Qjs (w : World) (B : Nat) (ao : Option Addr) (l : List Qo) : Prop where
  at_ : 0 < l.length → ∃ o, ao = some ⟨B, o, none⟩ ∧ ∀ j (h : j < l.length), w.rangeAt B (o + j * 9) (qcl l[j])
  each : ∀ z ∈ l, QoJ w z
  len : l.length < 9223372036854775808
theorem Qjs.more {w w' : World} {B : Nat} {ao : Option Addr} {l : List Qo} (h : Qjs w B ao l) (ho : Only (fun _ => False) w w') : Qjs w' B ao l :=
  ⟨fun h0 => by
    obtain ⟨o, e, hc⟩ := h.at_ h0
    exact ⟨o, e, fun j hj => range_go (hc j hj) ho (fun h => h)⟩, fun z hz => ⟨(h.each z hz).strs.more ho, (h.each z hz).page, (h.each z hz).pick, (h.each z hz).high, (h.each z hz).fit, (h.each z hz).lsn⟩, h.len⟩
set_option maxRecDepth 100000 in
theorem oopJ_of_trod {H : Type} {enc : TypeId × Value → H} {W : World} {v0 v1 v2 v3 v4 v5 v6 v7 v8 : Value} {x : DataW H × List MemPlace} {n : Nat} (h : DataW.trod enc Tryz.prog W 0 (fun _ => true) true n 47 [v0, v1, v2, v3, v4, v5, v6, v7, v8] = some x)
    (hw : ∀ m ∈ x.1.weights Tryz.prog 47, m ≤ reachBytes) : ∃ o : Qo, [v0, v1, v2, v3, v4, v5, v6, v7, v8] = qcl o ∧ QoJ W o := by
  obtain ⟨xs, n', _, hx, _, hlen, hfs⟩ := DataW.trod_struct Tryz.underlying47 h
  match xs, hlen with
  | [y0, y1, y2, y3], _ =>
    have g0 := hfs 0 _ rfl; have g1 := hfs 1 _ rfl; have g2 := hfs 2 _ rfl; have g3 := hfs 3 _ rfl
    simp [Tryz.cellsInt, Tryz.cellsPage] at g0 g1 g2 g3
    obtain ⟨z0, e0, _, b0⟩ := DataW.trod_int Tryz.underlying3 g0; obtain ⟨z1, e1, _, b1⟩ := DataW.trod_int Tryz.underlying3 g1; obtain ⟨z2, e2, _, b2⟩ := DataW.trod_int Tryz.underlying3 g2
    simp at e0 e1 e2
    rw [hx] at hw; simp only [DataW.weights, Tryz.underlying47] at hw
    have hw3 : ∀ m ∈ y3.1.weights Tryz.prog 45, m ≤ reachBytes := fun m hm => hw m (DataW.weights_mem_each (j := 3) (t := 45) (d := y3.1) rfl rfl m hm)
    obtain ⟨p, B, ao, cp, k0, k1, k2, k3, k4, k5, hS, hF, hh, hl⟩ := page_of_trod g3 hw3; have c1 := bounds_i64 b1; have c2 := bounds_i64 b2; refine ⟨⟨z0, z1, z2, p, B, ao, cp⟩, ?_, hS, ⟨by show _ ≤ z1; omega, by show z1 < _; omega⟩, ⟨by show _ ≤ z2; omega, by show z2 < _; omega⟩, hh, hF, hl⟩; rw [e0, e1, e2, k0, k1, k2, k3, k4, k5]
    rfl
set_option maxRecDepth 100000 in
theorem open_oopsJ {H : Type} {enc : TypeId × Value → H} {W : World} {base : Nat} {v : Value} {d : DataW H} {ps : List MemPlace} (hok : Value.okWide Tryz.prog W .any base 22 v) (h : DataW.Trod enc Tryz.prog W 0 (fun _ => true) true 22 v d ps)
    (hw : ∀ m ∈ d.weights Tryz.prog 22, m ≤ reachBytes) : ∃ (B : Nat) (ao : Option Addr) (cp : Nat) (l : List Qo), v = .slice ao l.length cp ∧ Qjs W B ao l := by
  obtain ⟨fuel, hf⟩ := h
  have hv : v.cells.toList = [v] := by
    rcases okWide_slice Tryz.underlying22 hok with ⟨a, b, c, rfl⟩
    rfl
  rw [hv] at hf
  have hb16 : 8 ≤ Tryz.prog.bytesOf 47 := by rw [Tryz.bytesOop]; decide
  rcases slice_reach Tryz.underlying22 hf hw hb16 with rfl | ⟨a, len, cap, m, D, Pl, rfl, hl, hm, hc, hit, hwe⟩
  · exact ⟨0, none, 0, [], rfl, ⟨fun h => absurd h (by simp), (fun z hz => by cases hz), by simp⟩⟩
  · by_cases hl0 : len = 0
    · subst hl0
      exact ⟨0, some a, cap, [], rfl, ⟨fun h => absurd h (by simp), (fun z hz => by cases hz), by simp⟩⟩
    have ha : a = ⟨a.block, a.off, none⟩ := by
      obtain ⟨cs', h1, h2⟩ := hit 0 (by omega); rw [Tryz.cellsOop] at h1; obtain ⟨_, hlen, hcell⟩ := World.cells?_some h1; have c0 := hcell 0 (by omega); rw [add_add, Nat.zero_mul, add0] at c0
      match cs', hlen with
      | v0 :: _, _ => exact cell_spot (v := v0) (by simpa using c0)
    have inh : Inhabited Qo := ⟨⟨0, 0, 0, Pg.none, 0, none, 0⟩⟩
    have one : ∀ i, i < len → ∃ z : Qo, W.rangeAt a.block (a.off + i * 9) (qcl z) ∧ QoJ W z := fun i hi => by
      obtain ⟨cs', h1, h2⟩ := hit i (by omega); rw [Tryz.cellsOop] at h1; obtain ⟨_, hlen, hcell⟩ := World.cells?_some h1
      match cs', hlen with
      | [v0, v1, v2, v3, v4, v5, v6, v7, v8], _ =>
        obtain ⟨o, he, hat⟩ := oopJ_of_trod h2 (hwe i hi); refine ⟨o, fun j u hu => ?_, hat⟩
        have hu' : [v0, v1, v2, v3, v4, v5, v6, v7, v8][j]? = some u := by rw [he]; exact hu
        have hj : j < 9 := (List.getElem?_eq_some_iff.1 hu').1; have cj := hcell j (by omega); rw [add_add, ha, add_at] at cj
        have e1 : a.off + i * 9 + j = a.off + (i * 9 + j) := by omega
        rw [e1]; rw [← hu']
        simpa using cj
    obtain ⟨q, hq⟩ := choose_lt (n := len) one
    have hlen : ((List.range len).map q).length = len := by simp
    refine ⟨a.block, some a, cap, (List.range len).map q, by rw [hlen], ⟨fun h0 => ⟨a.off, by rw [← ha], fun j hj => ?_⟩, fun z hz => ?_, ?_⟩⟩
    · rw [hlen] at hj
      simpa using (hq j hj).1
    · obtain ⟨j, hj, rfl⟩ := List.mem_map.1 hz
      exact (hq j (List.mem_range.1 hj)).2
    · rw [hlen]
      omega
end Go.Proofs.YtebijheonkagfaaGreatDoor
