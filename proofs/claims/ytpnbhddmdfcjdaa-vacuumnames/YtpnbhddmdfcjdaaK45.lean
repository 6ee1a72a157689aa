/- Parts. -/
import Derived.Test.YtpnbhddmdfcjdaaK38
import Derived.Test.YtpnbhddmdfcjdaaK39
import Derived.ProofKit
import Derived.OpenShut
import Derived.ShutString
import Derived.SizedLaws
import Derived.Deep.Strs
import Derived.Deep.Draws
set_option maxRecDepth 100000
namespace Go.Proofs.Ytpnbhddmdfcjdaa
open Go.ChangeShapes Go.WideShapes Go.ChangeAt Go.RowKit Go.Deep
theorem Try.laidOut : laidOutB Try.prog = true := by kernel_rfl
theorem Try.cellsInt : Try.prog.cellsOf 3 = 1 := by kernel_rfl
theorem Try.cellsBool : Try.prog.cellsOf 4 = 1 := by kernel_rfl
theorem Try.cellsSt : Try.prog.cellsOf 53 = 1 := by kernel_rfl
theorem Try.cellsInts : Try.prog.cellsOf 25 = 1 := by kernel_rfl
theorem Try.cellsSaid : Try.prog.cellsOf 55 = 2 := by kernel_rfl
theorem Try.cellsSaids : Try.prog.cellsOf 22 = 1 := by kernel_rfl
theorem Try.cellsSPage : Try.prog.cellsOf 24 = 3 := by kernel_rfl
theorem Try.cellsStr : Try.prog.cellsOf 9 = 1 := by kernel_rfl
theorem Try.cellsStrs : Try.prog.cellsOf 28 = 1 := by kernel_rfl
theorem Try.bytesStr : Try.prog.bytesOf 9 = 16 := by kernel_rfl
theorem cell_spot {w : World} {a : Addr} {v : Value} (h : w.cell? a = some v) : a = ⟨a.block, a.off, none⟩ := by
  obtain ⟨b, o, s⟩ := a
  cases s with
  | none => rfl
  | some q =>
    unfold World.cell? at h
    split at h
    · simp at h
    · simp at h
theorem weightsAll_mem {H : Type} {P : Program} {e : TypeId} {d : DataW H} {l : List (DataW H)} {n : Nat} (hd : d ∈ l) (hn : n ∈ d.weights P e) : n ∈ DataW.weightsAll P e l := by
  induction l with
  | nil => cases hd
  | cons x t ih =>
    rw [DataW.weightsAll, List.mem_append]
    rcases List.mem_cons.1 hd with rfl | h
    · exact .inl hn
    · exact .inr (ih h)
theorem strs_of_trod {H : Type} {enc : TypeId × Value → H} {W : World} {c : Value} {x : DataW H × List MemPlace} {n : Nat} (h : DataW.trod enc Try.prog W 0 (fun _ => true) true n 28 [c] = some x) (hw : ∀ m ∈ x.1.weights Try.prog 28, m ≤ reachBytes) :
    ∃ (B : Nat) (ao : Option Addr) (cp : Nat) (l : List ByteArray), c = .slice ao l.length cp ∧ Strs W B ao l ∧ Fit ao l.length cp ∧ l.length ≤ 8796093021952 := by
  rcases open_strs Try.underlying28 Try.underlying9 Try.cellsStr h with ⟨hcs, _⟩ | ⟨ad, len, cap, m, Sx, hcs, _, hl, hm, hmm, hx, hc⟩
  · simp at hcs
    subst hcs
    exact ⟨0, none, 0, [], rfl, Strs.nil _ _ _, ⟨fun _ => rfl, by simp, (by unfold maxLen; omega)⟩, by simp⟩
  · simp at hcs hmm
    subst hcs
    subst hmm
    rw [hx] at hw
    simp only [DataW.weights, Try.underlying28, Try.bytesStr] at hw
    have hwb := hw ((((List.range len).map fun i => DataW.lit (H := H) (.string (Sx i).data.toList)).length + ((List.range (m - len)).map fun j => DataW.lit (H := H) (.string (Sx (len + j)).data.toList)).length) * 16) (by simp)
    simp only [List.length_map, List.length_range] at hwb
    have hlen : ((List.range len).map Sx).length = len := by simp
    have hwr : reachBytes = 140737488351232 := by decide
    refine ⟨ad.block, some ad, m, (List.range len).map Sx, by rw [hlen], ⟨fun h0 => ?_, fun h0 => ?_, by rw [hlen]; omega, fun s hs => ?_⟩, ⟨(fun h => by cases h), (by rw [hlen]; exact hl), hm⟩, by rw [hlen]; omega⟩
    · rw [hlen] at h0
      have c0 := (hc 0 (by omega)).1
      have e0 : ad.add 0 = ad := by unfold Addr.add; split <;> simp_all
      rw [e0] at c0
      have ha := cell_spot c0
      refine ⟨ad.off, by rw [← ha], fun j hj => ?_⟩
      rw [hlen] at hj
      have cj := (hc j (by omega)).1
      rw [ha, add_at] at cj
      rw [cj]
      simp
    · rw [hlen] at h0
      have c0 := (hc 0 (by omega)).1
      have e0 : ad.add 0 = ad := by unfold Addr.add; split <;> simp_all
      rw [e0] at c0
      exact World.block_lt_of_cell? W _ c0
    · obtain ⟨i, hi, rfl⟩ := List.mem_map.1 hs
      have hmem : (DataW.lit (H := H) (.string (Sx i).data.toList)) ∈ (List.range len).map fun i => DataW.lit (H := H) (.string (Sx i).data.toList) := List.mem_map.2 ⟨i, hi, rfl⟩
      have := hw (Sx i).data.toList.length (by
        refine List.mem_cons_of_mem _ (List.mem_append.2 (.inl (weightsAll_mem hmem ?_)))
        simp [DataW.weights])
      rw [show (Sx i).data.toList.length = (Sx i).size from bl_len _] at this
      omega
theorem sized_mem {H : Type} {ts : List TypeId} {ds : List (DataW H)} (h : (DataW.weightsEach Try.prog ts ds).all (· ≤ reachBytes) = true) {j : Nat} {t : TypeId} {d : DataW H} (ht : ts[j]? = some t) (hd : ds[j]? = some d) : ∀ n ∈ d.weights Try.prog t, n ≤ reachBytes := by
  intro n hn
  have := List.all_eq_true.1 h _ (DataW.weights_mem_each ht hd n hn)
  simpa using this
theorem Try.cellsSnapshot : Try.prog.cellsOf 27 = 2 := by kernel_rfl
theorem sadd_at (b o j : Nat) : (⟨b, o, none⟩ : Addr).add j = ⟨b, o + j, none⟩ := by simp [Addr.add]
theorem sadd_nought (a : Addr) : a.add 0 = a := by simp [Addr.add]
set_option maxRecDepth 100000 in
theorem ns_of_trod {H : Type} {enc : TypeId × Value → H} {W : World} {c : Value} {x : DataW H × List MemPlace} {n : Nat} (h : DataW.trod enc Try.prog W 0 (fun _ => true) true n 25 [c] = some x) :
    ∃ (B : Nat) (ao : Option Addr) (cp : Nat) (l : List Int), c = .slice ao l.length cp ∧ Nz W B ao l ∧ (ao = none → cp = 0) := by
  rcases open_slice Try.underlying25 h with ⟨hcs, hx⟩ | ⟨a', len, cap, m, n, D, Pl, hcs, hb, hl, hm, hmm, hx, hit⟩
  · simp at hcs
    subst hcs
    exact ⟨0, none, 0, [], rfl, Nz.nil _ _ _, fun _ => rfl⟩
  · simp at hcs
    subst hcs
    have hlm : len ≤ m := by rw [hmm]; split <;> omega
    have one : ∀ i, i < len → ∃ z : Int, W.cell? (a'.add i) = some (.int .i64 z) ∧ I64 z := fun i hi => by
      obtain ⟨cs', h1, h2⟩ := hit i (by omega)
      rw [Try.cellsInt] at h1
      obtain ⟨_, hlen, hcell⟩ := World.cells?_some h1
      match cs', hlen with
      | [v0], _ =>
        obtain ⟨z, e0, _, wz⟩ := DataW.trod_int Try.underlying3 h2
        simp at e0
        subst e0
        have c0 := hcell 0 (by omega)
        rw [sadd_nought, Nat.mul_one] at c0
        have b0 := bounds_i64 wz
        exact ⟨z, by simpa using c0, b0.1, by omega⟩
    obtain ⟨q, hq⟩ := choose_lt (n := len) one
    have hlen : ((List.range len).map q).length = len := by simp
    have hmx : maxLen = 9223372036854775807 := rfl
    refine ⟨a'.block, some a', cap, (List.range len).map q, by rw [hlen], ⟨fun h0 => ?_, fun x hx => ?_, fun h0 => ?_, by rw [hlen]; omega⟩, fun h => by cases h⟩
    · rw [hlen] at h0
      have c0 := (hq 0 (by omega)).1
      rw [sadd_nought] at c0
      have ha := cell_spot c0
      refine ⟨a'.off, by rw [← ha], fun j hj => ?_⟩
      rw [hlen] at hj
      have cj := (hq j (by omega)).1
      rw [ha, sadd_at] at cj
      rw [cj]
      simp
    · obtain ⟨i, hi, rfl⟩ := List.mem_map.1 hx
      exact (hq i (by simpa using hi)).2
    · rw [hlen] at h0
      have c0 := (hq 0 (by omega)).1
      rw [sadd_nought] at c0
      exact World.block_lt_of_cell? W _ c0
set_option maxRecDepth 100000 in
theorem said_of_trod {H : Type} {enc : TypeId × Value → H} {W : World} {sp : Nat → Bool} {hd : Bool} {cs : List Value} {x : DataW H × List MemPlace} {n : Nat} (h : DataW.trod enc Try.prog W 0 sp hd n 55 cs = some x) (hl : cs.length = 2) :
    ∃ q : Int × Nat, cs = [.int .i64 q.1, .int .u8 (q.2 : Int)] ∧ I64 q.1 ∧ q.2 < 256 := by
  obtain ⟨y0, y1, m, _, _, g0, g1⟩ := trod_struct2 Try.underlying55 h
  match cs, hl with
  | [v0, v1], _ =>
    simp [Try.cellsInt, Try.cellsSt] at g0 g1
    obtain ⟨z, e1, _, wz⟩ := DataW.trod_int Try.underlying3 g0
    obtain ⟨s, e2, _, ws⟩ := DataW.trod_int Try.underlying53 g1
    simp at e1 e2
    subst e1 e2
    have b0 := bounds_u8 ws
    have b1 := bounds_i64 wz
    have hs : ((s.toNat : Nat) : Int) = s := by omega
    exact ⟨(z, s.toNat), by simp only [hs], ⟨b1.1, by show z < _; omega⟩, by show s.toNat < 256; omega⟩
set_option maxRecDepth 100000 in
theorem saids_of_trod {H : Type} {enc : TypeId × Value → H} {W : World} {c : Value} {x : DataW H × List MemPlace} {fuel : Nat} (h : DataW.trod enc Try.prog W 0 (fun _ => true) true fuel 22 [c] = some x) :
    ∃ (B : Nat) (ao : Option Addr) (n cap : Nat) (X : Nat → Int) (S : Nat → Nat), c = .slice ao n cap ∧ Sds W B ao n X S := by
  rcases open_slice Try.underlying22 h with ⟨hcs, hx⟩ | ⟨a', len, cap, m, n, D, Pl, hcs, hb, hl, hm, hmm, hx, hit⟩
  · simp at hcs
    subst hcs
    exact ⟨0, none, 0, 0, fun _ => 0, fun _ => 0, rfl, ⟨fun h => by omega, fun j h => by omega, fun h => by omega, by omega⟩⟩
  · simp at hcs
    subst hcs
    have hlm : len ≤ m := by rw [hmm]; split <;> omega
    have each : ∀ i, i < len → ∃ q : Int × Nat, W.cell? (a'.add (i * 2)) = some (.int .i64 q.1) ∧ W.cell? (a'.add (i * 2 + 1)) = some (.int .u8 (q.2 : Int)) ∧ I64 q.1 ∧ q.2 < 256 := by
      intro i hi
      obtain ⟨cs', h1, h2⟩ := hit i (by omega)
      rw [Try.cellsSaid] at h1
      obtain ⟨_, hlen, hcell⟩ := World.cells?_some h1
      obtain ⟨q, e, k1, k2⟩ := said_of_trod h2 hlen
      subst e
      have c0 := hcell 0 (by omega)
      have c1 := hcell 1 (by omega)
      rw [add_add] at c0 c1
      exact ⟨q, by simpa using c0, by simpa using c1, k1, k2⟩
    obtain ⟨q, hq⟩ := choose_lt (n := len) each
    have hlen : len < 9223372036854775808 := by
      have hmx : maxLen = 9223372036854775807 := rfl
      omega
    by_cases h0 : len = 0
    · subst h0
      exact ⟨0, some a', 0, cap, fun _ => 0, fun _ => 0, rfl, ⟨fun h => by omega, fun j h => by omega, fun h => by omega, by omega⟩⟩
    · have z0 := (hq 0 (by omega)).1
      rw [Nat.zero_mul, sadd_nought] at z0
      have e : a' = ⟨a'.block, a'.off, none⟩ := cell_spot z0
      have hbl := World.block_lt_of_cell? W _ z0
      obtain ⟨bb, oo, ss⟩ := a'
      simp at e
      subst e
      refine ⟨bb, some ⟨bb, oo, none⟩, len, cap, fun i => (q i).1, fun i => (q i).2, rfl, ⟨fun _ => ⟨oo, rfl, fun j hj => ?_⟩, fun j hj => (hq j hj).2.2, fun _ => hbl, hlen⟩⟩
      obtain ⟨c0, c1, _⟩ := hq j hj
      rw [sadd_at] at c0 c1
      exact ⟨c0, c1⟩
set_option maxRecDepth 100000 in
theorem open_spage {H : Type} {enc : TypeId × Value → H} {W : World} {base : Nat} {v : Value} {d : DataW H} {ps : List MemPlace} (hok : Value.okWide Try.prog W .any base 24 v) (h : DataW.Trod enc Try.prog W 0 (fun _ => true) true 24 v d ps) :
    ∃ (m fr : Int) (B : Nat) (ao : Option Addr) (n cap : Nat) (X : Nat → Int) (S : Nat → Nat), v = .agg #[.int .i64 m, .int .i64 fr, .slice ao n cap] ∧ I64 m ∧ I64 fr ∧ Sds W B ao n X S := by
  obtain ⟨cs, rfl, hs⟩ := okWide_struct Try.underlying24 hok
  obtain ⟨fuel, hf⟩ := h
  rw [Try.cellsSPage] at hs
  obtain ⟨y0, y1, y2, n, _, _, g0, g1, g2⟩ := trod_struct3 Try.underlying24 hf
  obtain ⟨c0, c1, c2, rfl⟩ : ∃ c0 c1 c2, cs = #[c0, c1, c2] := by
    obtain ⟨l⟩ := cs
    match l, hs with
    | [a, b, c], _ => exact ⟨a, b, c, rfl⟩
  simp [Value.cells, Try.cellsInt, Try.cellsSaids] at g0 g1 g2
  obtain ⟨x, e0, _, w0⟩ := DataW.trod_int Try.underlying3 g0
  obtain ⟨y, e1, _, w1⟩ := DataW.trod_int Try.underlying3 g1
  obtain ⟨B, ao, k, cap, X, S, e2, hS⟩ := saids_of_trod g2
  simp at e0 e1
  subst e0 e1 e2
  have b0 := bounds_i64 w0
  have b1 := bounds_i64 w1
  exact ⟨x, y, B, ao, k, cap, X, S, rfl, ⟨b0.1, by omega⟩, ⟨b1.1, by omega⟩, hS⟩
set_option maxRecDepth 100000 in
theorem page_of_trod {H : Type} {enc : TypeId × Value → H} {W : World} {c0 c1 c2 c3 c4 c5 : Value} {x : DataW H × List MemPlace} {n : Nat} (h : DataW.trod enc Try.prog W 0 (fun _ => true) true n 30 [c0, c1, c2, c3, c4, c5] = some x) (hw : ∀ m ∈ x.1.weights Try.prog 30, m ≤ reachBytes) :
    ∃ (p : Pg) (B : Nat) (ao : Option Addr) (cp : Nat), c0 = .int .i64 p.lsn ∧ c1 = .int .i64 p.kind ∧ c2 = .int .i64 p.level ∧ c3 = .int .i64 p.right ∧ c4 = .string p.high ∧ c5 = .slice ao p.items.length cp ∧ Strs W B ao p.items ∧ Fit ao p.items.length cp := by
  obtain ⟨xs, n', _, hx, _, hlen, hfs⟩ := DataW.trod_struct Try.underlying30 h
  match xs, hlen with
  | [y0, y1, y2, y3, y4, y5], _ =>
    have g0 := hfs 0 _ rfl
    have g1 := hfs 1 _ rfl
    have g2 := hfs 2 _ rfl
    have g3 := hfs 3 _ rfl
    have g4 := hfs 4 _ rfl
    have g5 := hfs 5 _ rfl
    simp [Try.cellsInt, Try.cellsStr, Try.cellsStrs] at g0 g1 g2 g3 g4 g5
    obtain ⟨a, e0, _, w0⟩ := DataW.trod_int Try.underlying3 g0
    obtain ⟨k, e1, _, w1⟩ := DataW.trod_int Try.underlying3 g1
    obtain ⟨u, e2, _, w2⟩ := DataW.trod_int Try.underlying3 g2
    obtain ⟨r, e3, _, w3⟩ := DataW.trod_int Try.underlying3 g3
    obtain ⟨h, e4, f4, _⟩ := DataW.trod_string Try.underlying9 g4
    simp at e0 e1 e2 e3 e4
    rw [hx] at hw
    simp only [DataW.weights, Try.underlying30] at hw
    have hw5 : ∀ m ∈ y5.1.weights Try.prog 28, m ≤ reachBytes := fun m hm => hw m (DataW.weights_mem_each (j := 5) (t := 28) (d := y5.1) rfl rfl m hm)
    obtain ⟨B, ao, cp, l, e5, hS, hF, hL⟩ := strs_of_trod g5 hw5
    exact ⟨⟨a, k, u, r, h, l⟩, B, ao, cp, e0, e1, e2, e3, e4, e5, hS, hF⟩
set_option maxRecDepth 100000 in
theorem open_view {H : Type} {enc : TypeId × Value → H} {W : World} {base : Nat} {v : Value} {d : DataW H} {ps : List MemPlace} (hok : Value.okWide Try.prog W .any base 32 v) (h : DataW.Trod enc Try.prog W 0 (fun _ => true) true 32 v d ps)
    (hw : ∀ m ∈ d.weights Try.prog 32, m ≤ reachBytes) : ∃ (V : Vw) (q : Lo), v = .agg #[.int .i64 V.m, .int .i64 V.next, .slice q.aA V.act.length q.cA, .int .i64 V.own, .slice q.aR V.run.length q.cR, .int .i64 V.pg.lsn, .int .i64 V.pg.kind, .int .i64 V.pg.level, .int .i64 V.pg.right, .string V.pg.high, .slice q.aP V.pg.items.length q.cP] ∧ Sn W V q := by
  obtain ⟨cs, rfl, hs⟩ := okWide_struct Try.underlying32 hok
  obtain ⟨fuel, hf⟩ := h
  rw [Try.cellsView] at hs
  obtain ⟨xs, n, _, hx, _, hlen, hfs⟩ := DataW.trod_struct Try.underlying32 hf
  obtain ⟨c0, c1, c2, c3, c4, c5, c6, c7, c8, c9, c10, rfl⟩ : ∃ c0 c1 c2 c3 c4 c5 c6 c7 c8 c9 c10, cs = #[c0, c1, c2, c3, c4, c5, c6, c7, c8, c9, c10] := by
    obtain ⟨l⟩ := cs
    match l, hs with
    | [c0, c1, c2, c3, c4, c5, c6, c7, c8, c9, c10], _ => exact ⟨c0, c1, c2, c3, c4, c5, c6, c7, c8, c9, c10, rfl⟩
  match xs, hlen with
  | [y0, y1, y2, y3, y4], _ =>
    simp only [Prod.mk.injEq] at hx
    have g0 := hfs 0 _ rfl
    have g1 := hfs 1 _ rfl
    have g2 := hfs 2 _ rfl
    have g3 := hfs 3 _ rfl
    have g4 := hfs 4 _ rfl
    simp [Value.cells, Try.cellsInt, Try.cellsInts, Try.cellsSnapshot, Try.cellsPage] at g0 g1 g2 g3 g4
    obtain ⟨a, e0, _, w0⟩ := DataW.trod_int Try.underlying3 g0
    obtain ⟨z0, z1, n2, _, _, k0, k1⟩ := trod_struct2 Try.underlying27 g1
    simp [Try.cellsInt, Try.cellsInts] at k0 k1
    obtain ⟨b, e1, _, w1⟩ := DataW.trod_int Try.underlying3 k0
    obtain ⟨BA, aA, cA, lA, e2, hA, _⟩ := ns_of_trod k1
    obtain ⟨c, e3, _, w3⟩ := DataW.trod_int Try.underlying3 g2
    obtain ⟨BR, aR, cR, lR, e4, hR, _⟩ := ns_of_trod g3
    rw [hx.1] at hw
    simp only [DataW.weights, Try.underlying32] at hw
    have hw4 : ∀ m ∈ y4.1.weights Try.prog 30, m ≤ reachBytes := fun m hm => hw m (DataW.weights_mem_each (j := 4) (t := 30) (d := y4.1) rfl rfl m hm)
    obtain ⟨p, BP, aP, cP, f0, f1, f2, f3, f4, f5, hP, hF⟩ := page_of_trod g4 hw4
    simp at e0 e1 e3
    subst e0 e1 e2 e3 e4 f0 f1 f2 f3 f4 f5
    have b0 := bounds_i64 w0
    have b1 := bounds_i64 w1
    have b3 := bounds_i64 w3
    exact ⟨⟨a, b, lA, c, lR, p⟩, ⟨BA, aA, cA, BR, aR, cR, BP, aP, cP⟩, rfl, ⟨hA, hR, hP, hF, ⟨b0.1, by show a < _; omega⟩, ⟨b1.1, by show b < _; omega⟩, ⟨b3.1, by show c < _; omega⟩⟩⟩
theorem slice_reachI {H : Type} {enc : TypeId × Value → H} {W : World} {t e : TypeId} {c : Value} {x : DataW H × List MemPlace} {n : Nat} (ht : Try.prog.underlying t = some (.slice e)) (h : DataW.trod enc Try.prog W 0 (fun _ => true) true n t [c] = some x) (hw : ∀ m ∈ x.1.weights Try.prog t, m ≤ reachBytes) :
    c = .slice none 0 0 ∨ ∃ (a : Addr) (len cap m : Nat) (D : Nat → DataW H) (Pl : Nat → List MemPlace), c = .slice (some a) len cap ∧ len ≤ cap ∧ cap ≤ maxLen ∧ cap * Try.prog.bytesOf e ≤ reachBytes ∧
      (∀ i, i < cap → ∃ cs', W.cells? 0 (a.add (i * Try.prog.cellsOf e)) (Try.prog.cellsOf e) = some cs' ∧ DataW.trod enc Try.prog W 0 (fun _ => true) true m e cs' = some (D i, Pl i)) ∧
      (∀ i, i < len → ∀ k ∈ (D i).weights Try.prog e, k ≤ reachBytes) := by
  rcases open_slice ht h with ⟨hcs, hx⟩ | ⟨a', len', cap', m, n', D, Pl, hcs, hb', hl, hm, hmm, hx, hit⟩
  · simp at hcs
    exact .inl hcs
  · simp at hcs hmm
    subst hmm
    rw [hx] at hw
    simp only [DataW.weights, ht] at hw
    have hwb := hw ((((List.range len').map D).length + ((List.range (m - len')).map fun j => D (len' + j)).length) * Try.prog.bytesOf e) (by simp)
    simp only [List.length_map, List.length_range] at hwb
    have e1 : len' + (m - len') = m := by omega
    rw [e1] at hwb
    refine .inr ⟨a', len', m, n', D, Pl, hcs, hl, hm, hwb, hit, fun i hi k hk => ?_⟩
    refine hw k (List.mem_cons_of_mem _ (List.mem_append.2 (.inl (weightsAll_mem (d := D i) (List.mem_map.2 ⟨i, List.mem_range.2 hi, rfl⟩) hk))))
theorem Try.cellsSlotT : Try.prog.cellsOf 59 = 7 := by kernel_rfl
theorem Try.bytesSlotT : Try.prog.bytesOf 59 = 80 := by kernel_rfl
theorem Try.cellsTupleI : Try.prog.cellsOf 57 = 5 := by kernel_rfl
set_option maxRecDepth 100000 in
theorem tuple_of_trodI {H : Type} {enc : TypeId × Value → H} {W : World} {c0 c1 c2 c3 c4 : Value} {x : DataW H × List MemPlace} {n : Nat} (h : DataW.trod enc Try.prog W 0 (fun _ => true) true n 57 [c0, c1, c2, c3, c4] = some x) :
    ∃ t : Tu, c0 = .int .i64 t.xmin ∧ c1 = .int .i64 t.xmax ∧ c2 = .bool t.frozen ∧ c3 = .string t.key ∧ c4 = .string t.value ∧ I64 t.xmin ∧ I64 t.xmax := by
  obtain ⟨xs, n, _, hx, _, hlen, hfs⟩ := DataW.trod_struct Try.underlying57 h
  match xs, hlen with
  | [y0, y1, y2, y3, y4], _ =>
    have g0 := hfs 0 _ rfl
    have g1 := hfs 1 _ rfl
    have g2 := hfs 2 _ rfl
    have g3 := hfs 3 _ rfl
    have g4 := hfs 4 _ rfl
    simp [Try.cellsInt, Try.cellsStr, Try.cellsBool] at g0 g1 g2 g3 g4
    obtain ⟨a, e0, _, w0⟩ := DataW.trod_int Try.underlying3 g0
    obtain ⟨b, e1, _, w1⟩ := DataW.trod_int Try.underlying3 g1
    obtain ⟨c, e2, _⟩ := DataW.trod_bool Try.underlying4 g2
    obtain ⟨k, e3, _, _⟩ := DataW.trod_string Try.underlying9 g3
    obtain ⟨u, e4, _, _⟩ := DataW.trod_string Try.underlying9 g4
    simp at e0 e1 e2 e3 e4
    have b0 := bounds_i64 w0
    have b1 := bounds_i64 w1
    exact ⟨⟨a, b, c, k, u⟩, e0, e1, e2, e3, e4, ⟨b0.1, by show a < _; omega⟩, ⟨b1.1, by show b < _; omega⟩⟩
set_option maxRecDepth 100000 in
theorem slot_of_trod {H : Type} {enc : TypeId × Value → H} {W : World} {cs : List Value} {x : DataW H × List MemPlace} {n : Nat} (h : DataW.trod enc Try.prog W 0 (fun _ => true) true n 59 cs = some x) (hl : cs.length = 7) (hw : ∀ m ∈ x.1.weights Try.prog 59, m ≤ reachBytes) :
    ∃ s : Sv, cs = s.cl ∧ I64 s.kind ∧ I64 s.t.xmin ∧ I64 s.t.xmax ∧ s.raw.size ≤ 140737488355328 := by
  obtain ⟨xs, n, _, hx, _, hlen, hfs⟩ := DataW.trod_struct Try.underlying59 h
  match cs, hl with
  | [v0, v1, v2, v3, v4, v5, v6], _ =>
    match xs, hlen with
    | [y0, y1, y2], _ =>
      have g0 := hfs 0 _ rfl
      have g1 := hfs 1 _ rfl
      have g2 := hfs 2 _ rfl
      simp [Try.cellsInt, Try.cellsStr, Try.cellsTupleI] at g0 g1 g2
      obtain ⟨a, e0, _, w0⟩ := DataW.trod_int Try.underlying3 g0
      obtain ⟨t, e1, e2, e3, e4, e5, k1, k2⟩ := tuple_of_trodI g1
      obtain ⟨r, e6, f6, _⟩ := DataW.trod_string Try.underlying9 g2
      simp at e0 e6
      subst e0 e1 e2 e3 e4 e5 e6
      have b0 := bounds_i64 w0
      rw [hx] at hw
      simp only [DataW.weights, Try.underlying59] at hw
      have hr : ∀ m ∈ y2.1.weights Try.prog 9, m ≤ reachBytes := fun m hm => hw m (DataW.weights_mem_each (j := 2) (t := 9) (d := y2.1) rfl rfl m hm)
      have hwr : reachBytes = 140737488351232 := by decide
      have hs := hr r.size (by rw [f6]; simp [DataW.weights])
      exact ⟨⟨a, t, r⟩, rfl, ⟨b0.1, by show a < _; omega⟩, k1, k2, by show r.size ≤ _; omega⟩
set_option maxRecDepth 100000 in
theorem open_slots {H : Type} {enc : TypeId × Value → H} {W : World} {base : Nat} {v : Value} {d : DataW H} {ps : List MemPlace} (hok : Value.okWide Try.prog W .any base 33 v) (h : DataW.Trod enc Try.prog W 0 (fun _ => true) true 33 v d ps)
    (hw : ∀ m ∈ d.weights Try.prog 33, m ≤ reachBytes) : ∃ (B : Nat) (ao : Option Addr) (cp : Nat) (l : List Sv), v = .slice ao l.length cp ∧ Svs W B ao l := by
  obtain ⟨fuel, hf⟩ := h
  have hv : v.cells.toList = [v] := by
    rcases okWide_slice Try.underlying33 hok with ⟨a, b, c, rfl⟩
    rfl
  rw [hv] at hf
  have none0 : ∀ ao, Svs W 0 ao [] := fun ao => ⟨fun h => absurd h (by simp), fun h => absurd h (by simp), (fun _ h => by cases h), by simp⟩
  rcases slice_reachI Try.underlying33 hf hw with rfl | ⟨a, len, cap, m, D, Pl, rfl, hl, hm, hc, hit, hwe⟩
  · exact ⟨0, none, 0, [], rfl, none0 _⟩
  · rw [Try.bytesSlotT] at hc
    have hwr : reachBytes = 140737488351232 := by decide
    by_cases hl0 : len = 0
    · subst hl0
      exact ⟨0, some a, cap, [], rfl, none0 _⟩
    have one : ∀ i, i < len → ∃ z : Sv, (∀ j u, z.cl[j]? = some u → W.cell? ((a.add (i * 7)).add j) = some u) ∧ (I64 z.kind ∧ I64 z.t.xmin ∧ I64 z.t.xmax ∧ z.raw.size ≤ 140737488355328) := fun i hi => by
      obtain ⟨cs', h1, h2⟩ := hit i (by omega)
      rw [Try.cellsSlotT] at h1
      obtain ⟨_, hlen, hcell⟩ := World.cells?_some h1
      obtain ⟨s, he, hb⟩ := slot_of_trod h2 hlen (hwe i hi)
      refine ⟨s, fun j u hu => ?_, hb⟩
      have hj : j < 7 := by
        have := (List.getElem?_eq_some_iff.1 hu).1
        exact this
      rw [hcell j hj, he, hu]
    have inh : Inhabited Sv := ⟨⟨0, noT, ⟨#[]⟩⟩⟩
    obtain ⟨q, hq⟩ := choose_lt (n := len) one
    have ha : a = ⟨a.block, a.off, none⟩ := by
      have c0 := (hq 0 (by omega)).1 0 _ rfl
      rw [Nat.zero_mul, sadd_nought, sadd_nought] at c0
      exact cell_spot c0
    have hlen : ((List.range len).map q).length = len := by simp
    refine ⟨a.block, some a, cap, (List.range len).map q, by rw [hlen], ⟨fun h0 => ⟨a.off, by rw [← ha], fun j hj i u hu => ?_⟩, fun h0 => ?_, fun z hz => ?_, ?_⟩⟩
    · rw [hlen] at hj
      have hu2 : (q j).cl[i]? = some u := by simpa using hu
      have := (hq j hj).1 i u hu2
      rw [ha, sadd_at, sadd_at] at this
      exact this
    · have c0 := (hq 0 (by omega)).1 0 _ rfl
      rw [ha, sadd_at, sadd_at] at c0
      exact World.block_lt_of_cell? W ⟨a.block, a.off + 0 * 7 + 0, none⟩ c0
    · obtain ⟨j, hj, rfl⟩ := List.mem_map.1 hz
      exact (hq j (List.mem_range.1 hj)).2
    · rw [hlen]
      omega
end Go.Proofs.Ytpnbhddmdfcjdaa
