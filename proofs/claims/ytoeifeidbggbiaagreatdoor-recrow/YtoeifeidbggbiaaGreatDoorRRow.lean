/- Lists of records that came in and that are owned; the walk of RecRow. -/
import Derived.Test.YtoeifeidbggbiaaGreatDoorRLawT
import Derived.Test.YtoeifeidbggbiaaGreatDoorROpen
import Derived.Deep.RegionHeld3
namespace Go.Proofs.YtoeifeidbggbiaaGreatDoor
open Go.RowKit

/-- A record and where its lists lie. -/
abbrev Lr := Rc × Loc
def rcl (z : Lr) : List Value := z.1.cl z.2
theorem rcl_len (z : Lr) : (rcl z).length = 16 := cl_len _ _
/-- Records that a slice at ao leads to, in block B. -/
structure Rls (w : World) (B : Nat) (ao : Option Addr) (l : List Lr) : Prop where
  at_ : 0 < l.length → ∃ o, ao = some ⟨B, o, none⟩ ∧ ∀ j (h : j < l.length), w.rangeAt B (o + j * 16) (rcl l[j])
  each : ∀ z ∈ l, RcAt w z.1 z.2
  len : l.length * 216 ≤ 140737488351232
theorem range_go {S : Nat → Prop} {w w' : World} {b o : Nat} {cs : List Value} (h : w.rangeAt b o cs) (ho : Only S w w') (hS : ¬ S b) : w'.rangeAt b o cs := fun j v hv => by
  have h1 := h j v hv
  exact (ho.cell (p := ⟨b, o + j, none⟩) (World.block_lt_of_cell? w _ h1) hS).trans h1
theorem Rls.more {w w' : World} {B : Nat} {ao : Option Addr} {l : List Lr} (h : Rls w B ao l) (ho : Only (fun _ => False) w w') : Rls w' B ao l :=
  ⟨fun h0 => by
    obtain ⟨o, e, hc⟩ := h.at_ h0
    exact ⟨o, e, fun j hj => range_go (hc j hj) ho (fun h => h)⟩, fun z hz => (h.each z hz).go ho, h.len⟩
/-- Records that the value v owns. -/
def Ow (w : World) (base : Nat) (v : Value) (l : List Lr) : Prop := w.ownsRow base 28 16 v l.length (l.flatMap rcl)
theorem Ow.kept {S : Nat → Prop} {w w' : World} {base : Nat} {v : Value} {l : List Lr} (h : Ow w base v l) (ho : Only S w w') (hS : ∀ k, base ≤ k → ¬ S k) : Ow w' base v l :=
  own_kept h ho (fun b hb => hS b (World.ownsRow.lt h b hb).1)
theorem Ow.more {w w' : World} {base : Nat} {v : Value} {l : List Lr} (h : Ow w base v l) (ho : Only (fun _ => False) w w') : Ow w' base v l := own_kept h ho (fun _ _ h => h)
theorem Ow.nil (w : World) (base : Nat) : Ow w base (.slice none 0 0) [] := World.ownsRow_nil _ _ _ _
theorem Ow.form {w : World} {base : Nat} {v : Value} {l : List Lr} (h : Ow w base v l) : (v = .slice none 0 0 ∧ l = []) ∨ ∃ g cap, v = .slice (some ⟨g, 0, none⟩) l.length cap ∧ base ≤ g ∧ (∀ j (hj : j < l.length), w.rangeAt g (j * 16) (rcl l[j])) := by
  rcases own_form h with ⟨rfl, h0⟩ | ⟨g, cap, rfl, hb, hg, h1, h2⟩
  · exact .inl ⟨rfl, List.eq_nil_of_length_eq_zero h0⟩
  · refine .inr ⟨g, cap, rfl, hb, fun j hj i u hu => ?_⟩
    have hi : i < 16 := by
      have := (List.getElem?_eq_some_iff.1 hu).1
      rwa [rcl_len] at this
    exact own_cell h (j * 16 + i) u (by rw [flat_at rcl 16 rcl_len l j i hj hi]; exact hu)
theorem Tryz.infoRec : (Tryz.prog.info? 28).map (fun i => (i.zero, i.size, i.bytes)) = some (some (.agg (Rc.none.cells Loc.none)), 16, 216) := by kernel_rfl
theorem append_rec (w : World) (ty : TypeId) (base : Nat) (v : Value) (l : List Lr) (h : Ow w base v l) (z : Lr) (hroom : (l.length + 1) * 216 ≤ 140737488355328) (hbase : base ≤ w.heap.size) :
    ∃ v' w', (Builtin.append_ #[38, 38] ty #[v, .slice (some ⟨w.heap.size, 0, none⟩) 1 1]).run Tryz.prog (w.alloc (.cells (z.1.cells z.2) 28)) = .ok v' w' ∧ Ow w' base v' (l ++ [z]) ∧ Only (fun k => base ≤ k) w w' := by
  obtain ⟨i0, hi, hz0, hz1, hz2⟩ := info_parts Tryz.infoRec
  have hA := onlyA w (.cells (z.1.cells z.2) 28)
  have h' := own_kept h hA (fun _ _ h => h)
  obtain ⟨v', w', hr, h2, h3, _, h5⟩ := run_append_own_at (P := Tryz.prog) _ base 38 ty 28 i0 (.agg (Rc.none.cells Loc.none)) 16 216 Tryz.underlying38 hi hz0 hz1 hz2 rfl (by decide) v l.length _ h' ⟨w.heap.size, 0, none⟩ 1 1 (rcl z) (rcl_len z)
    (fun j u hu => by
      have := range_new w z.1 z.2 j u hu
      rwa [add_at]) (by intro u hu; simp [rcl, Rc.cl] at hu; rcases hu with rfl | rfl | rfl | rfl | rfl | rfl | rfl | rfl | rfl | rfl | rfl | rfl | rfl | rfl | rfl | rfl <;> rfl) (by unfold maxLen; omega) (by omega) (by simp; omega)
  refine ⟨v', w', hr, ?_, (Only.alloc (fun k => base ≤ k) w _).trans (Only.grown (S := fun k => base ≤ k) h3 (fun k hk => (World.ownsRow.lt h' k hk).1)) (fun _ _ h => h)⟩
  have e : l.length + 1 = (l ++ [z]).length := by simp
  have e2 : (l ++ [z]).flatMap rcl = l.flatMap rcl ++ rcl z := by simp
  unfold Ow
  rw [e2, ← e]
  exact h2
theorem run_bs_rec (w : World) (r : Rc) (L : Loc) : (Instr.buildSlice 38 1 #[(0, .agg (r.cells L))]).run Tryz.prog w = .ok (.slice (some ⟨w.heap.size, 0, none⟩) 1 1) (w.alloc (.cells (r.cells L) 28)) := by
  go_simp
end Go.Proofs.YtoeifeidbggbiaaGreatDoor
namespace Go.Proofs.YtoeifeidbggbiaaGreatDoor
open Go.ChangeShapes Go.WideShapes Go.ChangeAt Go.RowKit Go.Deep

theorem Tryz.bytesRec : Tryz.prog.bytesOf 28 = 216 := by kernel_rfl
set_option maxRecDepth 100000 in
theorem rec_of_trod {H : Type} {enc : TypeId × Value → H} {W : World} {c0 c1 c2 c3 c4 c5 c6 c7 c8 c9 c10 c11 c12 c13 c14 c15 : Value} {x : DataW H × List MemPlace} {n : Nat} (h : DataW.trod enc Tryz.prog W 0 (fun _ => true) true n 28 [c0, c1, c2, c3, c4, c5, c6, c7, c8, c9, c10, c11, c12, c13, c14, c15] = some x)
    (hw : ∀ m ∈ x.1.weights Tryz.prog 28, m ≤ reachBytes) : ∃ (r : Rc) (L : Loc), [c0, c1, c2, c3, c4, c5, c6, c7, c8, c9, c10, c11, c12, c13, c14, c15] = r.cl L ∧ RcAt W r L := by
  obtain ⟨xs, n', _, hx, _, hlen, hfs⟩ := DataW.trod_struct Tryz.underlying28 h
  match xs, hlen with
  | [y0, y1, y2, y3, y4, y5, y6, y7, y8, y9, y10, y11, y12, y13, y14, y15], _ =>
    have g0 := hfs 0 _ rfl
    have g1 := hfs 1 _ rfl
    have g2 := hfs 2 _ rfl
    have g3 := hfs 3 _ rfl
    have g4 := hfs 4 _ rfl
    have g5 := hfs 5 _ rfl
    have g6 := hfs 6 _ rfl
    have g7 := hfs 7 _ rfl
    have g8 := hfs 8 _ rfl
    have g9 := hfs 9 _ rfl
    have g10 := hfs 10 _ rfl
    have g11 := hfs 11 _ rfl
    have g12 := hfs 12 _ rfl
    have g13 := hfs 13 _ rfl
    have g14 := hfs 14 _ rfl
    have g15 := hfs 15 _ rfl
    simp [Tryz.cellsInt, Tryz.cellsStr, Tryz.cellsKind, Tryz.cellsInts, Tryz.cellsImages, Tryz.cellsOweds, Tryz.cellsBeguns] at g0 g1 g2 g3 g4 g5 g6 g7 g8 g9 g10 g11 g12 g13 g14 g15
    obtain ⟨z0, e0, _, _⟩ := DataW.trod_int Tryz.underlying3 g0
    obtain ⟨z1, e1, _, _⟩ := DataW.trod_int Tryz.underlying3 g1
    obtain ⟨z2, e2, _, _⟩ := DataW.trod_int Tryz.underlying3 g2
    obtain ⟨z3, e3, _, w3⟩ := DataW.trod_int Tryz.underlying22 g3
    obtain ⟨z4, e4, _, _⟩ := DataW.trod_int Tryz.underlying3 g4
    obtain ⟨z5, e5, _, _⟩ := DataW.trod_int Tryz.underlying3 g5
    obtain ⟨z6, e6, _, _⟩ := DataW.trod_int Tryz.underlying3 g6
    obtain ⟨z7, e7, _, _⟩ := DataW.trod_int Tryz.underlying3 g7
    obtain ⟨z8, e8, _, _⟩ := DataW.trod_int Tryz.underlying3 g8
    obtain ⟨z9, e9, _, _⟩ := DataW.trod_int Tryz.underlying3 g9
    obtain ⟨s, e10, f10, _⟩ := DataW.trod_string Tryz.underlying9 g10
    simp at e0 e1 e2 e3 e4 e5 e6 e7 e8 e9 e10
    rw [hx] at hw
    simp only [DataW.weights, Tryz.underlying28] at hw
    have hw10 : ∀ m ∈ y10.1.weights Tryz.prog 9, m ≤ reachBytes := fun m hm => hw m (DataW.weights_mem_each (j := 10) (t := 9) (d := y10.1) rfl rfl m hm)
    have hw11 : ∀ m ∈ y11.1.weights Tryz.prog 23, m ≤ reachBytes := fun m hm => hw m (DataW.weights_mem_each (j := 11) (t := 23) (d := y11.1) rfl rfl m hm)
    have hw12 : ∀ m ∈ y12.1.weights Tryz.prog 23, m ≤ reachBytes := fun m hm => hw m (DataW.weights_mem_each (j := 12) (t := 23) (d := y12.1) rfl rfl m hm)
    have hw13 : ∀ m ∈ y13.1.weights Tryz.prog 24, m ≤ reachBytes := fun m hm => hw m (DataW.weights_mem_each (j := 13) (t := 24) (d := y13.1) rfl rfl m hm)
    have hw14 : ∀ m ∈ y14.1.weights Tryz.prog 25, m ≤ reachBytes := fun m hm => hw m (DataW.weights_mem_each (j := 14) (t := 25) (d := y14.1) rfl rfl m hm)
    have hw15 : ∀ m ∈ y15.1.weights Tryz.prog 26, m ≤ reachBytes := fun m hm => hw m (DataW.weights_mem_each (j := 15) (t := 26) (d := y15.1) rfl rfl m hm)
    obtain ⟨B1, a1, p1, l1, k1, hz1, hf1⟩ := zs_of_trod g11 hw11
    obtain ⟨B2, a2, p2, l2, k2, hz2, hf2⟩ := zs_of_trod g12 hw12
    obtain ⟨B3, a3, p3, l3, k3, hz3⟩ := ims_of_trod g13 hw13
    obtain ⟨B4, a4, p4, l4, k4, hz4⟩ := prs_of_trod Tryz.underlying25 Tryz.cellsOwed Tryz.bytesOwed two_owed g14 hw14
    obtain ⟨B5, a5, p5, l5, k5, hz5⟩ := prs_of_trod Tryz.underlying26 Tryz.cellsBegun Tryz.bytesBegun two_begun g15 hw15
    have hwr : reachBytes = 140737488351232 := by decide
    have hh : s.size ≤ 140737488355328 := by
      rw [f10] at hw10
      have := hw10 s.data.toList.length (by simp [DataW.weights])
      rw [show s.data.toList.length = s.size from bl_len _] at this
      omega
    have b3 := bounds_u8 w3
    refine ⟨⟨z0, z1, z2, z3, z4, z5, z6, z7, z8, z9, s, l1, l2, l3, l4, l5⟩, ⟨a1, a2, a3, a4, a5, p1, p2, p3, p4, p5, B1, B2, B3, B4, B5⟩, ?_, hz1, hz2, ⟨_, hz3⟩, hz4, hz5, hf1, hf2, hh, ⟨by show 0 ≤ z3; omega, by show z3 ≤ 255; omega⟩⟩
    rw [e0, e1, e2, e3, e4, e5, e6, e7, e8, e9, e10, k1, k2, k3, k4, k5]
    rfl
set_option maxRecDepth 100000 in
theorem open_recs {H : Type} {enc : TypeId × Value → H} {W : World} {base : Nat} {v : Value} {d : DataW H} {ps : List MemPlace} (hok : Value.okWide Tryz.prog W .any base 38 v) (h : DataW.Trod enc Tryz.prog W 0 (fun _ => true) true 38 v d ps)
    (hw : ∀ m ∈ d.weights Tryz.prog 38, m ≤ reachBytes) : ∃ (B : Nat) (ao : Option Addr) (cp : Nat) (l : List Lr), v = .slice ao l.length cp ∧ Rls W B ao l := by
  obtain ⟨fuel, hf⟩ := h
  have hv : v.cells.toList = [v] := by
    rcases okWide_slice Tryz.underlying38 hok with ⟨a, b, c, rfl⟩
    rfl
  rw [hv] at hf
  have hb16 : 8 ≤ Tryz.prog.bytesOf 28 := by rw [Tryz.bytesRec]; decide
  have hlen216 : ∀ (a : Addr) (len cap : Nat), v = .slice (some a) len cap → len ≤ cap → cap * 216 ≤ 140737488351232 := fun a len cap hv2 hle => by
    rcases open_slice Tryz.underlying38 hf with ⟨hcs, hx⟩ | ⟨a', len', cap', m, n', D, Pl, hcs, hb', hl, hm, hmm, hx, hit⟩
    · simp at hcs
      rw [hv2] at hcs
      cases hcs
    · simp at hcs hmm
      rw [hv2] at hcs
      cases hcs
      subst hmm
      have hx1 := congrArg Prod.fst hx
      simp only at hx1
      rw [hx1] at hw
      simp only [DataW.weights, Tryz.underlying38] at hw
      have hwb := hw ((((List.range len).map D).length + ((List.range (m - len)).map fun j => D (len + j)).length) * Tryz.prog.bytesOf 28) (by simp)
      simp only [List.length_map, List.length_range, Tryz.bytesRec] at hwb
      have hwr : reachBytes = 140737488351232 := by decide
      omega
  rcases slice_reach Tryz.underlying38 hf hw hb16 with rfl | ⟨a, len, cap, m, D, Pl, rfl, hl, hm, hc, hit, hwe⟩
  · exact ⟨0, none, 0, [], rfl, ⟨fun h => absurd h (by simp), (fun z hz => by cases hz), by simp⟩⟩
  · by_cases hl0 : len = 0
    · subst hl0
      exact ⟨0, some a, cap, [], rfl, ⟨fun h => absurd h (by simp), (fun z hz => by cases hz), by simp⟩⟩
    have hcap := hlen216 a len cap rfl hl
    have ha : a = ⟨a.block, a.off, none⟩ := by
      obtain ⟨cs', h1, h2⟩ := hit 0 (by omega)
      rw [Tryz.cellsRec] at h1
      obtain ⟨_, hlen, hcell⟩ := World.cells?_some h1
      have c0 := hcell 0 (by omega)
      rw [add_add, Nat.zero_mul, add0] at c0
      match cs', hlen with
      | v0 :: _, _ => exact cell_spot (v := v0) (by simpa using c0)
    have inh : Inhabited Lr := ⟨(Rc.none, Loc.none)⟩
    have one : ∀ i, i < len → ∃ z : Lr, W.rangeAt a.block (a.off + i * 16) (rcl z) ∧ RcAt W z.1 z.2 := fun i hi => by
      obtain ⟨cs', h1, h2⟩ := hit i (by omega)
      rw [Tryz.cellsRec] at h1
      obtain ⟨_, hlen, hcell⟩ := World.cells?_some h1
      match cs', hlen with
      | [v0, v1, v2, v3, v4, v5, v6, v7, v8, v9, v10, v11, v12, v13, v14, v15], _ =>
        obtain ⟨r, L, he, hat⟩ := rec_of_trod h2 (hwe i hi)
        refine ⟨(r, L), fun j u hu => ?_, hat⟩
        have hu' : [v0, v1, v2, v3, v4, v5, v6, v7, v8, v9, v10, v11, v12, v13, v14, v15][j]? = some u := by rw [he]; exact hu
        have hj : j < 16 := (List.getElem?_eq_some_iff.1 hu').1
        have cj := hcell j (by omega)
        rw [add_add, ha, add_at] at cj
        have e1 : a.off + i * 16 + j = a.off + (i * 16 + j) := by omega
        rw [e1]
        rw [← hu']
        simpa using cj
    obtain ⟨q, hq⟩ := choose_lt (n := len) one
    have hlen : ((List.range len).map q).length = len := by simp
    refine ⟨a.block, some a, cap, (List.range len).map q, by rw [hlen], ⟨fun h0 => ⟨a.off, by rw [← ha], fun j hj => ?_⟩, fun z hz => ?_, ?_⟩⟩
    · rw [hlen] at hj
      simpa using (hq j hj).1
    · obtain ⟨j, hj, rfl⟩ := List.mem_map.1 hz
      exact (hq j (List.mem_range.1 hj)).2
    · rw [hlen]
      have : len * 216 ≤ cap * 216 := Nat.mul_le_mul_right _ hl
      omega
end Go.Proofs.YtoeifeidbggbiaaGreatDoor
namespace Go.Proofs.YtoeifeidbggbiaaGreatDoor
open Go.RowKit

def encs (l : List Lr) : List UInt8 := (l.map fun z => z.1.enc).flatten
theorem encs_snoc (l : List Lr) (z : Lr) : encs (l ++ [z]) = encs l ++ z.1.enc := by simp [encs]
theorem encs_cons (l : List Lr) (z : Lr) : encs (z :: l) = z.1.enc ++ encs l := by simp [encs]
section
variable {ops : Array Oper} {rest : List Oper} {o : Oper} {a : Act} {w : World} {Q : Exit → Act → World → Prop}
theorem wpList_load_rc (hg : o.guard = none) (x : Operand) (hop : o.op = .load 28 x) (b off : Nat) (hx : a.eval x = .pointer (some ⟨b, off, none⟩)) (z : Lr) (hc : w.rangeAt b off (rcl z))
    (h : wpList Tryz.prog ops Q rest (a.put o.dst (.agg (z.1.cells z.2))) w) : wpList Tryz.prog ops Q (o :: rest) a w :=
  wpList_load_mid hg 28 x hop b off hx (rcl z) _ hc Tryz.underlying28 rfl Tryz.sizeRec h
end
set_option maxRecDepth 100000 in
set_option maxHeartbeats 6400000 in
theorem rrow_law (w : World) (B cp : Nat) (ao : Option Addr) (l : List Lr) (hR : Rls w B ao l) : Calls Tryz.prog 6 #[.slice ao l.length cp] w fun e w' => e = .returned (.bool true) ∧ Only (fun _ => False) w w' := by
  have hlen := hR.len
  have HR := hide hR
  clear hR
  go_enter Tryz.func6, Tryz.ntmps6
  go_wp2_with fail
  go_loopw [3, 4, 5] (fun t v y wr => ∃ (k : Nat) (acc : List Lr) (T : ByteArray), k ≤ l.length ∧ y = .int .i64 (k : Int) ∧ t = .string T ∧ acc.length ≤ k ∧ T.size ≤ 65543 * k ∧ Hid (bl T = encs acc) ∧ Hid (Ow wr w.heap.size v acc) ∧ Hid (∀ z ∈ acc, z ∈ l ∧ z.1.valid) ∧ Hid (Only (fun _ => False) w wr)) (fun _ _ y _ => l.length - (intOf y).toNat)
  case atStart => exact ⟨0, [], ⟨#[]⟩, by omega, rfl, rfl, by simp, by decide, rfl, Ow.nil _ _, (fun z hz => by cases hz), Only.refl _ _⟩
  case round =>
    obtain ⟨k, acc, T, hk, rfl, rfl, hak, hT, HT, HOw, HV, HO⟩ := hrel
    by_cases hlt : k < l.length
    · obtain ⟨o, e1, hc⟩ := (HR.out.more HO.out).at_ (by omega)
      subst e1
      have HRN := hide (hc k hlt)
      have HAT := hide ((HR.out.more HO.out).each l[k] (List.getElem_mem hlt))
      have HMEM : Hid (l[k] ∈ l) := List.getElem_mem hlt
      obtain ⟨z, hz⟩ : ∃ z, l[k] = z := ⟨_, rfl⟩
      rw [hz] at HRN HAT HMEM
      clear hc hz
      have hk1 : (k : Int) < (l.length : Int) := by omega
      go_upto_region 6 with fail
      go_wp2_with (refine wpList_load_rc rfl (.tmp 24) rfl B (o + k * 16) rfl z HRN.out ?_; go_frame)
      refine (rencode_any wr z.1 z.2 HAT.out).mono ?_
      rintro e w1 hq
      have HO1 := hide (o2 HO.out hq.only)
      have HOw1 := hide (HOw.out.more hq.only)
      have HRN1 := hide (range_go HRN.out hq.only (fun h => h))
      by_cases hv : z.1.valid
      · have he := hq.ok hv
        subst he
        obtain ⟨E, hE⟩ : ∃ E, str z.1.enc = E := ⟨_, rfl⟩
        have hbE : bl E = z.1.enc := by rw [← hE, bl_str]
        have sE : E.size ≤ 65543 := by rw [← bl_len, hbE, renc_len]; have := hv.len; omega
        rw [hE]
        obtain ⟨v', w2, hrun, how2, hon2⟩ := append_rec w1 38 w.heap.size u4 acc HOw1.out z (by omega) HO1.out.size
        have HRUN := hide hrun
        have HOW2 := hide how2
        have HO2 : Hid (Only (fun _ => False) w w2) := HO1.out.trans hon2 (fun i hi e => by omega)
        have hcat : ¬ (9223372036854775807 : Int) < (T.size : Int) + (E.size : Int) := by omega
        have HT2 : Hid (bl (T ++ E) = encs (acc ++ [z])) := by
          unfold Hid
          rw [encs_snoc, ← HT.out, ← hbE, ← str_bl T, ← str_bl E, str_cat, bl_str, bl_str, bl_str]
        have hs2 : (T ++ E).size ≤ 65543 * (k + 1) := by rw [ByteArray.size_append]; omega
        have HV2 : Hid (∀ x ∈ acc ++ [z], x ∈ l ∧ x.1.valid) := fun x hx => by
          rcases List.mem_append.1 hx with h1 | h1
          · exact HV.out x h1
          · simp at h1
            subst h1
            exact ⟨HMEM.out, hv⟩
        have ha2 : (acc ++ [z]).length ≤ k + 1 := by rw [List.length_append]; simp; omega
        clear hq hv hE hbE hrun how2 hon2
        go_upto_region 9 with fail
        go_wp2_with (first
          | (refine wpList_load_rc rfl (.tmp 37) rfl B (o + k * 16) rfl z HRN1.out ?_; go_frame)
          | (at_builtin; go_must (refine Lib.wpList_append_run _ rfl _ _ _ _ rfl _ _ rfl rfl _ _ HRUN.out ?_)))
        go_roundw
        case rel => exact ⟨k + 1, acc ++ [z], T ++ E, by omega, by go_num, rfl, ha2, hs2, HT2, HOW2, HV2, HO2⟩
        case measure => simp [intOf]; omega
      · obtain ⟨c, hc, _, rfl⟩ := hq.bad hv
        have hc' : (c == 0) = false := by simpa using hc
        clear hq hv hc
        go_wp2_with fail
        go_roundw
        case rel => exact ⟨k + 1, acc, T, by omega, by go_num, rfl, by omega, by omega, HT, HOw1, HV, HO1⟩
        case measure => simp [intOf]; omega
    · have hT' : T.size ≤ 65543 * l.length := by have : 65543 * k ≤ 65543 * l.length := Nat.mul_le_mul_left _ hk; omega
      have hal : acc.length ≤ l.length := by omega
      rcases HOw.out.form with ⟨rfl, rfl⟩ | ⟨g, cap, rfl, hg, hrg⟩
      · go_wp2_with fail
        go_loopw [3, 8] (fun t y w2 => ∃ (X : ByteArray), y = .int .i64 0 ∧ t = .string X ∧ Hid (bl X = encs []) ∧ Hid (Only (fun _ => False) wr w2)) (fun _ _ _ => 0)
        case atStart => exact ⟨T, rfl, rfl, HT, hide (Only.refl _ _)⟩
        case round =>
          obtain ⟨X, rfl, rfl, HX, HO2⟩ := hrel
          have HNIL : Hid (encs [] = []) := rfl
          have hz0 : X = ⟨#[]⟩ := by
            have h1 := HX.out
            rw [HNIL.out] at h1
            rw [← str_bl X, h1]
            rfl
          subst hz0
          go_wp2_with fail
          refine (rdecode_any wr ⟨#[]⟩ (by decide)).mono ?_
          rintro e w3 hq
          obtain ⟨q, n, c, L3, hd, hat3, rfl⟩ := hq.ex
          obtain ⟨rfl, rfl, rfl⟩ := hd.short (by show (0 : Nat) < 8; omega)
          have HNEW := hide (there_new w3 Rc.none Loc.none)
          have HOA := hide (onlyA w3 (.cells (Rc.none.cells Loc.none) 28))
          have HO3 := hide (o2 (o2 HO.out HO2.out) hq.only)
          clear hq hd hat3
          go_upto_region 18 with (refine wpList_lay_rec rfl (.tmp 12) (.tmp 80) rfl w3.heap.size rfl Rc.none L3 rfl HNEW.out ?_; intro W4 HW4; go_frame)
          have HO4 := hide (o2 HO3.out (HOA.out.trans HW4.out.only (fun i hi e => by omega)))
          go_wp2_with fail
          refine (rawake_any W4).mono ?_
          rintro e w5 ⟨rfl, ho5⟩
          have HO5 := hide (o2 HO4.out ho5)
          clear ho5
          go_wp2_with fail
          go_ret
          exact ⟨rfl, HO5.out⟩
      · have HRG := hide hrg
        clear hrg
        go_wp2_with fail
        go_loopw [3, 8] (fun t y w2 => ∃ (j : Nat) (X : ByteArray), j ≤ acc.length ∧ y = .int .i64 (j : Int) ∧ t = .string X ∧ X.size ≤ 65543 * l.length ∧ Hid (bl X = encs (acc.drop j)) ∧ Hid (Only (fun _ => False) wr w2)) (fun _ y _ => acc.length - (intOf y).toNat)
        case atStart => exact ⟨0, T, by omega, rfl, rfl, hT', HT, hide (Only.refl _ _)⟩
        case round =>
          obtain ⟨j, X, hj, rfl, rfl, hX, HX, HO2⟩ := hrel
          by_cases hj2 : j < acc.length
          · have HRZ := hide (range_go (HRG.out j hj2) HO2.out (fun h => h))
            have hmem := HV.out acc[j] (List.getElem_mem hj2)
            have hXz := HX.out
            rw [List.drop_eq_getElem_cons hj2, encs_cons] at hXz
            obtain ⟨z, hz⟩ : ∃ z, acc[j] = z := ⟨_, rfl⟩
            rw [hz] at HRZ hmem hXz
            have HAT := hide (((HR.out.more HO.out).each z hmem.1).go HO2.out)
            have HVZ := hide hmem.2
            obtain ⟨Ti, him⟩ := HAT.out.images
            have HLS := hide him.lsn
            obtain ⟨E, hE⟩ : ∃ E, str z.1.enc = E := ⟨_, rfl⟩
            have hbE : bl E = z.1.enc := by rw [← hE, bl_str]
            have hE0 : 1 ≤ E.size := by rw [← bl_len, hbE, renc_len]; omega
            have hEX : E.size ≤ X.size := by rw [← bl_len, ← bl_len, hXz, hbE, List.length_append]; omega
            have hEn : z.1.enc.length = E.size := by rw [← hbE, bl_len]
            have HXR : Hid (bl (X.extract E.size X.size) = encs (acc.drop (j + 1))) := by
              unfold Hid
              rw [ext_bl, List.take_of_length_le (Nat.le_of_eq (bl_len X)), hXz, ← hEn, List.drop_left]
            have HXZ := hide hXz
            have hXs : (X.extract E.size X.size).size ≤ 65543 * l.length := by rw [ByteArray.size_extract]; omega
            clear hz hmem him hE hbE hXz
            have hj1 : (j : Int) < (acc.length : Int) := by omega
            have hj0 : (0 : Int) ≤ (j : Int) := by omega
            go_wp2_with fail
            refine (rdecode_any wr X (by unfold maxLen; omega)).mono ?_
            rintro e w3 hq
            obtain ⟨q, n, c, L2, hd, hat2, rfl⟩ := hq.ex
            rw [HXZ.out] at hd
            obtain ⟨hqr, hn, hc⟩ := dec_back HVZ.out HLS.out hd
            subst hqr
            have hn2 : n = (E.size : Int) := by rw [hn, hEn]
            clear hn hd
            subst hn2 hc
            have HAT2 := hide hat2
            have HO3 := hide (o2 HO2.out hq.only)
            have HATZ := hide (HAT.out.go hq.only)
            have HRZ3 := hide (range_go HRZ.out hq.only (fun h => h))
            have HNEW := hide (there_new w3 Rc.none Loc.none)
            have HOA := hide (onlyA w3 (.cells (Rc.none.cells Loc.none) 28))
            clear hq hat2 hEn
            go_upto_region 14 with (refine wpList_lay_rec rfl (.tmp 9) (.tmp 50) rfl w3.heap.size rfl z.1 L2 rfl HNEW.out ?_; intro W4 HW4; go_frame)
            have HK4 : Hid (Only (fun _ => False) w3 W4) := HOA.out.trans HW4.out.only (fun i hi e => by omega)
            obtain ⟨b3, hb3⟩ : ∃ b3, w3.heap.size = b3 := ⟨_, rfl⟩
            have HR4 := hide HW4.out.range
            rw [hb3] at HR4 ⊢
            clear hb3
            have HO4 := hide (o2 HO3.out HK4.out)
            have HRZ4 := hide (range_go HRZ3.out HK4.out (fun h => h))
            have HCL : Hid (∀ W, Only (fun _ => False) W4 W → (fun W => W.rangeAt b3 0 (rcl (z.1, L2)) ∧ W.rangeAt g (j * 16) (rcl z)) W) := fun W hW => ⟨range_go HR4.out hW (fun h => h), range_go HRZ4.out hW (fun h => h)⟩
            have HSM : Hid (∀ W, Only (fun _ => False) W4 W → Calls Tryz.prog 11 #[.agg (z.1.cells L2), .agg (z.1.cells z.2)] W fun e w' => e = .returned (.bool true) ∧ Hid (Only (fun _ => False) W4 w')) := fun W hW => (rsame_any W z.1 z.1 L2 z.2 ((HAT2.out.go HK4.out).go hW) ((HATZ.out.go HK4.out).go hW)).mono fun e w' h => by
              obtain ⟨c, hc, hp⟩ := h.1.ex
              rw [hp.2 rfl] at hc
              exact ⟨hc, o2 hW h.2⟩
            have he1 : ¬ (E.size : Int) < 1 := by omega
            have he2 : ¬ (X.size : Int) < (E.size : Int) := by omega
            have he3 : (0 : Int) ≤ (E.size : Int) := by omega
            have he4 : (E.size : Int) ≤ (X.size : Int) := by omega
            refine wp_region_noPanic ?_
            refine wp_region_held_drew (S := fun W => W.rangeAt b3 0 (rcl (z.1, L2)) ∧ W.rangeAt g (j * 16) (rcl z)) (by kernel_rfl) (HCL.out _ (Only.drew _ _)) (fun hHeld => ?_)
            refine wpAnyH_take (i := 0) (oi := { dst := some 53, op := Op.move (Operand.tmp 11), type := 29, pos := "law.go:100", after := #[], guard := none }) (v := .int .i64 0) rfl (by kernel_rfl) (by kernel_rfl) (by kernel_rfl) (fun _ _ _ h => h) (Or.inl ⟨by rfl, fun w' hSw => by clear hSw; go_simp⟩) (by assumption) ?_
            simp only [Act.put, List.setIfInBounds_toArray, List.set_cons_zero, List.set_cons_succ]
            refine wpAnyH_take (i := 1) (oi := { dst := some 54, op := Op.binOp BinOp.neq 29 (Operand.tmp 53) (Operand.const (Value.int IntKind.i64 0)) 29, type := 4, pos := "law.go:100", after := #[{ on := 0, ground := Ground.data }], guard := none }) (v := .bool false) rfl (by kernel_rfl) (by kernel_rfl) (by kernel_rfl) (fun _ _ _ h => h) (Or.inl ⟨by rfl, fun w' hSw => by clear hSw; go_simp⟩) (by assumption) ?_
            simp only [Act.put, List.setIfInBounds_toArray, List.set_cons_zero, List.set_cons_succ]
            refine wpAnyH_take (i := 2) (oi := { dst := some 55, op := Op.move (Operand.tmp 54), type := 4, pos := "law.go:100", after := #[{ on := 1, ground := Ground.data }], guard := none }) (v := .bool false) rfl (by kernel_rfl) (by kernel_rfl) (by kernel_rfl) (fun _ _ _ h => h) (Or.inl ⟨by rfl, fun w' hSw => by clear hSw; go_simp⟩) (by assumption) ?_
            simp only [Act.put, List.setIfInBounds_toArray, List.set_cons_zero, List.set_cons_succ]
            refine wpAnyH_take (i := 3) (oi := { dst := some 56, op := Op.move (Operand.tmp 10), type := 3, pos := "law.go:100", after := #[{ on := 2, ground := Ground.guard }], guard := some (2, false) }) (v := .int .i64 (E.size : Int)) rfl (by kernel_rfl) (by kernel_rfl) (by kernel_rfl) (fun _ _ _ h => h) (Or.inl ⟨by rfl, fun w' hSw => by clear hSw; go_simp⟩) (by assumption) ?_
            simp only [Act.put, List.setIfInBounds_toArray, List.set_cons_zero, List.set_cons_succ]
            refine wpAnyH_take (i := 4) (oi := { dst := some 57, op := Op.binOp BinOp.lss 3 (Operand.tmp 56) (Operand.const (Value.int IntKind.i64 1)) 3, type := 4, pos := "law.go:100", after := #[{ on := 3, ground := Ground.data }, { on := 2, ground := Ground.guard }], guard := some (2, false) }) (v := .bool false) rfl (by kernel_rfl) (by kernel_rfl) (by kernel_rfl) (fun _ _ _ h => h) (Or.inl ⟨by rfl, fun w' hSw => by clear hSw; go_simp⟩) (by assumption) ?_
            simp only [Act.put, List.setIfInBounds_toArray, List.set_cons_zero, List.set_cons_succ]
            refine wpAnyH_take (i := 5) (oi := { dst := some 58, op := Op.pick (Operand.tmp 55) (Operand.const (Value.bool true)) (Operand.tmp 57), type := 4, pos := "law.go:100", after := #[{ on := 2, ground := Ground.data }, { on := 4, ground := Ground.data }], guard := none }) (v := .bool false) rfl (by kernel_rfl) (by kernel_rfl) (by kernel_rfl) (fun _ _ _ h => h) (Or.inl ⟨by rfl, fun w' hSw => by clear hSw; go_simp⟩) (by assumption) ?_
            simp only [Act.put, List.setIfInBounds_toArray, List.set_cons_zero, List.set_cons_succ]
            refine wpAnyH_take (i := 6) (oi := { dst := some 59, op := Op.move (Operand.tmp 58), type := 4, pos := "law.go:100", after := #[{ on := 5, ground := Ground.data }, { on := 2, ground := Ground.chain }], guard := none }) (v := .bool false) rfl (by kernel_rfl) (by kernel_rfl) (by kernel_rfl) (fun _ _ _ h => h) (Or.inl ⟨by rfl, fun w' hSw => by clear hSw; go_simp⟩) (by assumption) ?_
            simp only [Act.put, List.setIfInBounds_toArray, List.set_cons_zero, List.set_cons_succ]
            refine wpAnyH_take (i := 7) (oi := { dst := some 60, op := Op.move (Operand.tmp 10), type := 3, pos := "law.go:100", after := #[{ on := 6, ground := Ground.guard }], guard := some (6, false) }) (v := .int .i64 (E.size : Int)) rfl (by kernel_rfl) (by kernel_rfl) (by kernel_rfl) (fun _ _ _ h => h) (Or.inl ⟨by rfl, fun w' hSw => by clear hSw; go_simp⟩) (by assumption) ?_
            simp only [Act.put, List.setIfInBounds_toArray, List.set_cons_zero, List.set_cons_succ]
            refine wpAnyH_take (i := 8) (oi := { dst := some 61, op := Op.move (Operand.tmp 3), type := 9, pos := "law.go:100", after := #[{ on := 6, ground := Ground.guard }], guard := some (6, false) }) (v := .string X) rfl (by kernel_rfl) (by kernel_rfl) (by kernel_rfl) (fun _ _ _ h => h) (Or.inl ⟨by rfl, fun w' hSw => by clear hSw; go_simp⟩) (by assumption) ?_
            simp only [Act.put, List.setIfInBounds_toArray, List.set_cons_zero, List.set_cons_succ]
            refine wpAnyH_take (i := 9) (oi := { dst := some 62, op := Op.call { callee := Callee.builtin Builtin.len, args := #[Operand.tmp 61], argTypes := #[9] }, type := 3, pos := "law.go:100", after := #[{ on := 8, ground := Ground.data }, { on := 6, ground := Ground.guard }], guard := some (6, false) }) (v := .int .i64 (X.size : Int)) rfl (by kernel_rfl) (by kernel_rfl) (by kernel_rfl) (fun _ _ _ h => h) (Or.inl ⟨by rfl, fun w' hSw => by clear hSw; go_simp⟩) (by assumption) ?_
            simp only [Act.put, List.setIfInBounds_toArray, List.set_cons_zero, List.set_cons_succ]
            refine wpAnyH_take (i := 10) (oi := { dst := some 63, op := Op.binOp BinOp.gtr 3 (Operand.tmp 60) (Operand.tmp 62) 3, type := 4, pos := "law.go:100", after := #[{ on := 7, ground := Ground.data }, { on := 9, ground := Ground.data }, { on := 6, ground := Ground.guard }], guard := some (6, false) }) (v := .bool false) rfl (by kernel_rfl) (by kernel_rfl) (by kernel_rfl) (fun _ _ _ h => h) (Or.inl ⟨by rfl, fun w' hSw => by clear hSw; go_simp⟩) (by assumption) ?_
            simp only [Act.put, List.setIfInBounds_toArray, List.set_cons_zero, List.set_cons_succ]
            refine wpAnyH_take (i := 11) (oi := { dst := some 64, op := Op.pick (Operand.tmp 59) (Operand.const (Value.bool true)) (Operand.tmp 63), type := 4, pos := "law.go:100", after := #[{ on := 6, ground := Ground.data }, { on := 10, ground := Ground.data }], guard := none }) (v := .bool false) rfl (by kernel_rfl) (by kernel_rfl) (by kernel_rfl) (fun _ _ _ h => h) (Or.inl ⟨by rfl, fun w' hSw => by clear hSw; go_simp⟩) (by assumption) ?_
            simp only [Act.put, List.setIfInBounds_toArray, List.set_cons_zero, List.set_cons_succ]
            refine wpAnyH_take (i := 12) (oi := { dst := some 65, op := Op.move (Operand.tmp 64), type := 4, pos := "law.go:100", after := #[{ on := 11, ground := Ground.data }, { on := 6, ground := Ground.chain }], guard := none }) (v := .bool false) rfl (by kernel_rfl) (by kernel_rfl) (by kernel_rfl) (fun _ _ _ h => h) (Or.inl ⟨by rfl, fun w' hSw => by clear hSw; go_simp⟩) (by assumption) ?_
            simp only [Act.put, List.setIfInBounds_toArray, List.set_cons_zero, List.set_cons_succ]
            refine wpAnyH_take (i := 13) (oi := { dst := some 66, op := Op.load 28 (Operand.tmp 9), type := 28, pos := "law.go:100", after := #[{ on := 12, ground := Ground.guard }], guard := some (12, false) }) (v := .agg (rcl (z.1, L2)).toArray) rfl (by kernel_rfl) (by kernel_rfl) (by kernel_rfl) (fun _ _ _ h => h) (yieldsIf_load_mid (by rfl) 28 _ rfl _ _ rfl (rcl (z.1, L2)) _ (fun w h => h.1) Tryz.underlying28 rfl Tryz.sizeRec) (by assumption) ?_
            simp only [Act.put, List.setIfInBounds_toArray, List.set_cons_zero, List.set_cons_succ]
            refine wpAnyH_take (i := 14) (oi := { dst := some 67, op := Op.move (Operand.tmp 4), type := 38, pos := "law.go:100", after := #[{ on := 12, ground := Ground.guard }], guard := some (12, false) }) (v := .slice (some ⟨g, 0, none⟩) acc.length cap) rfl (by kernel_rfl) (by kernel_rfl) (by kernel_rfl) (fun _ _ _ h => h) (Or.inl ⟨by rfl, fun w' hSw => by clear hSw; go_simp⟩) (by assumption) ?_
            simp only [Act.put, List.setIfInBounds_toArray, List.set_cons_zero, List.set_cons_succ]
            refine wpAnyH_take (i := 15) (oi := { dst := some 68, op := Op.move (Operand.tmp 8), type := 3, pos := "law.go:100", after := #[{ on := 12, ground := Ground.guard }], guard := some (12, false) }) (v := .int .i64 (j : Int)) rfl (by kernel_rfl) (by kernel_rfl) (by kernel_rfl) (fun _ _ _ h => h) (Or.inl ⟨by rfl, fun w' hSw => by clear hSw; go_simp⟩) (by assumption) ?_
            simp only [Act.put, List.setIfInBounds_toArray, List.set_cons_zero, List.set_cons_succ]
            refine wpAnyH_take (i := 16) (oi := { dst := some 69, op := Op.indexAddr 38 (Operand.tmp 67) (Operand.tmp 68), type := 0, pos := "law.go:100", after := #[{ on := 14, ground := Ground.data }, { on := 15, ground := Ground.data }, { on := 12, ground := Ground.guard }], guard := some (12, false) }) (v := .pointer (some ⟨g, j * 16, none⟩)) rfl (by kernel_rfl) (by kernel_rfl) (by kernel_rfl) (fun _ _ _ h => h) (Or.inl ⟨by rfl, fun w' hSw => by clear hSw; go_simp⟩) (by assumption) ?_
            simp only [Act.put, List.setIfInBounds_toArray, List.set_cons_zero, List.set_cons_succ]
            refine wpAnyH_take (i := 17) (oi := { dst := some 70, op := Op.load 28 (Operand.tmp 69), type := 28, pos := "law.go:100", after := #[{ on := 16, ground := Ground.data }, { on := 12, ground := Ground.guard }], guard := some (12, false) }) (v := .agg (rcl z).toArray) rfl (by kernel_rfl) (by kernel_rfl) (by kernel_rfl) (fun _ _ _ h => h) (yieldsIf_load_mid (by rfl) 28 _ rfl _ _ rfl (rcl z) _ (fun w h => h.2) Tryz.underlying28 rfl Tryz.sizeRec) (by assumption) ?_
            simp only [Act.put, List.setIfInBounds_toArray, List.set_cons_zero, List.set_cons_succ]
            refine wpAnyH_ready (rs := [18]) (by kernel_rfl) (by simp) ?_
            refine AllReadyH.cons (o := { dst := some 71, op := Op.call { callee := Callee.value (Operand.func 11), args := #[Operand.tmp 66, Operand.tmp 70], argTypes := #[28, 28] }, type := 4, pos := "law.go:100", after := #[{ on := 13, ground := Ground.data }, { on := 17, ground := Ground.data }, { on := 12, ground := Ground.chain }, { on := 12, ground := Ground.guard }], guard := some (12, false) }) rfl (fun K hK => ?_) AllReadyH.nil
            go_simp
            refine (HSM.out _ (Only.drew _ _)).mono ?_
            rintro e x1 ⟨rfl, HX1⟩
            refine hK.out _ _ (HCL.out _ HX1.out) (fun hHeld => ?_)
            clear hK K
            try simp only [Act.put, List.setIfInBounds_toArray, List.set_cons_zero, List.set_cons_succ]
            refine wpAnyH_take (i := 19) (oi := { dst := some 72, op := Op.unOp UnOp.not 4 (Operand.tmp 71), type := 4, pos := "law.go:100", after := #[{ on := 18, ground := Ground.data }, { on := 12, ground := Ground.guard }], guard := some (12, false) }) (v := .bool false) rfl (by kernel_rfl) (by kernel_rfl) (by kernel_rfl) (fun _ _ _ h => h) (Or.inl ⟨by rfl, fun w' hSw => by clear hSw; go_simp⟩) (by assumption) ?_
            simp only [Act.put, List.setIfInBounds_toArray, List.set_cons_zero, List.set_cons_succ]
            refine wpAnyH_take (i := 20) (oi := { dst := some 73, op := Op.pick (Operand.tmp 65) (Operand.const (Value.bool true)) (Operand.tmp 72), type := 4, pos := "law.go:100", after := #[{ on := 12, ground := Ground.data }, { on := 19, ground := Ground.data }], guard := none }) (v := .bool false) rfl (by kernel_rfl) (by kernel_rfl) (by kernel_rfl) (fun _ _ _ h => h) (Or.inl ⟨by rfl, fun w' hSw => by clear hSw; go_simp⟩) (by assumption) ?_
            simp only [Act.put, List.setIfInBounds_toArray, List.set_cons_zero, List.set_cons_succ]
            refine wpAnyH_done (by kernel_rfl) ?_ _
            refine NoPanic.normal ?_
            rw [Exit.then]
            clear hHeld
            go_wp2_with fail
            go_roundw
            case rel => exact ⟨j + 1, X.extract E.size X.size, by omega, by go_num, rfl, hXs, HXR, hide (o2 HO4.out HX1.out)⟩
            case measure => simp [intOf]; omega
          · have HNIL : Hid (encs (acc.drop j) = []) := by unfold Hid; rw [List.drop_eq_nil_of_le (by omega)]; rfl
            have hz0 : X = ⟨#[]⟩ := by
              have h1 := HX.out
              rw [HNIL.out] at h1
              rw [← str_bl X, h1]
              rfl
            subst hz0
            go_wp2_with fail
            refine (rdecode_any wr ⟨#[]⟩ (by decide)).mono ?_
            rintro e w3 hq
            obtain ⟨q, n, c, L3, hd, hat3, rfl⟩ := hq.ex
            obtain ⟨rfl, rfl, rfl⟩ := hd.short (by show (0 : Nat) < 8; omega)
            have HNEW := hide (there_new w3 Rc.none Loc.none)
            have HOA := hide (onlyA w3 (.cells (Rc.none.cells Loc.none) 28))
            have HO3 := hide (o2 (o2 HO.out HO2.out) hq.only)
            clear hq hd hat3
            go_upto_region 18 with (refine wpList_lay_rec rfl (.tmp 12) (.tmp 80) rfl w3.heap.size rfl Rc.none L3 rfl HNEW.out ?_; intro W4 HW4; go_frame)
            have HO4 := hide (o2 HO3.out (HOA.out.trans HW4.out.only (fun i hi e => by omega)))
            go_wp2_with fail
            refine (rawake_any W4).mono ?_
            rintro e w5 ⟨rfl, ho5⟩
            have HO5 := hide (o2 HO4.out ho5)
            clear ho5
            go_wp2_with fail
            go_ret
            exact ⟨rfl, HO5.out⟩
end Go.Proofs.YtoeifeidbggbiaaGreatDoor
