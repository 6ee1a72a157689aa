/- Parts. -/
import Derived.Test.YtpnbhddmdfcjdaaGreatK42
set_option maxRecDepth 100000
namespace Go.Proofs.YtpnbhddmdfcjdaaGreat
open Go.RowKit
theorem irw_src {w : World} {base cp : Nat} {ao : Option Addr} {L : List Int} (h : IRw w base (.slice ao L.length cp) L) : GSrc EIi w ao L.length L := by
  rcases h.head with ⟨rfl, rfl, rfl⟩ | ⟨g, rfl, _, _, _, _, _, hc⟩
  · exact ⟨rfl, .inl ⟨rfl, rfl⟩⟩
  · refine ⟨rfl, .inr ⟨_, rfl, fun j u hu => ?_⟩⟩
    rw [add_at, Nat.zero_add]
    exact hc j u hu
theorem irw_app {w : World} {base : Nat} {v : Value} {L N : List Int} {ao : Option Addr} {m : Nat} (h : IRw w base v L) (hs : GSrc EIi w ao m N) (hn : L.length + m ≤ 4398046511104) (hb : base ≤ w.heap.size) (tr : TypeId) (c : Nat) :
    ∃ v' w', (Builtin.append_ #[25, 25] tr #[v, .slice ao m c]).run Tryz.prog w = .ok v' w' ∧ IRw w' base v' (L ++ N) ∧ Only (fun i => some i = v.ownBlock) w w' ∧ (v'.ownBlock = v.ownBlock ∨ v'.ownBlock = some w.heap.size) := by
  obtain ⟨v', w', h1, h2, h3, h4⟩ := grow_append Tryz.underlying25 Tryz.infoIntI rfl h hs (by omega) (by unfold maxLen; omega) hb tr c
  exact ⟨v', w', h1, h2, Only.grown h3 (fun k hk => hk.symm), h4⟩
theorem run_build_rk (w : World) (k : Int) (p : Int) : (Instr.build 47 #[(3, .int .u8 k), (5, .int .i64 p)]).run Tryz.prog w = .ok (.agg (Rc.cells ⟨0, 0, 0, k, 0, p, 0, 0, 0, 0, ⟨#[]⟩, [], [], [], [], []⟩ nlL)) w := run_build w 47 _ _ (by kernel_rfl)
section
variable {ops : Array Oper} {rest : List Oper} {o : Oper} {a : Act} {w : World} {Q : Exit → Act → World → Prop}
theorem wpList_build_rk (k : Int) (hg : o.guard = none) (a5 : Operand) (hop : o.op = .build 47 #[(3, .const (.int .u8 k)), (5, a5)]) (p : Int) (h5 : a.eval a5 = .int .i64 p)
    (h : wpList Tryz.prog ops Q rest (a.put o.dst (.agg (Rc.cells ⟨0, 0, 0, k, 0, p, 0, 0, 0, 0, ⟨#[]⟩, [], [], [], [], []⟩ nlL))) w) : wpList Tryz.prog ops Q (o :: rest) a w := by
  refine wpList_plain hg fun K hK => ?_
  unfold Oper.wp execOp
  have e : (#[(3, Operand.const (.int .u8 k)), (5, a5)] : Array (Nat × Operand)).map (fun x => (x.1, a.eval x.2)) = #[(3, .int .u8 k), (5, .int .i64 p)] := by
    simp only [List.map_toArray, List.map_cons, List.map_nil, h5]
    rfl
  simp only [hop, e, Sem.run_bind, Sem.run_pure, Result.andThen_ok, run_build_rk]
  exact hK _ _ h
end
set_option maxRecDepth 100000 in
set_option maxHeartbeats 3200000 in
theorem rfreeze_no (w : World) (pg : Int) (a0 a1 a2 : Option Addr) (c0 c1 n2 c2 : Nat) :
    Calls Tryz.prog 11 #[.int .i64 pg, .agg #[.slice a0 0 c0, .slice a1 0 c1, .slice a2 n2 c2]] w fun e w' => e = .returned (.tuple #[.agg (Rc.none.cells nlL), .bool false]) ∧ Only (fun _ => False) w w' := by
  have HN := hide (frz_new w (.slice a0 0 c0) (.slice a1 0 c1) (.slice a2 n2 c2))
  go_enter Tryz.func11, Tryz.ntmps11
  go_upto_region 1 with fail
  rw [frz_cells]
  obtain ⟨W0, hW0⟩ : ∃ x, (w.alloc (.cells #[.slice a0 0 c0, .slice a1 0 c1, .slice a2 n2 c2] 39)).alloc (.cells (Rc.none.cells nlL) 47) = x := ⟨_, rfl⟩
  rw [hW0] at HN ⊢
  clear hW0
  obtain ⟨b4, hb4⟩ : ∃ b, w.heap.size + 1 = b := ⟨_, rfl⟩
  have HBK := hide hb4
  rw [hb4] at HN ⊢
  clear hb4
  obtain ⟨x0, x1, x2, _, _, _, _⟩ := HN.out.1
  have HRB := hide HN.out.2.1
  go_wp2_with (first
    | (refine wpList_build_r0 rfl rfl ?_; go_frame)
    | (refine wpList_put_rc rfl (.tmp 4) (.tmp 17) rfl b4 rfl Rc.none Rc.none nlL nlL rfl HRB.out (fun W HS => ?_); go_frame))
  refine bodyPost_ret (results_rcI rfl rfl HS.out.1) rfl ?_
  have hbk := HBK.out
  exact ⟨rfl, HN.out.2.2.trans HS.out.2 (fun i hi e => by omega)⟩
set_option maxRecDepth 100000 in
set_option maxHeartbeats 3200000 in
theorem rclean_no (w : World) (pg : Int) (a0 a1 a2 : Option Addr) (n0 c0 n1 c1 c2 : Nat) :
    Calls Tryz.prog 13 #[.int .i64 pg, .agg #[.slice a0 n0 c0, .slice a1 n1 c1, .slice a2 0 c2]] w fun e w' => e = .returned (.tuple #[.agg (Rc.none.cells nlL), .bool false]) ∧ Only (fun _ => False) w w' := by
  have HN := hide (frz_new w (.slice a0 n0 c0) (.slice a1 n1 c1) (.slice a2 0 c2))
  go_enter Tryz.func13, Tryz.ntmps13
  go_upto_region 1 with fail
  rw [frz_cells]
  obtain ⟨W0, hW0⟩ : ∃ x, (w.alloc (.cells #[.slice a0 n0 c0, .slice a1 n1 c1, .slice a2 0 c2] 39)).alloc (.cells (Rc.none.cells nlL) 47) = x := ⟨_, rfl⟩
  rw [hW0] at HN ⊢
  clear hW0
  obtain ⟨b4, hb4⟩ : ∃ b, w.heap.size + 1 = b := ⟨_, rfl⟩
  have HBK := hide hb4
  rw [hb4] at HN ⊢
  clear hb4
  obtain ⟨x0, x1, x2, _, _, _, _⟩ := HN.out.1
  have HRB := hide HN.out.2.1
  go_wp2_with (first
    | (refine wpList_build_r0 rfl rfl ?_; go_frame)
    | (refine wpList_put_rc rfl (.tmp 4) (.tmp 15) rfl b4 rfl Rc.none Rc.none nlL nlL rfl HRB.out (fun W HS => ?_); go_frame))
  refine bodyPost_ret (results_rcI rfl rfl HS.out.1) rfl ?_
  have hbk := HBK.out
  exact ⟨rfl, HN.out.2.2.trans HS.out.2 (fun i hi e => by omega)⟩
/-- A record's list of slots, or of more, set. -/
def lcF (a0 a1 : Option Addr) (c0 c1 : Nat) (B0 B1 : Nat) : Loc := ⟨a0, a1, Option.none, Option.none, Option.none, c0, c1, 0, 0, 0, B0, B1, 0, 0, 0⟩
theorem Rb.slots {w : World} {b : Nat} {k pg : Int} {L M N : List Int} {a0 a1 x : Option Addr} {c0 c1 y B0 B1 B : Nat} (h : Rb w b ⟨0, 0, 0, k, 0, pg, 0, 0, 0, 0, ⟨#[]⟩, L, M, [], [], []⟩ (lcF a0 a1 c0 c1 B0 B1)) : Rb (w.setCell ⟨b, 11, none⟩ (.slice x N.length y)) b ⟨0, 0, 0, k, 0, pg, 0, 0, 0, 0, ⟨#[]⟩, N, M, [], [], []⟩ (lcF x a1 y c1 B B1) := h.one 11 _ (by omega) rfl
theorem Rb.mores {w : World} {b : Nat} {k pg : Int} {L M N : List Int} {a0 a1 x : Option Addr} {c0 c1 y B0 B1 B : Nat} (h : Rb w b ⟨0, 0, 0, k, 0, pg, 0, 0, 0, 0, ⟨#[]⟩, L, M, [], [], []⟩ (lcF a0 a1 c0 c1 B0 B1)) : Rb (w.setCell ⟨b, 12, none⟩ (.slice x N.length y)) b ⟨0, 0, 0, k, 0, pg, 0, 0, 0, 0, ⟨#[]⟩, L, N, [], [], []⟩ (lcF a0 x c0 y B0 B) := h.one 12 _ (by omega) rfl
theorem Rb.zero (w : World) : Rb (w.alloc (.cells #[.int .i64 0, .int .i64 0, .int .i64 0, .int .u8 0, .int .i64 0, .int .i64 0, .int .i64 0, .int .i64 0, .int .i64 0, .int .i64 0, .string ⟨#[]⟩, .slice none 0 0, .slice none 0 0, .slice none 0 0, .slice none 0 0, .slice none 0 0] 47)) w.heap.size Rc.none nlL := Rb.new w Rc.none nlL
set_option maxRecDepth 100000 in
set_option maxHeartbeats 6400000 in
theorem rfreeze_yes (w : World) (pg : Int) (base : Nat) (a0 a1 a2 : Option Addr) (c0 c1 n2 c2 : Nat) (K : Wk) (h0 : IRw w base (.slice a0 K.fr.length c0) K.fr) (h1 : IRw w base (.slice a1 K.of.length c1) K.of) (l0 : K.fr.length ≤ 2199023255552) (l1 : K.of.length ≤ 2199023255552) (hne : ¬ (K.fr = [] ∧ K.of = [])) :
    Calls Tryz.prog 11 #[.int .i64 pg, .agg #[.slice a0 K.fr.length c0, .slice a1 K.of.length c1, .slice a2 n2 c2]] w fun e w' => ∃ L, e = .returned (.tuple #[.agg ((frR pg K).cells L), .bool true]) ∧ RcAt w' (frR pg K) L ∧ Only (fun _ => False) w w' := by
  have HN := hide (frz_new w (.slice a0 K.fr.length c0) (.slice a1 K.of.length c1) (.slice a2 n2 c2))
  have HH0 := hide h0
  have HH1 := hide h1
  have HL0 := hide l0
  have HL1 := hide l1
  have hz : ¬ (K.fr.length = 0 ∧ K.of.length = 0) := fun q => hne ⟨List.eq_nil_of_length_eq_zero q.1, List.eq_nil_of_length_eq_zero q.2⟩
  obtain ⟨m0, hm0⟩ : ∃ k, K.fr.length = k := ⟨_, rfl⟩
  obtain ⟨m1, hm1⟩ : ∃ k, K.of.length = k := ⟨_, rfl⟩
  have HM0 := hide hm0
  have HM1 := hide hm1
  rw [hm0, hm1] at HN hz ⊢
  clear h0 h1 l0 l1 hne hm0 hm1
  go_enter Tryz.func11, Tryz.ntmps11
  go_upto_region 1 with fail
  rw [frz_cells]
  obtain ⟨W0, hW0⟩ : ∃ x, (w.alloc (.cells #[.slice a0 m0 c0, .slice a1 m1 c1, .slice a2 n2 c2] 39)).alloc (.cells (Rc.none.cells nlL) 47) = x := ⟨_, rfl⟩
  rw [hW0] at HN ⊢
  clear hW0
  obtain ⟨b4, hb4⟩ : ∃ b, w.heap.size + 1 = b := ⟨_, rfl⟩
  rw [hb4] at HN ⊢
  obtain ⟨b3, hb3⟩ : ∃ b, w.heap.size = b := ⟨_, rfl⟩
  rw [hb3] at HN ⊢
  have HBK : Hid (b3 = w.heap.size ∧ b4 = w.heap.size + 1) := ⟨hb3.symm, hb4.symm⟩
  clear hb3 hb4
  have HWB := hide HN.out.1
  have HRB := hide HN.out.2.1
  have HO0 := hide HN.out.2.2
  have HC0 := hide (HH0.out.more HO0.out)
  have HC1 := hide (HH1.out.more HO0.out)
  clear HN
  obtain ⟨z0, z1, z2, _, _, _, _⟩ := HWB.out
  have HBD : Hid (((m0 : Int) == 0) = true → ((m1 : Int) == 0) = false) := fun e => by
    have e0 : m0 = 0 := by simpa using e
    have : ¬ m1 = 0 := fun e1 => hz ⟨e0, e1⟩
    simpa using this
  have HZN := hide (Rb.zero W0)
  have HZA : Hid (Only (fun _ => False) W0 (W0.alloc (.cells #[.int .i64 0, .int .i64 0, .int .i64 0, .int .u8 0, .int .i64 0, .int .i64 0, .int .i64 0, .int .i64 0, .int .i64 0, .int .i64 0, .string ⟨#[]⟩, .slice none 0 0, .slice none 0 0, .slice none 0 0, .slice none 0 0, .slice none 0 0] 47))) := onlyA _ _
  clear hz
  cases hb : ((m0 : Int) == 0) with
  | true =>
    have hb1 := HBD.out hb
    go_upto_region 4 with (first
      | (refine wpList_build_rk 10 rfl (.tmp 18) rfl pg rfl ?_; go_frame)
      | (refine wpList_put_rc rfl (.tmp 6) (.tmp 19) rfl W0.heap.size rfl Rc.none ⟨0, 0, 0, 10, 0, pg, 0, 0, 0, 0, ⟨#[]⟩, [], [], [], [], []⟩ nlL (lcF Option.none Option.none 0 0 0 0) rfl HZN.out (fun y1 HS => ?_); go_frame))
    clear z0 z1 z2
    have HA1 : Hid (Only (fun _ => False) W0 y1) := HZA.out.trans HS.out.2 (fun i hi e => by omega)
    have HR1 := hide HS.out.1
    have HB6L : Hid (b4 < W0.heap.size) := HRB.out.lt
    clear HS
    obtain ⟨b6, hb6⟩ : ∃ b, W0.heap.size = b := ⟨_, rfl⟩
    have HB6 := hide hb6
    rw [hb6] at HR1 HB6L ⊢
    clear hb6
    have HW1 := hide (HWB.out.more HA1.out)
    have HSRC0 : Hid (GSrc EIi y1 a0 m0 K.fr) := by
      have h := irw_src (HC0.out.more HA1.out)
      rw [HM0.out] at h
      exact h
    obtain ⟨v5, w5, hr5, hg5, ho5, hob5⟩ := irw_app (GRow.nil y1 y1.heap.size) HSRC0.out (by have := HL0.out; have := HM0.out; simp only [List.length_nil]; omega) (Nat.le_refl _) 25 c0
    obtain ⟨a5, c5, rfl⟩ := hg5.form
    simp only [List.nil_append] at hr5 hg5 ho5 hob5
    rw [HM0.out] at hr5
    have HR5 := hide hr5
    have HG5 := hide hg5
    have HO5 : Hid (Only (fun _ => False) y1 w5) := ho5.mono (fun i hi e => by cases e)
    clear hr5 hg5 ho5 hob5
    have HQ1 := hide (HR1.out.more HO5.out)
    have e11 := HR1.out.cell 11 _ rfl
    have f11 := HQ1.out.cell 11 _ rfl
    have g11 := HQ1.out.frozen 11 (by omega)
    obtain ⟨z0, z1, z2, _, _, _, _⟩ := HW1.out
    go_upto_region 5 with (at_builtin; go_must (refine Lib.wpList_append_run _ rfl _ _ _ _ rfl _ _ rfl rfl _ _ HR5.out ?_))
    clear e11 f11 g11 z0 z1 z2
    have HS5 : Hid (Rb (w5.setCell ⟨b6, 11, none⟩ (.slice a5 m0 c5)) b6 ⟨0, 0, 0, 10, 0, pg, 0, 0, 0, 0, ⟨#[]⟩, K.fr, [], [], [], []⟩ (lcF a5 Option.none c5 0 0 0)) := by
      have h := HQ1.out.slots (N := K.fr) (x := a5) (y := c5) (B := 0)
      rw [HM0.out] at h
      exact h
    have HC5 := hide (Only.setCell (S := fun k => k = b6) w5 ⟨b6, 11, none⟩ (.slice a5 m0 c5) rfl)
    obtain ⟨y2, hy2⟩ : ∃ x, w5.setCell ⟨b6, 11, none⟩ (.slice a5 m0 c5) = x := ⟨_, rfl⟩
    rw [hy2] at HS5 HC5 ⊢
    clear hy2
    have HA2 : Hid (Only (fun _ => False) W0 y2) := (o2 HA1.out HO5.out).trans HC5.out (fun i hi e => by have := HB6.out; omega)
    have HLT6 : Hid (b6 < y1.heap.size) := HR1.out.lt
    have HG5b : Hid (IRw y2 y1.heap.size (.slice a5 K.fr.length c5) K.fr) := HG5.out.kept HC5.out (fun k hk e => by have e2 : k = b6 := e; have := (HG5.out.low k hk).1; have := HLT6.out; omega)
    have HW2 := hide (HWB.out.more HA2.out)
    have HSRC1 : Hid (GSrc EIi y2 a1 m1 K.of) := by
      have h := irw_src (HC1.out.more HA2.out)
      rw [HM1.out] at h
      exact h
    obtain ⟨v6, w6, hr6, hg6, ho6, hob6⟩ := irw_app (GRow.nil y2 y2.heap.size) HSRC1.out (by have := HL1.out; have := HM1.out; simp only [List.length_nil]; omega) (Nat.le_refl _) 25 c1
    obtain ⟨a6, c6, rfl⟩ := hg6.form
    simp only [List.nil_append] at hr6 hg6 ho6 hob6
    rw [HM1.out] at hr6
    have HR6 := hide hr6
    have HG6 := hide hg6
    have HO6 : Hid (Only (fun _ => False) y2 w6) := ho6.mono (fun i hi e => by cases e)
    clear hr6 hg6 ho6 hob6
    have HQ2 := hide (HS5.out.more HO6.out)
    have e12 := HS5.out.cell 12 _ rfl
    have f12 := HQ2.out.cell 12 _ rfl
    have g12 := HQ2.out.frozen 12 (by omega)
    obtain ⟨z0, z1, z2, _, _, _, _⟩ := HW2.out
    go_upto_region 6 with (at_builtin; go_must (refine Lib.wpList_append_run _ rfl _ _ _ _ rfl _ _ rfl rfl _ _ HR6.out ?_))
    clear e12 f12 g12 z0 z1 z2
    have HS6 : Hid (Rb (w6.setCell ⟨b6, 12, none⟩ (.slice a6 m1 c6)) b6 (frR pg K) (lcF a5 a6 c5 c6 0 0)) := by
      have h := HQ2.out.mores (N := K.of) (x := a6) (y := c6) (B := 0)
      rw [HM1.out] at h
      exact h
    have HC6 := hide (Only.setCell (S := fun k => k = b6) w6 ⟨b6, 12, none⟩ (.slice a6 m1 c6) rfl)
    obtain ⟨y3, hy3⟩ : ∃ x, w6.setCell ⟨b6, 12, none⟩ (.slice a6 m1 c6) = x := ⟨_, rfl⟩
    rw [hy3] at HS6 HC6 ⊢
    clear hy3
    have HA3 : Hid (Only (fun _ => False) W0 y3) := (o2 HA2.out HO6.out).trans HC6.out (fun i hi e => by have := HB6.out; omega)
    have HLT7 : Hid (y1.heap.size ≤ y2.heap.size) := Nat.le_trans HO5.out.size HC5.out.size
    have HG6b : Hid (IRw y3 y2.heap.size (.slice a6 K.of.length c6) K.of) := HG6.out.kept HC6.out (fun k hk e => by have e2 : k = b6 := e; have := (HG6.out.low k hk).1; have := HLT6.out; have := HLT7.out; omega)
    have HG5c : Hid (IRw y3 y1.heap.size (.slice a5 K.fr.length c5) K.fr) := (HG5b.out.more HO6.out).kept HC6.out (fun k hk e => by have e2 : k = b6 := e; have := (HG5b.out.low k hk).1; have := HLT6.out; omega)
    have HRB3 := hide (HRB.out.more HA3.out)
    go_wp2_with (first
      | (refine wpList_load_rc rfl (.tmp 6) rfl b6 rfl (frR pg K) (lcF a5 a6 c5 c6 0 0) HS6.out.range ?_; go_frame)
      | (refine wpList_put_rc rfl (.tmp 4) (.tmp 32) rfl b4 rfl Rc.none (frR pg K) nlL (lcF a5 a6 c5 c6 0 0) rfl HRB3.out (fun y4 HS => ?_); go_frame))
    refine bodyPost_ret (results_rcI rfl rfl HS.out.1) rfl ?_
    have hbk := HBK.out
    have hl0 := HL0.out
    have hl1 := HL1.out
    have hb6l := HB6L.out
    have hlt6 := HLT6.out
    have hlt7 := HLT7.out
    have k5 : IRw y4 y1.heap.size (.slice a5 K.fr.length c5) K.fr := HG5c.out.kept HS.out.2 (fun k hk e => by have e2 : k = b4 := e; have := (HG5c.out.low k hk).1; omega)
    have k6 : IRw y4 y2.heap.size (.slice a6 K.of.length c6) K.of := HG6b.out.kept HS.out.2 (fun k hk e => by have e2 : k = b4 := e; have := (HG6b.out.low k hk).1; omega)
    obtain ⟨B5, z5, t5, _⟩ := k5.zs (by omega)
    obtain ⟨B6, z6, t6, _⟩ := k6.zs (by omega)
    exact ⟨lcF a5 a6 c5 c6 B5 B6, rfl, rcAt_frz (K := K) z5 t5 z6 t6, (o2 HO0.out HA3.out).trans HS.out.2 (fun i hi e => by omega)⟩
  | false =>
    go_upto_region 4 with (first
      | (refine wpList_build_rk 10 rfl (.tmp 18) rfl pg rfl ?_; go_frame)
      | (refine wpList_put_rc rfl (.tmp 6) (.tmp 19) rfl W0.heap.size rfl Rc.none ⟨0, 0, 0, 10, 0, pg, 0, 0, 0, 0, ⟨#[]⟩, [], [], [], [], []⟩ nlL (lcF Option.none Option.none 0 0 0 0) rfl HZN.out (fun y1 HS => ?_); go_frame))
    clear z0 z1 z2
    have HA1 : Hid (Only (fun _ => False) W0 y1) := HZA.out.trans HS.out.2 (fun i hi e => by omega)
    have HR1 := hide HS.out.1
    have HB6L : Hid (b4 < W0.heap.size) := HRB.out.lt
    clear HS
    obtain ⟨b6, hb6⟩ : ∃ b, W0.heap.size = b := ⟨_, rfl⟩
    have HB6 := hide hb6
    rw [hb6] at HR1 HB6L ⊢
    clear hb6
    have HW1 := hide (HWB.out.more HA1.out)
    have HSRC0 : Hid (GSrc EIi y1 a0 m0 K.fr) := by
      have h := irw_src (HC0.out.more HA1.out)
      rw [HM0.out] at h
      exact h
    obtain ⟨v5, w5, hr5, hg5, ho5, hob5⟩ := irw_app (GRow.nil y1 y1.heap.size) HSRC0.out (by have := HL0.out; have := HM0.out; simp only [List.length_nil]; omega) (Nat.le_refl _) 25 c0
    obtain ⟨a5, c5, rfl⟩ := hg5.form
    simp only [List.nil_append] at hr5 hg5 ho5 hob5
    rw [HM0.out] at hr5
    have HR5 := hide hr5
    have HG5 := hide hg5
    have HO5 : Hid (Only (fun _ => False) y1 w5) := ho5.mono (fun i hi e => by cases e)
    clear hr5 hg5 ho5 hob5
    have HQ1 := hide (HR1.out.more HO5.out)
    have e11 := HR1.out.cell 11 _ rfl
    have f11 := HQ1.out.cell 11 _ rfl
    have g11 := HQ1.out.frozen 11 (by omega)
    obtain ⟨z0, z1, z2, _, _, _, _⟩ := HW1.out
    go_upto_region 5 with (at_builtin; go_must (refine Lib.wpList_append_run _ rfl _ _ _ _ rfl _ _ rfl rfl _ _ HR5.out ?_))
    clear e11 f11 g11 z0 z1 z2
    have HS5 : Hid (Rb (w5.setCell ⟨b6, 11, none⟩ (.slice a5 m0 c5)) b6 ⟨0, 0, 0, 10, 0, pg, 0, 0, 0, 0, ⟨#[]⟩, K.fr, [], [], [], []⟩ (lcF a5 Option.none c5 0 0 0)) := by
      have h := HQ1.out.slots (N := K.fr) (x := a5) (y := c5) (B := 0)
      rw [HM0.out] at h
      exact h
    have HC5 := hide (Only.setCell (S := fun k => k = b6) w5 ⟨b6, 11, none⟩ (.slice a5 m0 c5) rfl)
    obtain ⟨y2, hy2⟩ : ∃ x, w5.setCell ⟨b6, 11, none⟩ (.slice a5 m0 c5) = x := ⟨_, rfl⟩
    rw [hy2] at HS5 HC5 ⊢
    clear hy2
    have HA2 : Hid (Only (fun _ => False) W0 y2) := (o2 HA1.out HO5.out).trans HC5.out (fun i hi e => by have := HB6.out; omega)
    have HLT6 : Hid (b6 < y1.heap.size) := HR1.out.lt
    have HG5b : Hid (IRw y2 y1.heap.size (.slice a5 K.fr.length c5) K.fr) := HG5.out.kept HC5.out (fun k hk e => by have e2 : k = b6 := e; have := (HG5.out.low k hk).1; have := HLT6.out; omega)
    have HW2 := hide (HWB.out.more HA2.out)
    have HSRC1 : Hid (GSrc EIi y2 a1 m1 K.of) := by
      have h := irw_src (HC1.out.more HA2.out)
      rw [HM1.out] at h
      exact h
    obtain ⟨v6, w6, hr6, hg6, ho6, hob6⟩ := irw_app (GRow.nil y2 y2.heap.size) HSRC1.out (by have := HL1.out; have := HM1.out; simp only [List.length_nil]; omega) (Nat.le_refl _) 25 c1
    obtain ⟨a6, c6, rfl⟩ := hg6.form
    simp only [List.nil_append] at hr6 hg6 ho6 hob6
    rw [HM1.out] at hr6
    have HR6 := hide hr6
    have HG6 := hide hg6
    have HO6 : Hid (Only (fun _ => False) y2 w6) := ho6.mono (fun i hi e => by cases e)
    clear hr6 hg6 ho6 hob6
    have HQ2 := hide (HS5.out.more HO6.out)
    have e12 := HS5.out.cell 12 _ rfl
    have f12 := HQ2.out.cell 12 _ rfl
    have g12 := HQ2.out.frozen 12 (by omega)
    obtain ⟨z0, z1, z2, _, _, _, _⟩ := HW2.out
    go_upto_region 6 with (at_builtin; go_must (refine Lib.wpList_append_run _ rfl _ _ _ _ rfl _ _ rfl rfl _ _ HR6.out ?_))
    clear e12 f12 g12 z0 z1 z2
    have HS6 : Hid (Rb (w6.setCell ⟨b6, 12, none⟩ (.slice a6 m1 c6)) b6 (frR pg K) (lcF a5 a6 c5 c6 0 0)) := by
      have h := HQ2.out.mores (N := K.of) (x := a6) (y := c6) (B := 0)
      rw [HM1.out] at h
      exact h
    have HC6 := hide (Only.setCell (S := fun k => k = b6) w6 ⟨b6, 12, none⟩ (.slice a6 m1 c6) rfl)
    obtain ⟨y3, hy3⟩ : ∃ x, w6.setCell ⟨b6, 12, none⟩ (.slice a6 m1 c6) = x := ⟨_, rfl⟩
    rw [hy3] at HS6 HC6 ⊢
    clear hy3
    have HA3 : Hid (Only (fun _ => False) W0 y3) := (o2 HA2.out HO6.out).trans HC6.out (fun i hi e => by have := HB6.out; omega)
    have HLT7 : Hid (y1.heap.size ≤ y2.heap.size) := Nat.le_trans HO5.out.size HC5.out.size
    have HG6b : Hid (IRw y3 y2.heap.size (.slice a6 K.of.length c6) K.of) := HG6.out.kept HC6.out (fun k hk e => by have e2 : k = b6 := e; have := (HG6.out.low k hk).1; have := HLT6.out; have := HLT7.out; omega)
    have HG5c : Hid (IRw y3 y1.heap.size (.slice a5 K.fr.length c5) K.fr) := (HG5b.out.more HO6.out).kept HC6.out (fun k hk e => by have e2 : k = b6 := e; have := (HG5b.out.low k hk).1; have := HLT6.out; omega)
    have HRB3 := hide (HRB.out.more HA3.out)
    go_wp2_with (first
      | (refine wpList_load_rc rfl (.tmp 6) rfl b6 rfl (frR pg K) (lcF a5 a6 c5 c6 0 0) HS6.out.range ?_; go_frame)
      | (refine wpList_put_rc rfl (.tmp 4) (.tmp 32) rfl b4 rfl Rc.none (frR pg K) nlL (lcF a5 a6 c5 c6 0 0) rfl HRB3.out (fun y4 HS => ?_); go_frame))
    refine bodyPost_ret (results_rcI rfl rfl HS.out.1) rfl ?_
    have hbk := HBK.out
    have hl0 := HL0.out
    have hl1 := HL1.out
    have hb6l := HB6L.out
    have hlt6 := HLT6.out
    have hlt7 := HLT7.out
    have k5 : IRw y4 y1.heap.size (.slice a5 K.fr.length c5) K.fr := HG5c.out.kept HS.out.2 (fun k hk e => by have e2 : k = b4 := e; have := (HG5c.out.low k hk).1; omega)
    have k6 : IRw y4 y2.heap.size (.slice a6 K.of.length c6) K.of := HG6b.out.kept HS.out.2 (fun k hk e => by have e2 : k = b4 := e; have := (HG6b.out.low k hk).1; omega)
    obtain ⟨B5, z5, t5, _⟩ := k5.zs (by omega)
    obtain ⟨B6, z6, t6, _⟩ := k6.zs (by omega)
    exact ⟨lcF a5 a6 c5 c6 B5 B6, rfl, rcAt_frz (K := K) z5 t5 z6 t6, (o2 HO0.out HA3.out).trans HS.out.2 (fun i hi e => by omega)⟩
/-- What Freeze answers, of any finds. -/
noncomputable def frX (pg : Int) (K : Wk) : Rc := open Classical in if K.fr = [] ∧ K.of = [] then Rc.none else frR pg K
noncomputable def frB (K : Wk) : Bool := open Classical in if K.fr = [] ∧ K.of = [] then false else true
theorem rcAt_none (w : World) : RcAt w Rc.none nlL := ⟨Zs.nil _ _ _, Zs.nil _ _ _, ⟨fun _ => False, Ims.nil _ _ _ _⟩, Prs.nil _ _ _, Prs.nil _ _ _, ⟨fun _ => rfl, Nat.le_refl 0, Nat.zero_le _⟩, ⟨fun _ => rfl, Nat.le_refl 0, Nat.zero_le _⟩, Nat.zero_le _, ⟨by show (0 : Int) ≤ 0; decide, by show (0 : Int) ≤ 255; decide⟩⟩
theorem vfreeze_any (w : World) (pg : Int) (base : Nat) (v0 v1 v2 : Value) (K : Wk) (h : WkAt w base v0 v1 v2 K) (l0 : K.fr.length ≤ 2199023255552) (l1 : K.of.length ≤ 2199023255552) :
    Calls Tryz.prog 10 #[.int .i64 pg, .agg #[v0, v1, v2]] w fun e w' => ∃ L, e = .returned (.tuple #[.agg ((frX pg K).cells L), .bool (frB K)]) ∧ RcAt w' (frX pg K) L ∧ Only (fun _ => False) w w' := by
  obtain ⟨a0, c0, rfl⟩ := h.fr.form
  obtain ⟨a1, c1, rfl⟩ := h.of.form
  obtain ⟨a2, n2, c2, rfl⟩ := h.gn.frm
  unfold frX frB
  by_cases q : K.fr = [] ∧ K.of = []
  · rw [if_pos q, if_pos q, q.1, q.2]
    exact (vfreeze_no w pg a0 a1 a2 c0 c1 n2 c2).mono (fun e w' ⟨h1, h2⟩ => ⟨nlL, h1, rcAt_none _, h2⟩)
  · rw [if_neg q, if_neg q]
    exact vfreeze_yes w pg base a0 a1 a2 c0 c1 n2 c2 K h.fr h.of (by omega) (by omega) q
theorem rfreeze_any (w : World) (pg : Int) (base : Nat) (v0 v1 v2 : Value) (K : Wk) (h : WkAt w base v0 v1 v2 K) (l0 : K.fr.length ≤ 2199023255552) (l1 : K.of.length ≤ 2199023255552) :
    Calls Tryz.prog 11 #[.int .i64 pg, .agg #[v0, v1, v2]] w fun e w' => ∃ L, e = .returned (.tuple #[.agg ((frX pg K).cells L), .bool (frB K)]) ∧ RcAt w' (frX pg K) L ∧ Only (fun _ => False) w w' := by
  obtain ⟨a0, c0, rfl⟩ := h.fr.form
  obtain ⟨a1, c1, rfl⟩ := h.of.form
  obtain ⟨a2, n2, c2, rfl⟩ := h.gn.frm
  unfold frX frB
  by_cases q : K.fr = [] ∧ K.of = []
  · rw [if_pos q, if_pos q, q.1, q.2]
    exact (rfreeze_no w pg a0 a1 a2 c0 c1 n2 c2).mono (fun e w' ⟨h1, h2⟩ => ⟨nlL, h1, rcAt_none _, h2⟩)
  · rw [if_neg q, if_neg q]
    exact rfreeze_yes w pg base a0 a1 a2 c0 c1 n2 c2 K h.fr h.of l0 l1 q
end Go.Proofs.YtpnbhddmdfcjdaaGreat
