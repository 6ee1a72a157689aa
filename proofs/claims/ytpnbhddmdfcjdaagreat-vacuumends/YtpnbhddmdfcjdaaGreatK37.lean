/- Parts. -/
import Derived.Test.YtpnbhddmdfcjdaaGreatK36
set_option maxRecDepth 100000
namespace Go.Proofs.YtpnbhddmdfcjdaaGreat
open Go.RowKit
/-- What readLeaf answers: the entries, or that it is no leaf. -/
def LfA (w w' : World) (e : Ending) (hi : En) (o : Option (List En)) : Prop := match o with
  | some es => LfR w w' e hi es
  | none => CvR e false ∧ Only (fun _ => False) w w'
set_option maxRecDepth 100000 in
set_option maxHeartbeats 3200000 in
theorem readLeaf_all (w : World) (a r : Int) (h : ByteArray) (hi : En) (B cp : Nat) (ao : Option Addr) (l : List ByteArray) (hS : Strs w B ao l) (hH : hdO 3 0 r h = some hi) (hl : l.length ≤ 8796093021952) :
    Calls Tryz.prog 168 #[pgv a 3 0 r h ao l.length cp] w fun e w' => LfA w w' e hi (rdL hi noE l) := by
  have HX := hide (lf_new w (.int .i64 a) (.int .i64 3) (.int .i64 0) (.int .i64 r) (.string h) (.slice ao l.length cp))
  have HRH : Hid (∀ W, Calls Tryz.prog 193 #[.agg #[.int .i64 a, .int .i64 3, .int .i64 0, .int .i64 r, .string h, .slice ao l.length cp]] W fun e w' => e = .returned (.tuple #[.agg #[.string hi.key, .int .i64 hi.page, .int .i64 hi.slot], .bool true]) ∧ Only (fun _ => False) W w') := fun W => by
    have q := readHead_any W a 3 0 r h ao l.length cp
    rw [hH] at q
    exact q
  obtain ⟨O, hmk, hown⟩ := ets_made2 l.length hl
  have HOWN := hide hown
  have HS := hide hS
  clear hS hH hown
  unfold pgv
  go_enter Tryz.func168, Tryz.ntmps168
  go_upto_region 1 with fail
  obtain ⟨W0, hW0⟩ : ∃ x, (w.alloc (.cells #[.int .i64 a, .int .i64 3, .int .i64 0, .int .i64 r, .string h, .slice ao l.length cp] 30)).alloc (.cells #[.slice none 0 0, .slice none 0 0, .string ⟨#[]⟩, .int .i64 0, .int .i64 0] 200) = x := ⟨_, rfl⟩
  rw [hW0] at HX ⊢
  clear hW0
  obtain ⟨p0, p1, p2, p3, p4, p5, _⟩ := HX.out.1
  go_wp2_with fail
  refine (HRH.out _).mono ?_
  rintro e w1 ⟨rfl, ho⟩
  have HP1 := hide (HX.out.1.more ho)
  have HC1 := hide (HX.out.2.1.more ho)
  have HO1 := hide (o2 HX.out.2.2 ho)
  have HZ1 : Hid (w.heap.size + 1 < w1.heap.size) := HC1.out.lt
  clear ho p0 p1 p2 p3 p4 p5 HX HRH
  go_upto_region 2 with fail
  have HA := hide (onlyA w1 (.cells #[.string hi.key, .int .i64 hi.page, .int .i64 hi.slot] 74))
  have HV2 := hide (Ev.new w1 hi)
  obtain ⟨b4, hb4⟩ : ∃ b, w1.heap.size = b := ⟨_, rfl⟩
  rw [hb4] at HZ1 HV2 ⊢
  clear hb4
  obtain ⟨w2, hw2⟩ : ∃ x, w1.alloc (.cells #[.string hi.key, .int .i64 hi.page, .int .i64 hi.slot] 74) = x := ⟨_, rfl⟩
  rw [hw2] at HA HV2 ⊢
  clear hw2
  have HP2 := hide (HP1.out.more HA.out)
  have HC2 := hide (HC1.out.more HA.out)
  have HO2 := hide (o2 HO1.out HA.out)
  have HZ2 : Hid (w.heap.size + 1 < w2.heap.size) := HC2.out.lt
  clear HA HP1 HC1 HO1
  have p2 := HP2.out.c2
  go_upto_region 4 with fail
  clear p2
  go_cut [6] (fun p wx => ∃ c g, p = .pointer (some ⟨c, 0, none⟩) ∧ Hid (Lc w wx a 0 r h ao l.length cp c (.slice (some ⟨g, 0, none⟩) 0 l.length) (.slice none 0 0) hi [] []))
  case first =>
    -- {r4
    refine wp_region_noPanic ?_
    refine wp_region_held_drew (S := fun W => Only (fun _ => False) w2 W) (by kernel_rfl) (Only.drew _ _) (fun hHeld => ?_)
    refine wpAnyH_take (i := 0) (oi := { dst := some 25, op := Op.fieldAddr 30 (Operand.tmp 1) 5, type := 0, pos := "read.go:30", after := #[], guard := none }) (v := .pointer (some ⟨w.heap.size, 5, none⟩)) rfl (by kernel_rfl) (by kernel_rfl) (by kernel_rfl) (fun _ _ _ h => h) (Or.inl ⟨by rfl, fun w' hSw => by clear hSw; go_simp⟩) (by assumption) ?_
    simp only [Act.put, List.setIfInBounds_toArray, List.set_cons_zero, List.set_cons_succ]
    refine wpAnyH_take (i := 4) (oi := { dst := some 29, op := Op.load 74 (Operand.tmp 4), type := 74, pos := "read.go:30", after := #[], guard := none }) (v := .agg #[.string hi.key, .int .i64 hi.page, .int .i64 hi.slot]) rfl (by kernel_rfl) (by kernel_rfl) (by kernel_rfl) (fun _ _ _ h => h) (yieldsIf_load_ev (by rfl) _ rfl rfl (fun W hW => HV2.out.more hW)) (by assumption) ?_
    simp only [Act.put, List.setIfInBounds_toArray, List.set_cons_zero, List.set_cons_succ]
    refine wpAnyH_take (i := 1) (oi := { dst := some 26, op := Op.load 28 (Operand.tmp 25), type := 28, pos := "read.go:30", after := #[{ on := 0, ground := Ground.data }], guard := none }) (v := .slice ao l.length cp) rfl (by kernel_rfl) (by kernel_rfl) (by kernel_rfl) (fun _ _ _ h => h) (yieldsIf_load_cell (by rfl) 28 _ rfl _ rfl (fun W hW => (HP2.out.more hW).c5) (fun W hc => ld_strings hc)) (by assumption) ?_
    simp only [Act.put, List.setIfInBounds_toArray, List.set_cons_zero, List.set_cons_succ]
    refine wpAnyH_take (i := 2) (oi := { dst := some 27, op := Op.call { callee := Callee.builtin Builtin.len, args := #[Operand.tmp 26], argTypes := #[28] }, type := 3, pos := "read.go:30", after := #[{ on := 1, ground := Ground.data }], guard := none }) (v := .int .i64 (l.length : Int)) rfl (by kernel_rfl) (by kernel_rfl) (by kernel_rfl) (fun _ _ _ h => h) (Or.inl ⟨by rfl, fun w' hSw => by clear hSw; go_simp⟩) (by assumption) ?_
    simp only [Act.put, List.setIfInBounds_toArray, List.set_cons_zero, List.set_cons_succ]
    refine wpAnyH_ready (rs := [3, 6]) (by kernel_rfl) (by simp) ?_
    refine AllReadyH.cons (o := { dst := some 28, op := Op.makeSlice 37 (Operand.const (Value.int IntKind.i64 0)) (Operand.tmp 27), type := 37, pos := "read.go:30", after := #[{ on := 2, ground := Ground.data }], guard := none }) rfl (fun K hK => ?_) (AllReadyH.cons (o := { dst := some 6, op := Op.alloc 200, type := 0, pos := "read.go:30", after := #[], guard := none }) rfl (fun K hK => ?_) (AllReadyH.nil))
    · go_simp
      refine hK.out _ _ (o2 (onlyA _ _) (Only.drew _ _)) (fun hHeld => ?_)
      clear hK K
      try simp only [Act.put, List.setIfInBounds_toArray, List.set_cons_zero, List.set_cons_succ]
      refine wpAnyH_take (i := 5) (oi := { dst := some 30, op := Op.build 200 #[(0, Operand.tmp 28), (2, Operand.tmp 29)], type := 200, pos := "read.go:30", after := #[{ on := 3, ground := Ground.data }, { on := 4, ground := Ground.data }], guard := none }) (v := .agg #[.slice (some ⟨w2.heap.size, 0, none⟩) 0 l.length, .slice none 0 0, .string hi.key, .int .i64 hi.page, .int .i64 hi.slot]) rfl (by kernel_rfl) (by kernel_rfl) (by kernel_rfl) (fun _ _ _ h => h) (Or.inl ⟨by rfl, fun w' hSw => by clear hSw; go_simp⟩) (by assumption) ?_
      simp only [Act.put, List.setIfInBounds_toArray, List.set_cons_zero, List.set_cons_succ]
      refine wpAnyH_ready (rs := [6]) (by kernel_rfl) (by simp) ?_
      refine AllReadyH.cons (o := { dst := some 6, op := Op.alloc 200, type := 0, pos := "read.go:30", after := #[], guard := none }) rfl (fun K hK => ?_) (AllReadyH.nil)
      go_simp
      refine hK.out _ _ (o2 (o2 (onlyA _ _) (onlyA _ _)) (Only.drew _ _)) (fun hHeld => ?_)
      clear hK K
      try simp only [Act.put, List.setIfInBounds_toArray, List.set_cons_zero, List.set_cons_succ]
      refine wpAnyH_ready (rs := [7]) (by kernel_rfl) (by simp) ?_
      refine AllReadyH.cons (o := { dst := none, op := Op.store 200 (Operand.tmp 6) (Operand.tmp 30), type := 0, pos := "read.go:30", after := #[{ on := 6, ground := Ground.data }, { on := 5, ground := Ground.data }, { on := 0, ground := Ground.phase }, { on := 1, ground := Ground.phase }, { on := 2, ground := Ground.phase }, { on := 3, ground := Ground.phase }, { on := 4, ground := Ground.phase }, { on := 5, ground := Ground.phase }, { on := 6, ground := Ground.phase }], guard := none }) rfl (fun K hK => ?_) (AllReadyH.nil)
      go_simp
      have HLc := hide (lc_A (hi := hi) HP2.out HC2.out HO2.out HOWN.out)
      refine hK.out _ _ (o2 (o2 (onlyA _ _) (onlyA _ _)) (Only.drew _ _)) (fun hHeld => ?_)
      clear hK K
      try simp only [Act.put, List.setIfInBounds_toArray, List.set_cons_zero, List.set_cons_succ]
      refine wpAnyH_done (by kernel_rfl) ?_ _
      refine NoPanic.normal ?_
      go_wp2_with fail
      go_meet
      exact ⟨_, _, rfl, HLc⟩
    · go_simp
      refine hK.out _ _ (o2 (onlyA _ _) (Only.drew _ _)) (fun hHeld => ?_)
      clear hK K
      try simp only [Act.put, List.setIfInBounds_toArray, List.set_cons_zero, List.set_cons_succ]
      refine wpAnyH_ready (rs := [3]) (by kernel_rfl) (by simp) ?_
      refine AllReadyH.cons (o := { dst := some 28, op := Op.makeSlice 37 (Operand.const (Value.int IntKind.i64 0)) (Operand.tmp 27), type := 37, pos := "read.go:30", after := #[{ on := 2, ground := Ground.data }], guard := none }) rfl (fun K hK => ?_) (AllReadyH.nil)
      go_simp
      refine hK.out _ _ (o2 (o2 (onlyA _ _) (onlyA _ _)) (Only.drew _ _)) (fun hHeld => ?_)
      clear hK K
      try simp only [Act.put, List.setIfInBounds_toArray, List.set_cons_zero, List.set_cons_succ]
      refine wpAnyH_take (i := 5) (oi := { dst := some 30, op := Op.build 200 #[(0, Operand.tmp 28), (2, Operand.tmp 29)], type := 200, pos := "read.go:30", after := #[{ on := 3, ground := Ground.data }, { on := 4, ground := Ground.data }], guard := none }) (v := .agg #[.slice (some ⟨w2.heap.size + 1, 0, none⟩) 0 l.length, .slice none 0 0, .string hi.key, .int .i64 hi.page, .int .i64 hi.slot]) rfl (by kernel_rfl) (by kernel_rfl) (by kernel_rfl) (fun _ _ _ h => h) (Or.inl ⟨by rfl, fun w' hSw => by clear hSw; go_simp⟩) (by assumption) ?_
      simp only [Act.put, List.setIfInBounds_toArray, List.set_cons_zero, List.set_cons_succ]
      refine wpAnyH_ready (rs := [7]) (by kernel_rfl) (by simp) ?_
      refine AllReadyH.cons (o := { dst := none, op := Op.store 200 (Operand.tmp 6) (Operand.tmp 30), type := 0, pos := "read.go:30", after := #[{ on := 6, ground := Ground.data }, { on := 5, ground := Ground.data }, { on := 0, ground := Ground.phase }, { on := 1, ground := Ground.phase }, { on := 2, ground := Ground.phase }, { on := 3, ground := Ground.phase }, { on := 4, ground := Ground.phase }, { on := 5, ground := Ground.phase }, { on := 6, ground := Ground.phase }], guard := none }) rfl (fun K hK => ?_) (AllReadyH.nil)
      go_simp
      have HLc := hide (lc_B (hi := hi) HP2.out HC2.out HO2.out HOWN.out)
      refine hK.out _ _ (o2 (o2 (onlyA _ _) (onlyA _ _)) (Only.drew _ _)) (fun hHeld => ?_)
      clear hK K
      try simp only [Act.put, List.setIfInBounds_toArray, List.set_cons_zero, List.set_cons_succ]
      refine wpAnyH_done (by kernel_rfl) ?_ _
      refine NoPanic.normal ?_
      go_wp2_with fail
      go_meet
      exact ⟨_, _, rfl, HLc⟩
    -- r4}
  case rest =>
    obtain ⟨c, g, rfl, HL0⟩ := hcut
    clear HP2 HC2 HV2 HO2
    go_upto_region 6 with fail
    have HA := hide (onlyA wc (.cells #[.string ⟨#[]⟩, .int .i64 0, .int .i64 0] 74))
    have HE0 := hide (Ev.zero wc)
    have HG0 : Hid (g < wc.heap.size ∧ c < wc.heap.size ∧ w.heap.size + 1 < wc.heap.size) := ⟨(HL0.out.dis g rfl).2.2.2, HL0.out.con.lt, HL0.out.res.lt⟩
    obtain ⟨lb, hlb⟩ : ∃ b, wc.heap.size = b := ⟨_, rfl⟩
    rw [hlb] at HE0 HG0 ⊢
    clear hlb
    obtain ⟨W3, hW3⟩ : ∃ x, wc.alloc (.cells #[.string ⟨#[]⟩, .int .i64 0, .int .i64 0] 74) = x := ⟨_, rfl⟩
    rw [hW3] at HA HE0 ⊢
    clear hW3
    have HL3 := hide (HL0.out.more HA.out)
    have hgn : ∀ k, (Value.slice (some ⟨g, 0, none⟩) 0 l.length).ownBlock = some k → k ≠ lb := by
      intro k hk
      have : g = k := by simpa [Value.ownBlock] using hk
      have := HG0.out
      omega
    have HM3 : Hid (Ll w W3 c lb (.slice (some ⟨g, 0, none⟩) 0 l.length) noE) := ⟨HE0.out, hgn, by have := HG0.out; omega, HG0.out.2.2⟩
    clear hgn
    clear HA HE0 HG0 HL0
    have p5 := HL3.out.pag.c5
    go_upto_region 7 with fail
    clear p5
    go_loopw [35] (fun i wr => ∃ (j : Nat) (es : List En) (la : En), j ≤ l.length ∧ i = .int .i64 (j : Int) ∧ es.length = j ∧ Hid (Lc w wr a 0 r h ao l.length cp c (.slice (some ⟨g, 0, none⟩) j l.length) (.slice none 0 0) hi es []) ∧ Hid (Ll w wr c lb (.slice (some ⟨g, 0, none⟩) j l.length) la) ∧ Hid (rdL hi noE l = (rdL hi la (l.drop j)).map (fun t => es ++ t))) (fun i _ => l.length - (intOf i).toNat)
    case atStart => exact ⟨0, [], noE, Nat.zero_le _, rfl, rfl, HL3, HM3, hide (by simp)⟩
    case round =>
      clear HL3 HM3
      obtain ⟨j, es, la, hj, rfl, hel, HLj, HMj, HRD⟩ := hrel
      by_cases hlt : j < l.length
      · obtain ⟨o, rfl, hc⟩ := (HS.out.more HLj.out.only).at_ (by omega)
        have ck := hc j hlt
        have hlk : (j : Int) < (l.length : Int) := by omega
        rw [List.drop_eq_getElem_cons hlt] at HRD
        obtain ⟨s, hs⟩ : ∃ s, l[j] = s := ⟨_, rfl⟩
        rw [hs] at ck HRD
        clear hc hs
        cases hd : decE (bl s) with
        | none =>
          have HDC : Hid (∀ W, Calls Tryz.prog 120 #[.string s] W fun e w' => e = .returned (.tuple #[.agg #[.string ⟨#[]⟩, .int .i64 0, .int .i64 0], .int .i64 140]) ∧ Only (fun _ => False) W w') := fun W => by
            have := decode_any s W
            rw [hd] at this
            exact this
          have HF : Hid (rdL hi noE l = none) := by
            unfold Hid
            rw [HRD.out, rdL, hd]
            rfl
          clear hd HRD
          go_wp2_with fail
          refine (HDC.out _).mono ?_
          rintro x w2 ⟨rfl, ho⟩
          have HL4 := hide (HLj.out.more ho)
          clear ho ck HLj HMj HDC
          go_upto_region 10 with fail
          have HA := hide (onlyA w2 (.cells #[.string ⟨#[]⟩, .int .i64 0, .int .i64 0] 74))
          obtain ⟨xb, hxb⟩ : ∃ b, w2.heap.size = b := ⟨_, rfl⟩
          rw [hxb]
          clear hxb
          obtain ⟨W4, hW4⟩ : ∃ x, w2.alloc (.cells #[.string ⟨#[]⟩, .int .i64 0, .int .i64 0] 74) = x := ⟨_, rfl⟩
          rw [hW4] at HA ⊢
          clear hW4
          have HL5 := hide (HL4.out.more HA.out)
          clear HA HL4
          obtain ⟨r0, r1, r2, r3, r4, f0, f1, f2, f3, f4, _⟩ := HL5.out.res
          go_wp2_with fail
          refine bodyPost_ret (results_cv rfl rfl (HL5.out.res.all _ _ noE)) rfl ?_
          have hfive := Only.five W4 (w.heap.size + 1) (.slice none 0 0) (.slice none 0 0) (.string ⟨#[]⟩) (.int .i64 0) (.int .i64 0)
          rw [HF.out]
          exact ⟨⟨_, _, _, _, _, _, _, rfl⟩, HL5.out.only.trans hfive (fun i hi e => by omega)⟩
        | some e =>
          have HDC : Hid (∀ W, Calls Tryz.prog 120 #[.string s] W fun x w' => x = .returned (.tuple #[.agg #[.string e.key, .int .i64 e.page, .int .i64 e.slot], .int .i64 0]) ∧ Only (fun _ => False) W w') := fun W => by
            have := decode_any s W
            rw [hd] at this
            exact this
          have HCM : Hid (∀ W, Calls Tryz.prog 194 #[.agg #[.string e.key, .int .i64 e.page, .int .i64 e.slot], .agg #[.string la.key, .int .i64 la.page, .int .i64 la.slot]] W fun x w' => x = .returned (.int .i64 (cmpE e la)) ∧ Only (fun _ => False) W w') := fun W => compare_any e la W
          have HBY : Hid (∀ W (A1 : Option Addr) (C1 : Nat), Calls Tryz.prog 169 #[.agg #[.slice A1 j C1, .slice none 0 0, .string hi.key, .int .i64 hi.page, .int .i64 hi.slot], .agg #[.string e.key, .int .i64 e.page, .int .i64 e.slot]] W fun x w' => x = .returned (.bool (byd hi e)) ∧ Only (fun _ => False) W w') := fun W A1 C1 => isBeyond_any W A1 none j 0 C1 0 hi e
          have HRE : Hid (rdL hi noE l = (if la.lt e ∧ byd hi e = false then (rdL hi e (l.drop (j + 1))).map (fun es => e :: es) else none).map (fun t => es ++ t)) := by
            unfold Hid
            rw [HRD.out, rdL, hd]
          have HZP : Hid (0 < cmpE e la ↔ la.lt e) := cmpE_pos
          obtain ⟨z, hz⟩ : ∃ z, cmpE e la = z := ⟨_, rfl⟩
          rw [hz] at HCM HZP
          clear hz hd HRD
          go_wp2_with fail
          refine (HDC.out _).mono ?_
          rintro x w2 ⟨rfl, ho⟩
          have HL4 := hide (HLj.out.more ho)
          have HM4 := hide (HMj.out.more ho)
          clear ho ck HLj HMj HDC
          go_upto_region 10 with fail
          have HA := hide (onlyA w2 (.cells #[.string e.key, .int .i64 e.page, .int .i64 e.slot] 74))
          have HE4 := hide (Ev.new w2 e)
          have HXC : Hid (c < w2.heap.size ∧ lb < w2.heap.size ∧ ∀ k, (Value.slice (some ⟨g, 0, none⟩) j l.length).ownBlock = some k → k < w2.heap.size) := ⟨HL4.out.con.lt, HM4.out.ev.lt, fun k hk => (HL4.out.dis k hk).2.2.2⟩
          obtain ⟨xb, hxb⟩ : ∃ b, w2.heap.size = b := ⟨_, rfl⟩
          rw [hxb] at HE4 HXC ⊢
          clear hxb
          obtain ⟨W4, hW4⟩ : ∃ x, w2.alloc (.cells #[.string e.key, .int .i64 e.page, .int .i64 e.slot] 74) = x := ⟨_, rfl⟩
          rw [hW4] at HA HE4 ⊢
          clear hW4
          have HL5 := hide (HL4.out.more HA.out)
          have HM5 := hide (HM4.out.more HA.out)
          clear HA HL4 HM4
          obtain ⟨d0, d1, d2, _⟩ := HE4.out
          obtain ⟨t0, t1, t2, _⟩ := HM5.out.ev
          go_wp2_with fail
          refine (HCM.out _).mono ?_
          rintro x W5 ⟨rfl, ho⟩
          have HL6 := hide (HL5.out.more ho)
          have HM6 := hide (HM5.out.more ho)
          have HE6 := hide (HE4.out.more ho)
          clear ho d0 d1 d2 t0 t1 t2 HL5 HM5 HE4 HCM
          by_cases hz0 : z ≤ 0
          · have HF : Hid (rdL hi noE l = none) := by
              unfold Hid
              rw [HRE.out, if_neg (fun k => by have := HZP.out.2 k.1; omega)]
              rfl
            clear HRE HZP
            obtain ⟨r0, r1, r2, r3, r4, f0, f1, f2, f3, f4, _⟩ := HL6.out.res
            go_wp2_with fail
            refine bodyPost_ret (results_cv rfl rfl (HL6.out.res.all _ _ noE)) rfl ?_
            have hfive := Only.five W5 (w.heap.size + 1) (.slice none 0 0) (.slice none 0 0) (.string ⟨#[]⟩) (.int .i64 0) (.int .i64 0)
            rw [HF.out]
            exact ⟨⟨_, _, _, _, _, _, _, rfl⟩, HL6.out.only.trans hfive (fun i hi e => by omega)⟩
          · obtain ⟨d0, d1, d2, _⟩ := HE6.out
            obtain ⟨q0, q1, q2, q3, q4, _⟩ := HL6.out.con
            go_wp2_with fail
            refine (HBY.out _ _ _).mono ?_
            rintro x W6 ⟨rfl, ho⟩
            have HL7 := hide (HL6.out.more ho)
            have HM7 := hide (HM6.out.more ho)
            have HE7 := hide (HE6.out.more ho)
            clear ho d0 d1 d2 q0 q1 q2 q3 q4 HL6 HM6 HE6 HBY
            cases hb : byd hi e with
            | true =>
              have HF : Hid (rdL hi noE l = none) := by
                unfold Hid
                rw [HRE.out, if_neg (fun k => by rw [hb] at k; cases k.2)]
                rfl
              clear HRE HZP hb
              obtain ⟨r0, r1, r2, r3, r4, f0, f1, f2, f3, f4, _⟩ := HL7.out.res
              go_wp2_with fail
              refine bodyPost_ret (results_cv rfl rfl (HL7.out.res.all _ _ noE)) rfl ?_
              have hfive := Only.five W6 (w.heap.size + 1) (.slice none 0 0) (.slice none 0 0) (.string ⟨#[]⟩) (.int .i64 0) (.int .i64 0)
              rw [HF.out]
              exact ⟨⟨_, _, _, _, _, _, _, rfl⟩, HL7.out.only.trans hfive (fun i hi e => by omega)⟩
            | false =>
              have HRN : Hid (rdL hi noE l = (rdL hi e (l.drop (j + 1))).map (fun t => (es ++ [e]) ++ t)) := by
                unfold Hid
                rw [HRE.out, if_pos ⟨HZP.out.1 (by omega), hb⟩, Option.map_map]
                congr 1
                funext t
                simp
              clear HRE HZP hb
              have HN7 := hide (onlyA W6 (.cells #[.string e.key, .int .i64 e.page, .int .i64 e.slot] 74))
              have HEA := (HL7.out.ets.more HN7.out)
              obtain ⟨W8, hr8, he8, ho8⟩ := ets_room _ w.heap.size g j l.length es HEA hel (by omega) e W6.heap.size 0 (Ev.new W6 e).eb
              have HR8 := hide hr8
              have HL8 : Hid (Lc w (W8.setCell ⟨c, 0, none⟩ (.slice (some ⟨g, 0, none⟩) (j + 1) l.length)) a 0 r h (some ⟨B, o, none⟩) l.length cp c (.slice (some ⟨g, 0, none⟩) (j + 1) l.length) (.slice none 0 0) hi (es ++ [e]) []) := (HL7.out.more HN7.out).app he8 ho8 (.inl rfl)
              have hcn : ¬ (Value.slice (some ⟨g, 0, none⟩) j l.length).ownBlock = some c := fun k => (HL7.out.dis c k).2.1 rfl
              have hcx := (HL7.out.con.more HN7.out).kept ho8 hcn
              have HO8 : Hid (Only (fun k => (Value.slice (some ⟨g, 0, none⟩) j l.length).ownBlock = some k ∨ k = c) W6 (W8.setCell ⟨c, 0, none⟩ (.slice (some ⟨g, 0, none⟩) (j + 1) l.length))) := ((HN7.out.mono (fun _ _ h => h.elim)).trans (ho8.mono (fun _ _ h => .inl h)) (fun _ _ h => h)).trans ((Only.setCell W8 ⟨c, 0, none⟩ _ rfl).mono (fun _ _ h => .inr h.symm)) (fun _ _ h => h)
              have HE8 := hide (HE7.out.kept HO8.out (by
                rintro (k | k)
                · have := HXC.out.2.2 _ k; omega
                · have := HXC.out.1; omega))
              have HV8 := hide (HM7.out.ev.kept HO8.out (by
                rintro (k | k)
                · exact HM7.out.ne _ k rfl
                · exact HM7.out.nc k.symm))
              have HNE : Hid ((∀ k, (Value.slice (some ⟨g, 0, none⟩) (j + 1) l.length).ownBlock = some k → k ≠ lb) ∧ c ≠ lb ∧ w.heap.size + 1 < lb) := ⟨fun k hk => HM7.out.ne k hk, HM7.out.nc, HM7.out.lo⟩
              obtain ⟨d0, d1, d2, _⟩ := HE7.out
              have q0 := HL7.out.con.c0
              have u0 := hcx.c0
              have uf := hcx.f0
              clear hr8 he8 ho8 hcn hcx HEA HN7 HM7 HO8 HXC
              go_upto_region 13 with (at_builtin; go_must (refine Lib.wpList_append_run _ rfl _ _ _ _ rfl _ _ rfl rfl _ _ HR8.out ?_))
              obtain ⟨W9, hW9⟩ : ∃ x, W8.setCell ⟨c, 0, none⟩ (.slice (some ⟨g, 0, none⟩) (j + 1) l.length) = x := ⟨_, rfl⟩
              rw [hW9] at HL8 HE8 HV8 ⊢
              clear hW9 d0 d1 d2 q0 u0 uf HL7 HE7 HR8
              obtain ⟨d0, d1, d2, _⟩ := HE8.out
              obtain ⟨t0, t1, t2, f0, f1, f2, _⟩ := HV8.out
              go_wp2_with fail
              have HV9 := hide (HV8.out.all e)
              have HL9 : Hid (Lc w (((W9.setCell ⟨lb, 0, none⟩ (.string e.key)).setCell ⟨lb, 1, none⟩ (.int .i64 e.page)).setCell ⟨lb, 2, none⟩ (.int .i64 e.slot)) a 0 r h (some ⟨B, o, none⟩) l.length cp c (.slice (some ⟨g, 0, none⟩) (j + 1) l.length) (.slice none 0 0) hi (es ++ [e]) []) := HL8.out.kept (Only.three W9 lb _ _ _) (fun k hk => by have := HNE.out.2.2; omega) HNE.out.2.1 (fun k hk => HNE.out.1 k hk) (fun k hk => nomatch hk)
              have HM9 : Hid (Ll w _ c lb (.slice (some ⟨g, 0, none⟩) (j + 1) l.length) e) := ⟨HV9.out, HNE.out.1, HNE.out.2.1, HNE.out.2.2⟩
              clear d0 d1 d2 t0 t1 t2 f0 f1 f2 HL8 HE8 HV8 HV9
              go_roundw
              case rel => exact ⟨j + 1, es ++ [e], e, by omega, by go_num, by rw [List.length_append, hel]; rfl, HL9, HM9, HRN⟩
              case measure => simp [intOf]; omega
      · have hlk : ¬ (j : Int) < (l.length : Int) := by omega
        have HF : Hid (rdL hi noE l = some es) := by
          unfold Hid
          rw [HRD.out, List.drop_of_length_le (by omega), rdL]
          simp
        clear HRD
        obtain ⟨q0, q1, q2, q3, q4, _⟩ := HLj.out.con
        obtain ⟨r0, r1, r2, r3, r4, f0, f1, f2, f3, f4, _⟩ := HLj.out.res
        go_wp2_with fail
        refine bodyPost_ret (results_cv rfl rfl (HLj.out.res.all _ _ hi)) rfl ?_
        have hfive := Only.five wr (w.heap.size + 1) (.slice (some ⟨g, 0, none⟩) j l.length) (.slice none 0 0) (.string hi.key) (.int .i64 hi.page) (.int .i64 hi.slot)
        subst hel
        rw [HF.out]
        exact ⟨_, _, rfl, HLj.out.ets.kept hfive (fun k hk => by have := (HLj.out.dis k hk).1; omega), HLj.out.only.trans hfive (fun i hi e => by omega)⟩
end Go.Proofs.YtpnbhddmdfcjdaaGreat
