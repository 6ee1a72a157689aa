/- The law's changed: a node behind a record of an entry that comes in, or goes out. -/
import Derived.Test.YthjjkhacniebiaaGreatK42
namespace Go.Proofs.YthjjkhacniebiaaGreat
open Go.RowKit

/-- Pages in memory: the variable in block f, the row in block g; K: blocks apart of them. -/
structure Fm (K : Nat → Prop) (w : World) (f g cap : Nat) (zs : List Pz) : Prop where
  cell : w.cell? ⟨f, 0, none⟩ = some (.slice (some ⟨g, 0, none⟩) zs.length cap)
  fr : w.frozen? ⟨f, 0, none⟩ = false
  flt : f < w.heap.size
  row : w.ownsRow 0 24 6 (.slice (some ⟨g, 0, none⟩) zs.length cap) zs.length (zs.flatMap Pz.c)
  ne : f ≠ g
  each : ∀ z ∈ zs, At w (fun k => k ≠ f ∧ k ≠ g ∧ ¬ K k) z
  kk : ∀ k, K k → k < w.heap.size
variable {K : Nat → Prop}
theorem Fm.more {w w' : World} {f g cap : Nat} {zs : List Pz} (h : Fm K w f g cap zs) (ho : Only (fun _ => False) w w') : Fm K w' f g cap zs :=
  ⟨(ho.cell (p := ⟨f, 0, none⟩) h.flt (fun h => h)).trans h.cell, (ho.frozen (p := ⟨f, 0, none⟩) h.flt (fun h => h)).trans h.fr, Nat.lt_of_lt_of_le h.flt ho.size, own_keptJ h.row ho (fun _ _ h => h), h.ne, fun z hz => (h.each z hz).more ho, fun k hk => Nat.lt_of_lt_of_le (h.kk k hk) ho.size⟩
theorem flat_part (zs : List Pz) (i : Nat) (h : i < zs.length) : ∃ c1 c3, zs.flatMap Pz.c = c1 ++ zs[i].c ++ c3 ∧ c1.length = i * 6 ∧ c1 = (zs.take i).flatMap Pz.c ∧ c3 = (zs.drop (i + 1)).flatMap Pz.c := by
  have flen : ∀ l : List Pz, (l.flatMap Pz.c).length = l.length * 6 := by
    intro l
    induction l with
    | nil => rfl
    | cons a t ih => rw [List.flatMap_cons, List.length_append, ih, Pz.c_len, List.length_cons]; omega
  refine ⟨(zs.take i).flatMap Pz.c, (zs.drop (i + 1)).flatMap Pz.c, ?_, ?_, rfl, rfl⟩
  · have e : zs = zs.take i ++ (zs[i] :: zs.drop (i + 1)) := by rw [← List.drop_eq_getElem_cons h, List.take_append_drop]
    calc zs.flatMap Pz.c = (zs.take i ++ (zs[i] :: zs.drop (i + 1))).flatMap Pz.c := by rw [← e]
      _ = _ := by rw [List.flatMap_append, List.flatMap_cons, List.append_assoc]
  · rw [flen, List.length_take]; omega
/-- A page of the row. -/
theorem Fm.rg {w : World} {f g cap : Nat} {zs : List Pz} (h : Fm K w f g cap zs) (i : Nat) (hi : i < zs.length) : Rg w g (i * 6) zs[i].c := by
  obtain ⟨c1, c3, e, hl, _⟩ := flat_part zs i hi
  have r := own_rg h.row
  rw [e] at r
  have q := r.part
  rwa [hl, Nat.zero_add] at q
/-- The pages are these nodes. -/
structure Fz (N : Nat) (F : Nat → Nd) (zs : List Pz) : Prop where
  len : zs.length = N
  each : ∀ i, pg N i → ∃ ao cp, ∃ h : i < zs.length, zs[i] = (F i).z 0 ao cp
theorem Fst.gd {N : Nat} {F : Nat → Nd} {lo : Nat → En} {A : En → Prop} (h : Fst N F lo A) (hN : N ≤ 65536) (hv : (F 1).lv ≤ 255) {i : Nat} (hp : pg N i) : Gd (F i) := by
  refine ⟨?_, ?_, ⟨lo i, h.ok i hp⟩, h.kok hN hp⟩
  · by_cases q : i = 1
    · rw [q]; exact hv
    · have := h.top i hp q; omega
  · by_cases q : (F i).hi = noE
    · rw [h.last i hp q]; omega
    · have := (h.next i hp q).1.2; omega
theorem Nd.way_right {X : Nd} {v : Nat} {e : En} (h : byd X.hi e = true) : X.way v e = ((X.rt : Int), false) := by unfold Nd.way; rw [if_pos h]
theorem Nd.way_here {X : Nd} {v : Nat} {e : En} (h : byd X.hi e = false) (hv : X.lv = v) : X.way v e = (0, true) := by unfold Nd.way; rw [if_neg (by rw [h]; decide), if_pos hv]
theorem Nd.way_down {X : Nd} {v : Nat} {e : En} (h : byd X.hi e = false) (hv : ¬ X.lv = v) : X.way v e = (chK X.ks e, false) := by unfold Nd.way; rw [if_neg (by rw [h]; decide), if_neg hv]
/-- Where the next round of finds goes. -/
theorem Fst.go {N : Nat} {F : Nat → Nd} {lo : Nat → En} {A : En → Prop} (h : Fst N F lo A) {i v : Nat} {e : En} (hp : pg N i) (he : e.ok = true) (hl : (lo i).lt e) (hv : v ≤ (F i).lv) : ((F i).way v e = (0, true) ∧ (F i).lv = v ∧ byd (F i).hi e = false) ∨ ∃ j : Nat, (F i).way v e = ((j : Int), false) ∧ pg N j ∧ v ≤ (F j).lv ∧ (lo j).lt e ∧ mu N F lo j < mu N F lo i := by
  cases hb : byd (F i).hi e with
  | true =>
    obtain ⟨r1, r2, r3, r4⟩ := h.right hp hb
    exact .inr ⟨_, Nd.way_right hb, r1, by omega, r3, r4⟩
  | false =>
    by_cases q : (F i).lv = v
    · exact .inl ⟨Nd.way_here hb q, q, rfl⟩
    · obtain ⟨c, c1, c2, c3, c4, c5⟩ := h.down hp he hl (by omega)
      exact .inr ⟨c, by rw [Nd.way_down hb q, c1], c2, by omega, c4, c5⟩
set_option maxRecDepth 100000 in
set_option maxHeartbeats 3200000 in
theorem finds_ok (w : World) (f g cap : Nat) (zs : List Pz) (N : Nat) (F : Nat → Nd) (lo : Nat → En) (A : En → Prop) (v : Nat) (e : En) (hM : Fm K w f g cap zs) (hZ : Fz N F zs) (hF : Fst N F lo A) (hN : N ≤ 9999) (hl : (F 1).lv ≤ 255) (hv : v ≤ (F 1).lv) (he : e.ok = true) :
    Calls Tryz.prog 18 #[.pointer (some ⟨f, 0, none⟩), .int .i64 v, e.agg] w fun x w' => ∃ i : Nat, x = .returned (.int .i64 i) ∧ (pg N i ∧ (F i).lv = v ∧ (lo i).lt e ∧ byd (F i).hi e = false) ∧ Only (fun _ => False) w w' := by
  have HV := hide (Ev.new w e)
  have HO := hide (onlyA w (.cells #[.string e.key, .int .i64 e.page, .int .i64 e.slot] 41))
  have HM := hide hM
  have HF := hide hF
  have HZL := hide hZ.len
  have HNN : Hid (N ≤ 9999) := hN
  have HWY : Hid (∀ (W : World) (i : Nat), Only (fun _ => False) w W → pg N i → v ≤ (F i).lv → ∃ (hi : i < zs.length), Calls Tryz.prog 41 #[.agg zs[i].ar, .int .i64 v, .agg #[.string e.key, .int .i64 e.page, .int .i64 e.slot]] W fun x w' => x = .returned (.tuple #[.int .i64 ((F i).way v e).1, .bool ((F i).way v e).2, .int .i64 0]) ∧ Only (fun _ => False) W w') := fun W i ho hp hvi => by
    obtain ⟨ao, cp, hi, hz⟩ := hZ.each i hp
    refine ⟨hi, ?_⟩
    obtain ⟨⟨B, hS, _⟩, _⟩ := hM.each zs[i] (List.getElem_mem hi)
    rw [hz] at hS ⊢
    exact way_nd W 0 (F i) v e B cp ao ((hF.gd (by omega) hl hp).nm (hS.more ho)) (by decide) he hvi
  have HST : Hid (pg N 1 ∧ v ≤ (F 1).lv ∧ (lo 1).lt e ∧ e.ok = true) := ⟨⟨Nat.le_refl _, by have := hF.two; omega⟩, hv, by rw [hF.root.2]; exact noE_lt he, he⟩
  clear hM hZ hF hN hl hv he
  unfold En.agg
  go_enter Tryz.func18, Tryz.ntmps18
  go_upto_region 3 with fail
  obtain ⟨W0, hW0⟩ : ∃ x, w.alloc (.cells #[.string e.key, .int .i64 e.page, .int .i64 e.slot] 41) = x := ⟨_, rfl⟩
  rw [hW0] at HV HO ⊢
  clear hW0
  go_loopw [7, 8] (fun x y wr => ∃ (i k : Nat), x = .int .i64 (i : Int) ∧ y = .int .i64 (k : Int) ∧ Hid (pg N i ∧ v ≤ (F i).lv ∧ (lo i).lt e ∧ mu N F lo i + k ≤ mu N F lo 1) ∧ Hid (Only (fun _ => False) W0 wr)) (fun _ y _ => 10000 - (intOf y).toNat)
  case atStart => exact ⟨1, 0, rfl, rfl, hide ⟨HST.out.1, HST.out.2.1, HST.out.2.2.1, Nat.le_refl _⟩, hide (Only.refl _ _)⟩
  case round =>
    obtain ⟨i, k, rfl, rfl, HI, HW⟩ := hrel
    have hk : (k : Int) < 10000 := by
      have h1 := HI.out.2.2.2
      have h2 := mu_le N F lo 1
      have h3 := HNN.out
      omega
    have hi1 : ¬ (i : Int) < 1 := by have := HI.out.1.1; omega
    have HOW := hide (o2 HO.out HW.out)
    have HM2 := hide (HM.out.more HOW.out)
    obtain ⟨hiL, hway⟩ := HWY.out wr.drew i (o2 HOW.out (Only.drew _ _)) HI.out.1 HI.out.2.1
    have HY := hide hway
    have hi2 : ¬ (zs.length : Int) ≤ (i : Int) := by omega
    have hi3 : (i : Int) < (zs.length : Int) := by omega
    have fc := HM2.out.cell
    have HG := hide (HM2.out.rg i hiL)
    have HV2 := hide (HV.out.more HW.out)
    obtain ⟨z, hz⟩ : ∃ z, zs[i] = z := ⟨_, rfl⟩
    rw [hz] at HY HG
    obtain ⟨n, hn⟩ : ∃ n, zs.length = n := ⟨_, rfl⟩
    rw [hn] at hi2 hi3 fc
    clear hway hz hiL hn
    have c0 := HG.out.cell 0 (.int .i64 z.p.lsn) rfl
    have c1 := HG.out.cell 1 (.int .i64 z.p.kind) rfl
    have c2 := HG.out.cell 2 (.int .i64 z.p.level) rfl
    have c3 := HG.out.cell 3 (.int .i64 z.p.right) rfl
    have c4 := HG.out.cell 4 (.string z.p.high) rfl
    have c5 := HG.out.cell 5 (.slice z.ao z.p.items.length z.cp) rfl
    rw [Nat.add_zero] at c0
    obtain ⟨d0, d1, d2, _⟩ := HV2.out
    obtain ⟨⟨Nx, T⟩, hNT⟩ : ∃ q, (F i).way v e = q := ⟨_, rfl⟩
    have HGO := hide (HF.out.go HI.out.1 HST.out.2.2.2 HI.out.2.2.1 HI.out.2.1)
    rw [hNT] at HY HGO
    clear hNT HWY
    go_upto_region 7 with fail
    go_cut [9, 10, 11] (fun x y u wx => x = .int .i64 Nx ∧ y = .bool T ∧ u = .int .i64 0 ∧ Hid (Only (fun _ => False) wr wx))
    case first =>
      go_region_with (go_at_call 41; refine HY.out.mono ?_; rintro x w1 ⟨rfl, ho⟩; have HO1 := hide (o2 (Only.drew _ wr) ho); clear ho)
      all_goals go_wp2_with fail
      all_goals go_meet
      all_goals exact ⟨rfl, rfl, rfl, HO1⟩
    case rest =>
      obtain ⟨rfl, rfl, rfl, HC⟩ := hcut
      have HW3 := hide (o2 HW.out HC.out)
      clear fc c0 c1 c2 c3 c4 c5 d0 d1 d2
      rcases HGO.out with ⟨q1, q2, q3⟩ | ⟨j, q1, q2⟩
      · have HR : Hid (pg N i ∧ (F i).lv = v ∧ (lo i).lt e ∧ byd (F i).hi e = false) := ⟨HI.out.1, q2, HI.out.2.2.1, q3⟩
        cases q1
        clear q2 q3 HGO
        go_wp2_with fail
        go_ret
        exact ⟨i, rfl, HR.out, o2 HO.out HW3.out⟩
      · cases q1
        have HQ : Hid (pg N j ∧ v ≤ (F j).lv ∧ (lo j).lt e ∧ mu N F lo j + (k + 1) ≤ mu N F lo 1) := ⟨q2.1, q2.2.1, q2.2.2.1, by have h1 := q2.2.2.2; have h2 := HI.out.2.2.2; omega⟩
        clear q2 HGO
        go_wp2_with fail
        go_roundw
        case rel => exact ⟨j, k + 1, rfl, by go_num, HQ, HW3⟩
        case measure => simp [intOf]; omega
end Go.Proofs.YthjjkhacniebiaaGreat

namespace Go.Proofs.YthjjkhacniebiaaGreat
open Go.RowKit

theorem ch_new (w : World) (v0 v1 v2 v3 v4 v5 : Value) (r : Br) : Pag (((w.alloc (.cells #[v0, v1, v2, v3, v4, v5] 24)).alloc (.cells r.cells 36)).alloc (.cells #[.int .i64 0, .int .i64 0, .int .i64 0, .int .i64 0, .string ⟨#[]⟩, .slice none 0 0] 24)) w.heap.size v0 v1 v2 v3 v4 v5 ∧ Rg (((w.alloc (.cells #[v0, v1, v2, v3, v4, v5] 24)).alloc (.cells r.cells 36)).alloc (.cells #[.int .i64 0, .int .i64 0, .int .i64 0, .int .i64 0, .string ⟨#[]⟩, .slice none 0 0] 24)) (w.heap.size + 1) 0 r.cl ∧ Pag (((w.alloc (.cells #[v0, v1, v2, v3, v4, v5] 24)).alloc (.cells r.cells 36)).alloc (.cells #[.int .i64 0, .int .i64 0, .int .i64 0, .int .i64 0, .string ⟨#[]⟩, .slice none 0 0] 24)) (w.heap.size + 1 + 1) (.int .i64 0) (.int .i64 0) (.int .i64 0) (.int .i64 0) (.string ⟨#[]⟩) (.slice none 0 0) ∧ Only (fun _ => False) w (((w.alloc (.cells #[v0, v1, v2, v3, v4, v5] 24)).alloc (.cells r.cells 36)).alloc (.cells #[.int .i64 0, .int .i64 0, .int .i64 0, .int .i64 0, .string ⟨#[]⟩, .slice none 0 0] 24)) := by
  refine ⟨(Pag.new w v0 v1 v2 v3 v4 v5).more (o2 (onlyA _ _) (onlyA _ _)), ?_, ?_, o2 (o2 (onlyA _ _) (onlyA _ _)) (onlyA _ _)⟩
  · have e1 := (Rg.new (w.alloc (.cells #[v0, v1, v2, v3, v4, v5] 24)) r.cells 36).more (onlyA _ (.cells #[.int .i64 0, .int .i64 0, .int .i64 0, .int .i64 0, .string ⟨#[]⟩, .slice none 0 0] 24))
    rw [World.size_alloc] at e1
    exact e1
  · have e1 := Pag.new ((w.alloc (.cells #[v0, v1, v2, v3, v4, v5] 24)).alloc (.cells r.cells 36)) (.int .i64 0) (.int .i64 0) (.int .i64 0) (.int .i64 0) (.string ⟨#[]⟩) (.slice none 0 0)
    rw [World.size_alloc, World.size_alloc] at e1
    exact e1
theorem Nd.rem_items (X : Nd) (e : En) : (X.rem e).items = X.items.take (plE X.es e) ++ X.items.drop (plE X.es e + 1) := by
  show (remK X.ks e).map (itB X.lv) = _
  unfold remK Nd.items Nd.es
  simp
set_option maxRecDepth 100000 in
set_option maxHeartbeats 3200000 in
theorem changed_leaf (w : World) (page : Int) (X : Nd) (e : En) (k : Int) (B cp : Nat) (ao : Option Addr) (hG : Gd X) (hS : Strs w B ao X.items) (hF : Fit ao X.items.length cp) (hv : X.lv = 0) (hb : ¬ X.bad e) (hz : (X.ins e k).size ≤ 512) :
    Calls Tryz.prog 40 #[.agg #[.int .i64 0, .int .i64 3, .int .i64 0, .int .i64 X.rt, .string (hiB X.hi), .slice ao X.items.length cp], .agg (Br.cells ⟨3, page, e.enc, none, 0, 0⟩)] w fun x w' => Res w w' x ((X.ins e k).pg 0) 0 := by
  have HX := hide (ch_new w (.int .i64 0) (.int .i64 3) (.int .i64 0) (.int .i64 X.rt) (.string (hiB X.hi)) (.slice ao X.items.length cp) ⟨3, page, e.enc, none, 0, 0⟩)
  have he : e.ok = true := (Nd.good hb).1
  have HD : Hid (∀ W, Calls Tryz.prog 36 #[.string e.enc] W fun x w' => x = .returned (.tuple #[.agg #[.string e.key, .int .i64 e.page, .int .i64 e.slot], .int .i64 0]) ∧ Only (fun _ => False) W w') := fun W => by
    have h := decode_any e.enc W
    rw [show decE (bl e.enc) = some e from decE_lay he] at h
    exact h
  have HC : Hid (∀ W, Only (fun _ => False) w W → Calls Tryz.prog 55 #[.agg #[.int .i64 0, .int .i64 3, .int .i64 0, .int .i64 X.rt, .string (hiB X.hi), .slice ao X.items.length cp], .agg #[.string e.key, .int .i64 e.page, .int .i64 e.slot]] W fun x w' => Res W w' x ((X.ins e k).pg 0) 0) := fun W ho => by
    have hn := hG.nm (hS.more ho)
    have h := insert_ok W 0 X.rt (hiB X.hi) X.hi e B cp ao X.items X.es (hn.lp hv) hF
    exact h.mono (fun x w' q => ((InsQ.wi (c := k) hv hn.few q).2 hb).2 (by omega))
  clear hG hS hF hv hb hz  he
  obtain ⟨P, hP⟩ : ∃ P, ((X.ins e k).pg 0) = P := ⟨_, rfl⟩
  rw [hP] at HC ⊢
  obtain ⟨D, hD⟩ : ∃ D, e.enc = D := ⟨_, rfl⟩
  rw [hD] at HX HD ⊢
  obtain ⟨R, hR⟩ : ∃ R, (X.rt : Int) = R := ⟨_, rfl⟩
  obtain ⟨h, hh⟩ : ∃ h, hiB X.hi = h := ⟨_, rfl⟩
  obtain ⟨n, hn⟩ : ∃ n, X.items.length = n := ⟨_, rfl⟩
  rw [hR, hh, hn] at HX HC ⊢
  clear hP hD hR hh hn
  unfold Br.cells at HX ⊢
  simp only [] at HX ⊢
  go_enter Tryz.func40, Tryz.ntmps40
  go_upto_region 1 with fail
  obtain ⟨W0, hW0⟩ : ∃ x, ((w.alloc (.cells #[.int .i64 0, .int .i64 3, .int .i64 0, .int .i64 R, .string h, .slice ao n cp] 24)).alloc (.cells #[.int .i64 0, .int .i64 0, .int .i64 0, .int .u8 3, .int .i64 0, .int .i64 page, .int .i64 0, .int .i64 0, .int .i64 0, .int .i64 0, .string D, .slice Option.none 0 0, .slice Option.none 0 0, .slice none 0 0, .slice Option.none 0 0, .slice Option.none 0 0] 36)).alloc (.cells #[.int .i64 0, .int .i64 0, .int .i64 0, .int .i64 0, .string ⟨#[]⟩, .slice none 0 0] 24) = x := ⟨_, rfl⟩
  rw [hW0] at HX ⊢
  clear hW0
  obtain ⟨p0, p1, p2, p3, p4, p5, _⟩ := HX.out.1
  have c3 := HX.out.2.1.cell 3 (.int .u8 3) rfl
  have c10 := HX.out.2.1.cell 10 (.string D) rfl
  rw [Nat.zero_add] at c3 c10
  go_wp2_with fail
  refine (HD.out _).mono ?_
  rintro x w1 ⟨rfl, ho⟩
  have HP1 := hide (HX.out.1.more ho)
  have HR1 := hide (HX.out.2.1.more ho)
  have HQ1 := hide (HX.out.2.2.1.more ho)
  have HO1 := hide (o2 HX.out.2.2.2 ho)
  clear ho p0 p1 p2 p3 p4 p5 c3 c10 HX HD
  go_upto_region 7 with fail
  have HA := hide (onlyA w1 (.cells #[.string e.key, .int .i64 e.page, .int .i64 e.slot] 41))
  have HV := hide (Ev.new w1 e)
  obtain ⟨cb, hcb⟩ : ∃ b, w1.heap.size = b := ⟨_, rfl⟩
  rw [hcb] at HV ⊢
  clear hcb
  obtain ⟨w2, hw2⟩ : ∃ x, w1.alloc (.cells #[.string e.key, .int .i64 e.page, .int .i64 e.slot] 41) = x := ⟨_, rfl⟩
  rw [hw2] at HA HV ⊢
  clear hw2
  have HP2 := hide (HP1.out.more HA.out)
  have HR2 := hide (HR1.out.more HA.out)
  have HQ2 := hide (HQ1.out.more HA.out)
  have HO2 := hide (o2 HO1.out HA.out)
  clear HA HP1 HR1 HQ1 HO1
  obtain ⟨p0, p1, p2, p3, p4, p5, _⟩ := HP2.out
  obtain ⟨d0, d1, d2, _⟩ := HV.out
  have c3 := HR2.out.cell 3 (.int .u8 3) rfl
  rw [Nat.zero_add] at c3
  go_wp2_with fail
  refine (HC.out _ HO2.out).mono ?_
  rintro x w4 ⟨B5, ao5, cp5, rfl, hS5, hF5, ho5, hB5⟩
  have HX2 := hide ho5
  have HS7 := hide (And.intro hS5 (And.intro hF5 hB5))
  have HQ7 := hide (HQ2.out.more ho5)
  have HZ7 : Hid (w.heap.size + 1 + 1 < w2.heap.size) := HQ2.out.lt
  clear hS5 hF5 ho5 hB5 p0 p1 p2 p3 p4 p5 d0 d1 d2 c3
  obtain ⟨q0, q1, q2, q3, q4, q5, g0, g1, g2, g3, g4, g5, ql⟩ := HQ7.out
  go_wp2_with fail
  refine bodyPost_ret (results_page rfl rfl (Pag.six HQ7.out _ _ _ _ _ _)) rfl ?_
  exact resSix (p := P) (k := 0) HS7.out.1 HS7.out.2.1 HX2.out HS7.out.2.2 HO2.out (w.heap.size + 1 + 1) (by omega) HZ7.out _ _ _ _ _ _
set_option maxRecDepth 100000 in
set_option maxHeartbeats 3200000 in
theorem changed_inner (w : World) (page : Int) (X : Nd) (e : En) (k : Int) (B cp : Nat) (ao : Option Addr) (hG : Gd X) (hS : Strs w B ao X.items) (hF : Fit ao X.items.length cp) (hv : 0 < X.lv) (hk : okC k = true) (hb : ¬ X.bad e) (hz : (X.ins e k).size ≤ 512) :
    Calls Tryz.prog 40 #[.agg #[.int .i64 0, .int .i64 3, .int .i64 X.lv, .int .i64 X.rt, .string (hiB X.hi), .slice ao X.items.length cp], .agg (Br.cells ⟨3, page, (e.encS k), none, 0, 0⟩)] w fun x w' => Res w w' x ((X.ins e k).pg 0) 0 := by
  have HX := hide (ch_new w (.int .i64 0) (.int .i64 3) (.int .i64 X.lv) (.int .i64 X.rt) (.string (hiB X.hi)) (.slice ao X.items.length cp) ⟨3, page, (e.encS k), none, 0, 0⟩)
  have he := (Nd.good hb).1
  have HD : Hid (∀ W, Calls Tryz.prog 51 #[.string (e.encS k)] W fun x w' => x = .returned (.tuple #[.agg #[.string e.key, .int .i64 e.page, .int .i64 e.slot], .int .i64 k, .int .i64 0]) ∧ Only (fun _ => False) W w') := fun W => by
    have h := unsep_any (e.encS k) W
    rw [show decS (bl (e.encS k)) = some (e, k) from decS_lay (En.sp_iff.2 (.inr he)) hk] at h
    exact h
  have HC : Hid (∀ W, Only (fun _ => False) w W → Calls Tryz.prog 56 #[.agg #[.int .i64 0, .int .i64 3, .int .i64 X.lv, .int .i64 X.rt, .string (hiB X.hi), .slice ao X.items.length cp], .agg #[.string e.key, .int .i64 e.page, .int .i64 e.slot], .int .i64 k] W fun x w' => Res W w' x ((X.ins e k).pg 0) 0) := fun W ho => by
    have hn := hG.nm (hS.more ho)
    have h := post_ok W 0 X.lv X.rt (hiB X.hi) X.hi e k B cp ao X.items X.ks (hn.ip hv) hF
    exact h.mono (fun x w' q => ((PosQ.wi hv hn.few hk q).2 hb).2 (by omega))
  have hv0 : 0 < (X.lv : Int) := by omega
  clear hG hS hF hv hb hz hk he
  obtain ⟨P, hP⟩ : ∃ P, ((X.ins e k).pg 0) = P := ⟨_, rfl⟩
  rw [hP] at HC ⊢
  obtain ⟨D, hD⟩ : ∃ D, (e.encS k) = D := ⟨_, rfl⟩
  rw [hD] at HX HD ⊢
  obtain ⟨R, hR⟩ : ∃ R, (X.rt : Int) = R := ⟨_, rfl⟩
  obtain ⟨h, hh⟩ : ∃ h, hiB X.hi = h := ⟨_, rfl⟩
  obtain ⟨n, hn⟩ : ∃ n, X.items.length = n := ⟨_, rfl⟩
  rw [hR, hh, hn] at HX HC ⊢
  clear hP hD hR hh hn
  obtain ⟨L, hL⟩ : ∃ L, (X.lv : Int) = L := ⟨_, rfl⟩
  rw [hL] at HX HC hv0 ⊢
  clear hL
  unfold Br.cells at HX ⊢
  simp only [] at HX ⊢
  go_enter Tryz.func40, Tryz.ntmps40
  go_upto_region 1 with fail
  obtain ⟨W0, hW0⟩ : ∃ x, ((w.alloc (.cells #[.int .i64 0, .int .i64 3, .int .i64 L, .int .i64 R, .string h, .slice ao n cp] 24)).alloc (.cells #[.int .i64 0, .int .i64 0, .int .i64 0, .int .u8 3, .int .i64 0, .int .i64 page, .int .i64 0, .int .i64 0, .int .i64 0, .int .i64 0, .string D, .slice Option.none 0 0, .slice Option.none 0 0, .slice none 0 0, .slice Option.none 0 0, .slice Option.none 0 0] 36)).alloc (.cells #[.int .i64 0, .int .i64 0, .int .i64 0, .int .i64 0, .string ⟨#[]⟩, .slice none 0 0] 24) = x := ⟨_, rfl⟩
  rw [hW0] at HX ⊢
  clear hW0
  obtain ⟨p0, p1, p2, p3, p4, p5, _⟩ := HX.out.1
  have c3 := HX.out.2.1.cell 3 (.int .u8 3) rfl
  have c10 := HX.out.2.1.cell 10 (.string D) rfl
  rw [Nat.zero_add] at c3 c10
  go_wp2_with fail
  refine (HD.out _).mono ?_
  rintro x w1 ⟨rfl, ho⟩
  have HP1 := hide (HX.out.1.more ho)
  have HR1 := hide (HX.out.2.1.more ho)
  have HQ1 := hide (HX.out.2.2.1.more ho)
  have HO1 := hide (o2 HX.out.2.2.2 ho)
  clear ho p0 p1 p2 p3 p4 p5 c3 c10 HX HD
  go_upto_region 3 with fail
  have HA := hide (onlyA w1 (.cells #[.string e.key, .int .i64 e.page, .int .i64 e.slot] 41))
  have HV := hide (Ev.new w1 e)
  obtain ⟨cb, hcb⟩ : ∃ b, w1.heap.size = b := ⟨_, rfl⟩
  rw [hcb] at HV ⊢
  clear hcb
  obtain ⟨w2, hw2⟩ : ∃ x, w1.alloc (.cells #[.string e.key, .int .i64 e.page, .int .i64 e.slot] 41) = x := ⟨_, rfl⟩
  rw [hw2] at HA HV ⊢
  clear hw2
  have HP2 := hide (HP1.out.more HA.out)
  have HR2 := hide (HR1.out.more HA.out)
  have HQ2 := hide (HQ1.out.more HA.out)
  have HO2 := hide (o2 HO1.out HA.out)
  clear HA HP1 HR1 HQ1 HO1
  obtain ⟨p0, p1, p2, p3, p4, p5, _⟩ := HP2.out
  obtain ⟨d0, d1, d2, _⟩ := HV.out
  have c3 := HR2.out.cell 3 (.int .u8 3) rfl
  rw [Nat.zero_add] at c3
  go_wp2_with fail
  refine (HC.out _ HO2.out).mono ?_
  rintro x w4 ⟨B5, ao5, cp5, rfl, hS5, hF5, ho5, hB5⟩
  have HX2 := hide ho5
  have HS7 := hide (And.intro hS5 (And.intro hF5 hB5))
  have HQ7 := hide (HQ2.out.more ho5)
  have HZ7 : Hid (w.heap.size + 1 + 1 < w2.heap.size) := HQ2.out.lt
  clear hS5 hF5 ho5 hB5 p0 p1 p2 p3 p4 p5 d0 d1 d2 c3
  obtain ⟨q0, q1, q2, q3, q4, q5, g0, g1, g2, g3, g4, g5, ql⟩ := HQ7.out
  go_wp2_with fail
  refine bodyPost_ret (results_page rfl rfl (Pag.six HQ7.out _ _ _ _ _ _)) rfl ?_
  exact resSix (p := P) (k := 0) HS7.out.1 HS7.out.2.1 HX2.out HS7.out.2.2 HO2.out (w.heap.size + 1 + 1) (by omega) HZ7.out _ _ _ _ _ _
set_option maxRecDepth 100000 in
set_option maxHeartbeats 3200000 in
theorem changed_out (w : World) (page : Int) (X : Nd) (e : En) (B cp : Nat) (ao : Option Addr) (hG : Gd X) (hS : Strs w B ao X.items) (hF : Fit ao X.items.length cp) (hv : X.lv = 0) (hm : e ∈ X.es) :
    Calls Tryz.prog 40 #[.agg #[.int .i64 0, .int .i64 3, .int .i64 0, .int .i64 X.rt, .string (hiB X.hi), .slice ao X.items.length cp], .agg (Br.cells ⟨4, page, e.enc, none, 0, 0⟩)] w fun x w' => Res w w' x ((X.rem e).pg 0) 0 := by
  have HX := hide (ch_new w (.int .i64 0) (.int .i64 3) (.int .i64 0) (.int .i64 X.rt) (.string (hiB X.hi)) (.slice ao X.items.length cp) ⟨4, page, e.enc, none, 0, 0⟩)
  have he : e.ok = true := by obtain ⟨lo, ho⟩ := hG.ok; obtain ⟨q, hq, rfl⟩ := List.mem_map.1 hm; exact (ho.leaf hv q hq).1
  have HD : Hid (∀ W, Calls Tryz.prog 36 #[.string e.enc] W fun x w' => x = .returned (.tuple #[.agg #[.string e.key, .int .i64 e.page, .int .i64 e.slot], .int .i64 0]) ∧ Only (fun _ => False) W w') := fun W => by
    have h := decode_any e.enc W
    rw [show decE (bl e.enc) = some e from decE_lay he] at h
    exact h
  have HC : Hid (∀ W, Only (fun _ => False) w W → Calls Tryz.prog 79 #[.agg #[.int .i64 0, .int .i64 3, .int .i64 0, .int .i64 X.rt, .string (hiB X.hi), .slice ao X.items.length cp], .agg #[.string e.key, .int .i64 e.page, .int .i64 e.slot]] W fun x w' => Res W w' x ((X.rem e).pg 0) 0) := fun W ho => by
    have hn := hG.nm (hS.more ho)
    have h := remove_ok W 0 X.rt (hiB X.hi) X.hi e B cp ao X.items X.es (hn.lp hv) hF
    refine h.mono (fun x w' q => ?_)
    have q2 := q.good hm
    have ep : (⟨0, 3, 0, X.rt, hiB X.hi, X.items.take (plE X.es e) ++ X.items.drop (plE X.es e + 1)⟩ : Pg) = (X.rem e).pg 0 := by
      show _ = (⟨0, 3, ((X.lv : Nat) : Int), X.rt, hiB X.hi, (X.rem e).items⟩ : Pg)
      rw [hv, Nd.rem_items]; rfl
    rw [ep] at q2
    exact q2
  clear hG hS hF hv hm  he
  obtain ⟨P, hP⟩ : ∃ P, ((X.rem e).pg 0) = P := ⟨_, rfl⟩
  rw [hP] at HC ⊢
  obtain ⟨D, hD⟩ : ∃ D, e.enc = D := ⟨_, rfl⟩
  rw [hD] at HX HD ⊢
  obtain ⟨R, hR⟩ : ∃ R, (X.rt : Int) = R := ⟨_, rfl⟩
  obtain ⟨h, hh⟩ : ∃ h, hiB X.hi = h := ⟨_, rfl⟩
  obtain ⟨n, hn⟩ : ∃ n, X.items.length = n := ⟨_, rfl⟩
  rw [hR, hh, hn] at HX HC ⊢
  clear hP hD hR hh hn
  unfold Br.cells at HX ⊢
  simp only [] at HX ⊢
  go_enter Tryz.func40, Tryz.ntmps40
  go_upto_region 1 with fail
  obtain ⟨W0, hW0⟩ : ∃ x, ((w.alloc (.cells #[.int .i64 0, .int .i64 3, .int .i64 0, .int .i64 R, .string h, .slice ao n cp] 24)).alloc (.cells #[.int .i64 0, .int .i64 0, .int .i64 0, .int .u8 4, .int .i64 0, .int .i64 page, .int .i64 0, .int .i64 0, .int .i64 0, .int .i64 0, .string D, .slice Option.none 0 0, .slice Option.none 0 0, .slice none 0 0, .slice Option.none 0 0, .slice Option.none 0 0] 36)).alloc (.cells #[.int .i64 0, .int .i64 0, .int .i64 0, .int .i64 0, .string ⟨#[]⟩, .slice none 0 0] 24) = x := ⟨_, rfl⟩
  rw [hW0] at HX ⊢
  clear hW0
  obtain ⟨p0, p1, p2, p3, p4, p5, _⟩ := HX.out.1
  have c3 := HX.out.2.1.cell 3 (.int .u8 4) rfl
  have c10 := HX.out.2.1.cell 10 (.string D) rfl
  rw [Nat.zero_add] at c3 c10
  go_wp2_with fail
  refine (HD.out _).mono ?_
  rintro x w1 ⟨rfl, ho⟩
  have HP1 := hide (HX.out.1.more ho)
  have HR1 := hide (HX.out.2.1.more ho)
  have HQ1 := hide (HX.out.2.2.1.more ho)
  have HO1 := hide (o2 HX.out.2.2.2 ho)
  clear ho p0 p1 p2 p3 p4 p5 c3 c10 HX HD
  go_upto_region 7 with fail
  have HA := hide (onlyA w1 (.cells #[.string e.key, .int .i64 e.page, .int .i64 e.slot] 41))
  have HV := hide (Ev.new w1 e)
  obtain ⟨cb, hcb⟩ : ∃ b, w1.heap.size = b := ⟨_, rfl⟩
  rw [hcb] at HV ⊢
  clear hcb
  obtain ⟨w2, hw2⟩ : ∃ x, w1.alloc (.cells #[.string e.key, .int .i64 e.page, .int .i64 e.slot] 41) = x := ⟨_, rfl⟩
  rw [hw2] at HA HV ⊢
  clear hw2
  have HP2 := hide (HP1.out.more HA.out)
  have HR2 := hide (HR1.out.more HA.out)
  have HQ2 := hide (HQ1.out.more HA.out)
  have HO2 := hide (o2 HO1.out HA.out)
  clear HA HP1 HR1 HQ1 HO1
  obtain ⟨p0, p1, p2, p3, p4, p5, _⟩ := HP2.out
  obtain ⟨d0, d1, d2, _⟩ := HV.out
  have c3 := HR2.out.cell 3 (.int .u8 4) rfl
  rw [Nat.zero_add] at c3
  go_wp2_with fail
  refine (HC.out _ HO2.out).mono ?_
  rintro x w4 ⟨B5, ao5, cp5, rfl, hS5, hF5, ho5, hB5⟩
  have HX2 := hide ho5
  have HS7 := hide (And.intro hS5 (And.intro hF5 hB5))
  have HQ7 := hide (HQ2.out.more ho5)
  have HZ7 : Hid (w.heap.size + 1 + 1 < w2.heap.size) := HQ2.out.lt
  clear hS5 hF5 ho5 hB5 p0 p1 p2 p3 p4 p5 d0 d1 d2 c3
  obtain ⟨q0, q1, q2, q3, q4, q5, g0, g1, g2, g3, g4, g5, ql⟩ := HQ7.out
  go_wp2_with fail
  refine bodyPost_ret (results_page rfl rfl (Pag.six HQ7.out _ _ _ _ _ _)) rfl ?_
  exact resSix (p := P) (k := 0) HS7.out.1 HS7.out.2.1 HX2.out HS7.out.2.2 HO2.out (w.heap.size + 1 + 1) (by omega) HZ7.out _ _ _ _ _ _
end Go.Proofs.YthjjkhacniebiaaGreat
