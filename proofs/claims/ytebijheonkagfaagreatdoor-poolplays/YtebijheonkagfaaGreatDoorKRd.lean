/- What body, Check and Encode do. -/
import Derived.Test.YtebijheonkagfaaGreatDoorKRc
namespace Go.Proofs.YtebijheonkagfaaGreatDoor
open Go.RowKit
structure Lw (W0 w : World) (b : Nat) (l : List UInt8) (N : Nat) : Prop where
  ex : ∃ row, Wr w b row l ∧ (∀ k, row = some k → W0.heap.size ≤ k)
  only : Only (fun _ => False) W0 w
  ge : W0.heap.size ≤ b
  len : l.length ≤ N
theorem Lw.more {W0 w w' : World} {b : Nat} {l : List UInt8} {N : Nat} (h : Lw W0 w b l N) (ho : Only (fun _ => False) w w') : Lw W0 w' b l N := by
  obtain ⟨row, hw, hr⟩ := h.ex
  exact ⟨⟨row, hw.kept ho (fun h => h) (fun _ _ h => h), hr⟩, o2 h.only ho, h.ge, h.len⟩
theorem Lw.grow {W0 w w' : World} {b : Nat} {l' : List UInt8} {N' : Nat} {row row' : Option Nat} (ho : Only (fun _ => False) W0 w) (hge : W0.heap.size ≤ b) (hr : ∀ k, row = some k → W0.heap.size ≤ k) (hW : Wr w' b row' l') (hg : WGro w w' b row row') (hN : l'.length ≤ N') : Lw W0 w' b l' N' := by
  refine ⟨⟨row', hW, ?_⟩, ho.trans hg.only ?_, hge, hN⟩
  · intro k hk
    rcases hg.new with e | ⟨g, e, h2⟩
    · exact hr k (e.symm.trans hk)
    · rw [e] at hk; injection hk with hk; have := ho.size; omega
  · rintro i hi (e | e)
    · omega
    · have := hr i e.symm; omega
theorem Lw.le {W0 w : World} {b : Nat} {l : List UInt8} {N N' : Nat} (h : Lw W0 w b l N) (hN : N ≤ N') : Lw W0 w b l N' := ⟨h.ex, h.only, h.ge, Nat.le_trans h.len hN⟩
theorem Lw.new (w : World) : Lw w (w.alloc (.cells #[.slice none 0 0] 218)) w.heap.size [] 0 :=
  ⟨⟨none, Wr.new w, fun k hk => by cases hk⟩, onlyA _ _, Nat.le_refl _, Nat.le_refl _⟩
theorem sev_len (n : Nat) : (sev n).length ≤ 10 := sevF_len 9 n
theorem lw_nums (W0 w : World) (b : Nat) (l : List UInt8) (N : Nat) (h : Lw W0 w b l N) (B cp : Nat) (ao : Option Addr) (zs : List Int) (hz : Zs w B ao zs) (hb : ∀ z ∈ zs, z ≤ top) (hB : 0 < zs.length → B ≠ b ∧ ∀ row, Wr w b row l → some B ≠ row) (hN : N + 10 * zs.length ≤ 1000000000) :
    Calls Tryz.prog 148 #[.pointer (some ⟨b, 0, none⟩), .slice ao zs.length cp] w fun e w' => e = .returned (.tuple #[]) ∧ Lw W0 w' b (l ++ nums zs) (N + 10 * zs.length) := by
  obtain ⟨row, hW, hr⟩ := h.ex; have hl := h.len
  by_cases h0 : zs.length = 0
  · have e : zs = [] := List.eq_nil_of_length_eq_zero h0
    subst e; refine (wnum_none w b ao cp).mono ?_; rintro e w' ⟨rfl, rfl⟩; refine ⟨rfl, ?_⟩
    simpa [nums] using h
  · obtain ⟨o, rfl, hc⟩ := hz.at_ (by omega)
    obtain ⟨h1, h2⟩ := hB (by omega)
    have hg : ∀ k, k < zs.length → zs.getD k 0 = zs[k]?.getD 0 := fun k _ => by rw [List.getD_eq_getElem?_getD]
    refine (wnum_any w b row l zs B o cp hW (fun k hk => by rw [hc k hk, hg k hk, List.getElem?_eq_getElem hk]; rfl) (fun k hk => by
      rw [hg k hk, List.getElem?_eq_getElem hk]; have := hb zs[k] (List.getElem_mem hk); unfold top at this; simp only [Option.getD_some]
      omega) h1 (h2 row hW) (hz.lt (by omega)) (by omega)).mono ?_
    rintro e w' ⟨rfl, row', hW', hg'⟩; refine ⟨rfl, Lw.grow h.only h.ge hr hW' hg' ?_⟩; have := nums_len zs; rw [List.length_append]; omega
theorem lw_old (W0 w : World) (b : Nat) (l : List UInt8) (N : Nat) (h : Lw W0 w b l N) (B cp : Nat) (ao : Option Addr) (zs : List Int) (hz : Zs W0 B ao zs) (hb : ∀ z ∈ zs, z ≤ top) (hN : N + 10 * zs.length ≤ 1000000000) :
    Calls Tryz.prog 148 #[.pointer (some ⟨b, 0, none⟩), .slice ao zs.length cp] w fun e w' => e = .returned (.tuple #[]) ∧ Lw W0 w' b (l ++ nums zs) (N + 10 * zs.length) := by
  obtain ⟨row, hW, hr⟩ := h.ex; refine lw_nums W0 w b l N h B cp ao zs (hz.more h.only) hb (fun h0 => ?_) hN; have h1 := hz.lt h0; have h2 := h.ge; refine ⟨by omega, fun row' hW' e => ?_⟩; obtain ⟨v, hc, hrow⟩ := hW'.ex; have := hrow.lt B e.symm
  omega
theorem lw_new (W0 w : World) (b : Nat) (l : List UInt8) (N : Nat) (h : Lw W0 w b l N) (zs : List Int) (n : Nat) (hn : n = zs.length) (hz : Zs (w.alloc (.cells (zs.map (Value.int .i64)).toArray 3)) w.heap.size (some ⟨w.heap.size, 0, none⟩) zs) (hb : ∀ z ∈ zs, z ≤ top) (hN : N + 10 * zs.length ≤ 1000000000) :
    Calls Tryz.prog 148 #[.pointer (some ⟨b, 0, none⟩), .slice (some ⟨w.heap.size, 0, none⟩) n n] (w.alloc (.cells (zs.map (Value.int .i64)).toArray 3)) fun e w' => e = .returned (.tuple #[]) ∧ Lw W0 w' b (l ++ nums zs) (N + 10 * zs.length) := by
  subst hn; have hg := h.ge; obtain ⟨row, hW, hr⟩ := h.ex; have hlt := hW.lt; refine lw_nums W0 _ b l N (h.more (onlyA _ _)) _ _ _ zs hz hb (fun h0 => ⟨by omega, fun row' hW' e => ?_⟩) hN; obtain ⟨v, hc, hrow⟩ := hW.ex; obtain ⟨v', hc', hrow'⟩ := hW'.ex; have hcc : (w.alloc (.cells (zs.map (Value.int .i64)).toArray 3)).cell? ⟨b, 0, none⟩ = some v := ((onlyA w _).cell (p := ⟨b, 0, none⟩) hlt (fun h => h)).trans hc; rw [hcc] at hc'
  injection hc' with hc'
  subst hc'; have e1 := hrow'.at_; have e2 := hrow.at_; rw [e1, ← e] at e2; have := hrow.lt w.heap.size e2.symm
  omega
theorem lw_one (W0 w : World) (b : Nat) (l : List UInt8) (N : Nat) (h : Lw W0 w b l N) (z : Int) (hb : z ≤ top) (hN : N + 10 ≤ 1000000000) :
    Calls Tryz.prog 148 #[.pointer (some ⟨b, 0, none⟩), .slice (some ⟨w.heap.size, 0, none⟩) 1 1] (w.alloc (.cells #[.int .i64 z] 3)) fun e w' => e = .returned (.tuple #[]) ∧ Lw W0 w' b (l ++ sev z.toNat) (N + 10) := by
  have h1 := lw_new W0 w b l N h [z] 1 rfl (Zs.one w z) (by intro y hy; simp at hy; subst hy; exact hb) (by simpa using hN)
  simpa [nums] using h1
theorem lw_two (W0 w : World) (b : Nat) (l : List UInt8) (N : Nat) (h : Lw W0 w b l N) (y z : Int) (hy : y ≤ top) (hb : z ≤ top) (hN : N + 20 ≤ 1000000000) :
    Calls Tryz.prog 148 #[.pointer (some ⟨b, 0, none⟩), .slice (some ⟨w.heap.size, 0, none⟩) 2 2] (w.alloc (.cells #[.int .i64 y, .int .i64 z] 3)) fun e w' => e = .returned (.tuple #[]) ∧ Lw W0 w' b (l ++ prL (y, z)) (N + 20) := by
  have h1 := lw_new W0 w b l N h [y, z] 2 rfl (Zs.two w y z) (by intro x hx; simp at hx; rcases hx with rfl | rfl <;> assumption) (by simpa using hN)
  simpa [nums, prL] using h1
theorem Zs.ten (w : World) (a b c d e f g h i j : Int) : Zs (w.alloc (.cells #[.int .i64 a, .int .i64 b, .int .i64 c, .int .i64 d, .int .i64 e, .int .i64 f, .int .i64 g, .int .i64 h, .int .i64 i, .int .i64 j] 3)) w.heap.size (some ⟨w.heap.size, 0, none⟩) [a, b, c, d, e, f, g, h, i, j] :=
  ⟨fun _ => ⟨0, rfl, fun k hk => by
    match k, hk with
    | 0, _ => simp
    | 1, _ => simp
    | 2, _ => simp
    | 3, _ => simp
    | 4, _ => simp
    | 5, _ => simp
    | 6, _ => simp
    | 7, _ => simp
    | 8, _ => simp
    | 9, _ => simp⟩, fun _ => by simp, by simp⟩
theorem lw_ten (W0 w : World) (b : Nat) (h : Lw W0 w b [] 0) (a0 a1 a2 a3 a4 a5 a6 a7 a8 a9 : Int) (hb : ∀ z ∈ [a0, a1, a2, a3, a4, a5, a6, a7, a8, a9], z ≤ top) :
    Calls Tryz.prog 148 #[.pointer (some ⟨b, 0, none⟩), .slice (some ⟨w.heap.size, 0, none⟩) 10 10] (w.alloc (.cells #[.int .i64 a0, .int .i64 a1, .int .i64 a2, .int .i64 a3, .int .i64 a4, .int .i64 a5, .int .i64 a6, .int .i64 a7, .int .i64 a8, .int .i64 a9] 3)) fun e w' => e = .returned (.tuple #[]) ∧ Lw W0 w' b (nums [a0, a1, a2, a3, a4, a5, a6, a7, a8, a9]) 100 :=
  lw_new W0 w b [] 0 h [a0, a1, a2, a3, a4, a5, a6, a7, a8, a9] 10 rfl (Zs.ten w a0 a1 a2 a3 a4 a5 a6 a7 a8 a9) hb (by simp)
theorem lw_text (W0 w : World) (b : Nat) (l : List UInt8) (N : Nat) (h : Lw W0 w b l N) (s : ByteArray) (hs : s.size ≤ 512) (hN : N + 522 ≤ 1000000000) :
    Calls Tryz.prog 149 #[.pointer (some ⟨b, 0, none⟩), .string s] w fun e w' => e = .returned (.tuple #[]) ∧ Lw W0 w' b (l ++ textL s) (N + 522) := by
  obtain ⟨row, hW, hr⟩ := h.ex; have hl := h.len; refine (wtext_any w b row l s hW (by omega)).mono ?_; rintro e w' ⟨rfl, row', hW', hg'⟩; refine ⟨rfl, Lw.grow h.only h.ge hr hW' hg' ?_⟩; have := sev_len s.size; unfold textL; rw [List.length_append, List.length_append, bl_len]; omega
theorem lw_bytes (W0 w : World) (b : Nat) (l : List UInt8) (N : Nat) (h : Lw W0 w b l N) :
    Calls Tryz.prog 150 #[.pointer (some ⟨b, 0, none⟩)] w fun e w' => e = .returned (.string (str l)) ∧ w' = w := by
  obtain ⟨row, hW, hr⟩ := h.ex
  exact wbytes_any w b row l hW
set_option maxRecDepth 100000 in
set_option maxHeartbeats 1600000 in
theorem lay_any (w : World) (r : Rc) (L : Loc) (h : RcAt w r L) (k0 : 1 ≤ r.kind) (k1 : r.kind ≤ 13) (hr : r.inRange) (hs : r.short) (he : imErr r.images = 0) (Bt ct : Nat) (at' : Option Addr) (ht : Strs w Bt at' (bares r.images)) :
    Calls Tryz.prog 112 #[.agg (r.cells L), .slice at' r.images.length ct] w fun e w' => e = .returned (.string (str r.lay)) ∧ Only (fun _ => False) w w' := by
  have HR := hide h; have HT := hide ht; have HRG := hide hr; have HE := hide he; have HOX := hide (onlyA w (.cells (r.cells L) 59)); have HB := hide (Bx.new w r L); obtain ⟨W0, hW0⟩ : ∃ W0, w.alloc (.cells (r.cells L) 59) = W0 := ⟨_, rfl⟩; rw [hW0] at HOX HB; have HW0 := hide hW0
  have HZ0 : Hid (W0.heap.size = w.heap.size + 1) := by unfold Hid; rw [← hW0]; simp
  have HR0 := hide (HR.out.go HOX.out); obtain ⟨T, hims⟩ := HR0.out.images; have HI := hide hims; obtain ⟨s1, s2, s3, s4, s5, s6⟩ := hs; have hten := hr.ten; simp only [List.mem_cons, List.not_mem_nil, or_false, forall_eq_or_imp, forall_eq] at hten; obtain ⟨t0, t1, t2, t3, t4, t5, t6, t7, t8⟩ := hten
  have H10 : Hid (∀ z ∈ [r.lsn, r.prev, r.next, r.kind, r.xid, r.page, r.slot, r.old, r.new, r.redo], z ≤ top) := by
    intro z hz; simp only [List.mem_cons, List.not_mem_nil, or_false] at hz
    rcases hz with rfl | rfl | rfl | rfl | rfl | rfl | rfl | rfl | rfl | rfl
    · exact t0.2
    · exact t1.2
    · exact t2.2
    · unfold top; omega
    · exact t4.2
    · exact t5.2
    · exact t6.2
    · exact t7.2
    · exact t8.2
    · exact t3.2
  have hk : wrap64 r.kind = r.kind := w64_id _ (by omega); clear h ht hr he hW0 hims t0 t1 t2 t3 t4 t5 t6 t7 t8
  go_enter Tryz.func112, Tryz.ntmps112
  go_wp2_with fail
  rw [HW0.out]; refine (new_any W0).mono ?_; rintro e w1 ⟨rfl, hw1⟩; have HL1 := hide (Lw.new W0); rw [← hw1] at HL1; have HB1 := hide (HB.out.more HL1.out.only); clear hw1; rw [HZ0.out] at HL1 ⊢; obtain ⟨B, hBe⟩ : ∃ B, w.heap.size + 1 = B := ⟨_, rfl⟩; rw [hBe] at HL1 ⊢; clear hBe; obtain ⟨b0, b1, b2, b3, b4, b5, b6, b7, b8, b9, _, _, _, _, _, _, _⟩ := HB1.out
  go_wp2_with fail
  refine (lw_ten W0 w1 B HL1.out _ _ _ _ _ _ _ _ _ _ H10.out).mono ?_; rintro e w2 ⟨rfl, hl2⟩; obtain ⟨l2, e2⟩ : ∃ l2, nums [r.lsn, r.prev, r.next, r.kind, r.xid, r.page, r.slot, r.old, r.new, r.redo] = l2 := ⟨_, rfl⟩; rw [e2] at hl2; have E2 := hide e2; have HL2 := hide hl2; have c2 := (HB.out.more hl2.only).c10; clear hl2 e2 b0 b1 b2 b3 b4 b5 b6 b7 b8 b9
  go_wp2_with fail
  refine (lw_text W0 w2 B _ _ HL2.out r.data s1 (by omega)).mono ?_; rintro e w3 ⟨rfl, hl3⟩; obtain ⟨l3, e3⟩ : ∃ l3, l2 ++ textL r.data = l3 := ⟨_, rfl⟩; rw [e3] at hl3; have E3 := hide e3; have HL3 := hide hl3; have c3 := (HB.out.more hl3.only).c11; clear hl3 e3 c2
  go_wp2_with fail
  refine (lw_one W0 w3 B _ _ HL3.out (r.slots.length : Int) (by unfold top; omega) (by omega)).mono ?_; rintro e w4 ⟨rfl, hl4⟩; rw [Int.toNat_natCast] at hl4; obtain ⟨l4, e4⟩ : ∃ l4, l3 ++ sev r.slots.length = l4 := ⟨_, rfl⟩; rw [e4] at hl4; have E4 := hide e4; have HL4 := hide hl4; have c4 := (HB.out.more hl4.only).c11; clear hl4 e4 c3
  go_wp2_with fail
  refine (lw_old W0 w4 B _ _ HL4.out L.b1 L.c1 L.a1 r.slots HR0.out.slots (fun z hz => (HRG.out.slots z hz).2) (by omega)).mono ?_; rintro e w5 ⟨rfl, hl5⟩; obtain ⟨l5, e5⟩ : ∃ l5, l4 ++ nums r.slots = l5 := ⟨_, rfl⟩; rw [e5] at hl5; have E5 := hide e5; have HL5 := hide (hl5.le (N' := 4000) (by omega)); have c5 := (HB.out.more hl5.only).c12; clear hl5 e5 c4
  go_wp2_with fail
  refine (lw_one W0 w5 B _ _ HL5.out (r.more.length : Int) (by unfold top; omega) (by omega)).mono ?_; rintro e w6 ⟨rfl, hl6⟩; rw [Int.toNat_natCast] at hl6; obtain ⟨l6, e6⟩ : ∃ l6, l5 ++ sev r.more.length = l6 := ⟨_, rfl⟩; rw [e6] at hl6; have E6 := hide e6; have HL6 := hide hl6; have c6 := (HB.out.more hl6.only).c12; clear hl6 e6 c5
  go_wp2_with fail
  refine (lw_old W0 w6 B _ _ HL6.out L.b2 L.c2 L.a2 r.more HR0.out.more (fun z hz => (HRG.out.more z hz).2) (by omega)).mono ?_; rintro e w7 ⟨rfl, hl7⟩; obtain ⟨l7, e7⟩ : ∃ l7, l6 ++ nums r.more = l7 := ⟨_, rfl⟩; rw [e7] at hl7; have E7 := hide e7; have HL7 := hide (hl7.le (N' := 7000) (by omega)); have c7 := (HB.out.more hl7.only).c13; clear hl7 e7 c6
  go_wp2_with fail
  refine (lw_one W0 w7 B _ _ HL7.out (r.images.length : Int) (by unfold top; omega) (by omega)).mono ?_; rintro e w8 ⟨rfl, hl8⟩; rw [Int.toNat_natCast] at hl8; obtain ⟨l8, e8⟩ : ∃ l8, l7 ++ sev r.images.length = l8 := ⟨_, rfl⟩; rw [e8] at hl8; have E8 := hide e8; have HL8 := hide (hl8.le (N' := 8000) (by omega)); have c8 := (HB.out.more hl8.only).c13; clear hl8 e8 c7
  go_wp2_with fail
  go_loopw [70] (fun y wr => ∃ (j : Nat), j ≤ r.images.length ∧ y = .int .i64 (j : Int) ∧ Hid (Lw W0 wr B (l8 ++ ((r.images.take j).map imL).flatten) (8000 + 600 * j))) (fun y _ => r.images.length - (intOf y).toNat)
  case atStart => exact ⟨0, by omega, rfl, by simpa using HL8⟩
  case round =>
    obtain ⟨j, hj, rfl, HLr⟩ := hrel
    by_cases hlt : j < r.images.length
    · obtain ⟨o, e1, c1⟩ := (HI.out.more HLr.out.only).at_ (by omega)
      obtain ⟨D, a, c, k1, _⟩ := c1 j hlt
      have hj1 : (j : Int) < (r.images.length : Int) := by omega
      obtain ⟨z, hz⟩ : ∃ z, r.images[j] = z := ⟨_, rfl⟩
      have hmem : z ∈ r.images := by rw [← hz]; exact List.getElem_mem hlt
      have hpg := HRG.out.images z hmem; have hvz := imErr_all HE.out z hmem
      have HTK : Hid (((r.images.take (j + 1)).map imL).flatten = ((r.images.take j).map imL).flatten ++ imL z) := by
        unfold Hid; rw [List.take_succ_eq_append_getElem hlt, hz]; simp
      have hbj : j < (bares r.images).length := by simpa [bares] using hlt
      obtain ⟨o2', e2', ct'⟩ := ((HT.out.more HOX.out).more HLr.out.only).at_ (by omega); have kt := ct' j hbj
      have hbz : (bares r.images)[j] = str (bare z.body.enc) := by simp [bares, hz]
      rw [hbz] at kt; obtain ⟨X, hX⟩ : ∃ X, str (bare z.body.enc) = X := ⟨_, rfl⟩
      have hXs : X.size ≤ 512 := by
        rw [← hX, str_size]; have := bare_len z.body.enc; rw [enc_len _ hvz.2.2.2.2] at this
        exact this
      have HXT : Hid (imL z = sev z.page.toNat ++ textL X) := by unfold Hid imL textL; rw [← hX, str_size, bl_str]
      rw [hX] at kt; rw [hz] at k1; clear c1 hz ct' hmem hvz hbz hX; obtain ⟨d0, d1, d2, d3, d4, d5, d6, _, _, _, _⟩ := k1; rw [e1]; rw [e2'] at HT ⊢
      have HBt : Bt < W0.heap.size := by
        have := (HT.out.more HOX.out).lt (by omega)
        exact this
      have hOA := onlyA wr (.cells #[.int .i64 z.page, .int .i64 z.body.lsn, .int .i64 z.body.kind, .int .i64 z.body.level, .int .i64 z.body.right, .string z.body.high, .slice a z.body.items.length c] 164); obtain ⟨W1, hW1⟩ : ∃ W1, wr.alloc (.cells #[.int .i64 z.page, .int .i64 z.body.lsn, .int .i64 z.body.kind, .int .i64 z.body.level, .int .i64 z.body.right, .string z.body.high, .slice a z.body.items.length c] 164) = W1 := ⟨_, rfl⟩
      have hz1 : W1.heap.size = wr.heap.size + 1 := by rw [← hW1]; simp
      rw [hW1] at hOA; have H1 := hide (lw_one W0 W1 B _ _ (HLr.out.more hOA) z.page hpg.2 (by omega)); rw [hz1] at H1; have HW1 := hide hW1
      have HKT : Hid (∀ W, Only (fun _ => False) W0 W → W.cell? ⟨Bt, o2' + j, none⟩ = some (.string X)) := fun W hW => by
        have h1 := (HLr.out.only.cell (p := ⟨Bt, o2' + j, none⟩) HBt (fun h => h)).symm.trans kt
        exact (hW.cell (p := ⟨Bt, o2' + j, none⟩) HBt (fun h => h)).trans h1
      clear hOA hz1 hW1 kt
      have hjt : (j : Int) < (r.images.length : Int) := by omega
      go_wp2_with fail
      rw [HW1.out]; refine H1.out.mono ?_; rintro e wa ⟨rfl, hla⟩; have HLa := hide hla; have ka := HKT.out _ hla.only; clear hla d0 d1 d2 d3 d4 d5 d6
      go_wp2_with fail
      refine (lw_text W0 wa B _ _ HLa.out X hXs (by omega)).mono ?_; rintro e wb ⟨rfl, hlb⟩; have HLb := hide hlb; clear hlb ka
      go_wp2_with fail
      go_roundw
      case rel =>
        refine ⟨j + 1, by omega, by go_num, ?_⟩; unfold Hid; rw [HTK.out, HXT.out]; have h1 := HLb.out.le (N' := 8000 + 600 * (j + 1)) (by omega)
        simpa using h1
      case measure => simp [intOf]; omega
    · have ej : r.images.take j = r.images := List.take_of_length_le (by omega)
      rw [ej] at HLr; obtain ⟨l9, e9⟩ : ∃ l9, l8 ++ (r.images.map imL).flatten = l9 := ⟨_, rfl⟩; rw [e9] at HLr; have E9 := hide e9; have HL9 := hide (HLr.out.le (N' := 11000) (by omega)); have c9 := (HB.out.more HL9.out.only).c14; clear e9 c8
      go_wp2_with fail
      refine (lw_one W0 _ B _ _ HL9.out (r.pages.length : Int) (by unfold top; omega) (by omega)).mono ?_; rintro e wp ⟨rfl, hlp⟩; rw [Int.toNat_natCast] at hlp; obtain ⟨l10, e10⟩ : ∃ l10, l9 ++ sev r.pages.length = l10 := ⟨_, rfl⟩; rw [e10] at hlp; have E10 := hide e10; have HL10 := hide (hlp.le (N' := 12000) (by omega)); have c10 := (HB.out.more hlp.only).c14; clear hlp e10 c9
      go_wp2_with fail
      go_loopw [96] (fun y wr => ∃ (j : Nat), j ≤ r.pages.length ∧ y = .int .i64 (j : Int) ∧ Hid (Lw W0 wr B (l10 ++ ((r.pages.take j).map prL).flatten) (12000 + 20 * j))) (fun y _ => r.pages.length - (intOf y).toNat)
      case atStart => exact ⟨0, by omega, rfl, by simpa using HL10⟩
      case round =>
        obtain ⟨j, hj, rfl, HLr⟩ := hrel
        by_cases hlt : j < r.pages.length
        · obtain ⟨o, e1, c1⟩ := (HR0.out.pages.more HLr.out.only).at_ (by omega)
          have k1 := c1 j hlt
          have hj1 : (j : Int) < (r.pages.length : Int) := by omega
          obtain ⟨z, hz⟩ : ∃ z, r.pages[j] = z := ⟨_, rfl⟩
          have hmem : z ∈ r.pages := by rw [← hz]; exact List.getElem_mem hlt
          have hpg := HRG.out.pages z hmem
          have HTK : Hid (((r.pages.take (j + 1)).map prL).flatten = ((r.pages.take j).map prL).flatten ++ prL (z.1, z.2)) := by
            unfold Hid; rw [List.take_succ_eq_append_getElem hlt, hz]; simp
          rw [hz] at k1; clear c1 hz hmem; obtain ⟨d0, d1⟩ := k1; rw [e1]; have hOA := onlyA wr (.cells #[.int .i64 z.1, .int .i64 z.2] 115); obtain ⟨W1, hW1⟩ : ∃ W1, wr.alloc (.cells #[.int .i64 z.1, .int .i64 z.2] 115) = W1 := ⟨_, rfl⟩
          have hz1 : W1.heap.size = wr.heap.size + 1 := by rw [← hW1]; simp
          rw [hW1] at hOA; have H1 := hide (lw_two W0 W1 B _ _ (HLr.out.more hOA) z.1 z.2 hpg.1.2 hpg.2.2 (by omega)); rw [hz1] at H1; have HW1 := hide hW1; clear hOA hz1 hW1
          go_wp2_with fail
          rw [HW1.out]; refine H1.out.mono ?_; rintro e wa ⟨rfl, hla⟩; have HLa := hide hla; clear hla d0 d1
          go_wp2_with fail
          go_roundw
          case rel =>
            refine ⟨j + 1, by omega, by go_num, ?_⟩; unfold Hid; rw [HTK.out]; have h1 := HLa.out.le (N' := 12000 + 20 * (j + 1)) (by omega)
            simpa using h1
          case measure => simp [intOf]; omega
        · have ej : r.pages.take j = r.pages := List.take_of_length_le (by omega)
          rw [ej] at HLr; obtain ⟨l11, eo⟩ : ∃ x, l10 ++ (r.pages.map prL).flatten = x := ⟨_, rfl⟩; rw [eo] at HLr; have EO_l11 := hide eo; clear eo; have HL11 := hide (HLr.out.le (N' := 180000) (by omega)); have c11 := (HB.out.more HL11.out.only).c15
          go_wp2_with fail
          refine (lw_one W0 _ B _ _ HL11.out (r.txns.length : Int) (by unfold top; omega) (by omega)).mono ?_; rintro e wq ⟨rfl, hlq⟩; rw [Int.toNat_natCast] at hlq; obtain ⟨l12, e12⟩ : ∃ l12, l11 ++ sev r.txns.length = l12 := ⟨_, rfl⟩; rw [e12] at hlq; have E12 := hide e12; have HL12 := hide (hlq.le (N' := 190000) (by omega)); have c12 := (HB.out.more hlq.only).c15; clear hlq e12 c11
          go_wp2_with fail
          go_loopw [117] (fun y wr => ∃ (j : Nat), j ≤ r.txns.length ∧ y = .int .i64 (j : Int) ∧ Hid (Lw W0 wr B (l12 ++ ((r.txns.take j).map prL).flatten) (190000 + 20 * j))) (fun y _ => r.txns.length - (intOf y).toNat)
          case atStart => exact ⟨0, by omega, rfl, by simpa using HL12⟩
          case round =>
            obtain ⟨j, hj, rfl, HLr⟩ := hrel
            by_cases hlt : j < r.txns.length
            · obtain ⟨o, e1, c1⟩ := (HR0.out.txns.more HLr.out.only).at_ (by omega)
              have k1 := c1 j hlt
              have hj1 : (j : Int) < (r.txns.length : Int) := by omega
              obtain ⟨z, hz⟩ : ∃ z, r.txns[j] = z := ⟨_, rfl⟩
              have hmem : z ∈ r.txns := by rw [← hz]; exact List.getElem_mem hlt
              have hpg := HRG.out.txns z hmem
              have HTK : Hid (((r.txns.take (j + 1)).map prL).flatten = ((r.txns.take j).map prL).flatten ++ prL (z.1, z.2)) := by
                unfold Hid; rw [List.take_succ_eq_append_getElem hlt, hz]; simp
              rw [hz] at k1; clear c1 hz hmem; obtain ⟨d0, d1⟩ := k1; rw [e1]; have hOA := onlyA wr (.cells #[.int .i64 z.1, .int .i64 z.2] 169); obtain ⟨W1, hW1⟩ : ∃ W1, wr.alloc (.cells #[.int .i64 z.1, .int .i64 z.2] 169) = W1 := ⟨_, rfl⟩
              have hz1 : W1.heap.size = wr.heap.size + 1 := by rw [← hW1]; simp
              rw [hW1] at hOA; have H1 := hide (lw_two W0 W1 B _ _ (HLr.out.more hOA) z.1 z.2 hpg.1.2 hpg.2.2 (by omega)); rw [hz1] at H1; have HW1 := hide hW1; clear hOA hz1 hW1
              go_wp2_with fail
              rw [HW1.out]; refine H1.out.mono ?_; rintro e wa ⟨rfl, hla⟩; have HLa := hide hla; clear hla d0 d1
              go_wp2_with fail
              go_roundw
              case rel =>
                refine ⟨j + 1, by omega, by go_num, ?_⟩; unfold Hid; rw [HTK.out]; have h1 := HLa.out.le (N' := 190000 + 20 * (j + 1)) (by omega)
                simpa using h1
              case measure => simp [intOf]; omega
            · have ej : r.txns.take j = r.txns := List.take_of_length_le (by omega)
              rw [ej] at HLr; obtain ⟨l13, eo⟩ : ∃ x, l12 ++ (r.txns.map prL).flatten = x := ⟨_, rfl⟩; rw [eo] at HLr; have EO_l13 := hide eo; clear eo
              go_wp2_with fail
              refine (lw_bytes W0 _ B _ _ HLr.out).mono ?_; rintro e wz ⟨rfl, rfl⟩
              have HFIN : Hid (l13 = r.lay) := by
                unfold Hid Rc.lay; rw [← EO_l13.out, ← E12.out, ← EO_l11.out, ← E10.out, ← E9.out, ← E8.out, ← E7.out, ← E6.out, ← E5.out, ← E4.out, ← E3.out, ← E2.out]; simp only [List.append_assoc]
              go_wp2_with fail
              go_ret
              rw [HFIN.out]
              exact ⟨rfl, o2 HOX.out HLr.out.only⟩
structure BdQ (w w' : World) (e : Ending) (r : Rc) : Prop where
  ex : ∃ o : List UInt8 × Int, r.Out o ∧ e = .returned (.tuple #[.string (str o.1), .int .i64 o.2])
  only : Only (fun _ => False) w w'
theorem bd_kind {r : Rc} (h : ¬ (1 ≤ r.kind ∧ r.kind ≤ 13)) : r.Out ([], 41) := ⟨fun _ => rfl, fun h' => absurd h' h, fun h' => absurd h' h, fun h' => absurd h' h, fun h' => absurd h' h, fun v => absurd ⟨v.k0, v.k1⟩ h⟩
theorem bd_rng {r : Rc} (hk : 1 ≤ r.kind ∧ r.kind ≤ 13) (h : ¬ r.inRange) : r.Out ([], 4) := ⟨fun h' => absurd hk h', fun _ _ => rfl, fun _ h' => absurd h' h, fun _ h' => absurd h' h, fun _ h' => absurd h' h, fun v => absurd v.rng h⟩
theorem bd_short {r : Rc} (hk : 1 ≤ r.kind ∧ r.kind ≤ 13) (hr : r.inRange) (h : ¬ r.short) : r.Out ([], 3) := ⟨fun h' => absurd hk h', fun _ h' => absurd hr h', fun _ _ _ => rfl, fun _ _ h' => absurd h' h, fun _ _ h' => absurd h' h, fun v => absurd v.short h⟩
theorem bd_ims {r : Rc} (hk : 1 ≤ r.kind ∧ r.kind ≤ 13) (hr : r.inRange) (hs : r.short) (h : imErr r.images ≠ 0) : r.Out ([], imErr r.images) := ⟨fun h' => absurd hk h', fun _ h' => absurd hr h', fun _ _ h' => absurd hs h', fun _ _ _ _ => rfl, fun _ _ _ h' => absurd h' h, fun v => absurd v.ims h⟩
theorem bd_len {r : Rc} (hk : 1 ≤ r.kind ∧ r.kind ≤ 13) (hr : r.inRange) (hs : r.short) (hi : imErr r.images = 0) (h : 65535 < r.lay.length) : r.Out ([], 3) := ⟨fun h' => absurd hk h', fun _ h' => absurd hr h', fun _ _ h' => absurd hs h', fun _ _ _ h' => absurd hi h', fun _ _ _ _ _ => rfl, fun v => by have := v.len; omega⟩
theorem bd_ok {r : Rc} (v : r.valid) : r.Out (r.lay, 0) := ⟨fun h' => absurd ⟨v.k0, v.k1⟩ h', fun _ h' => absurd v.rng h', fun _ _ h' => absurd v.short h', fun _ _ _ h' => absurd v.ims h', fun _ _ _ _ h => by have := v.len; omega, fun _ => rfl⟩
set_option maxRecDepth 100000 in
set_option maxHeartbeats 1600000 in
theorem rbody_any (w : World) (r : Rc) (L : Loc) (h : RcAt w r L) :
    Calls Tryz.prog 88 #[.agg (r.cells L)] w fun e w' => BdQ w w' e r := by
  have HR := hide h; have hk0 := h.kind.1; have hk1 := h.kind.2; clear h; have HO0 := hide (onlyA w (.cells (r.cells L) 59)); have HB := hide (Bx.new w r L); obtain ⟨W0, hW0⟩ : ∃ W0, w.alloc (.cells (r.cells L) 59) = W0 := ⟨_, rfl⟩; rw [hW0] at HO0 HB; have HW0 := hide hW0; clear hW0
  by_cases hk : 1 ≤ r.kind ∧ r.kind ≤ 13
  · obtain ⟨k0, k1⟩ := hk
    have k0' : ¬ r.kind < 1 := by omega
    have k1' : ¬ 13 < r.kind := by omega
    go_enter Tryz.func88, Tryz.ntmps88
    go_wp2_with fail
    rw [HW0.out]; refine (rinRange_any W0 r L (HR.out.go HO0.out)).mono ?_; rintro e w1 ⟨hb, ho1⟩; obtain ⟨c, rfl, hc⟩ := hb.ex; have HC1 := hide hc; have HO1 := hide (o2 HO0.out ho1); have HB1 := hide (HB.out.more ho1); clear hc hb ho1
    cases c with
    | false =>
      go_wp2_with fail
      go_ret2
      exact ⟨⟨_, bd_rng ⟨k0, k1⟩ (fun h => by have := HC1.out.2 h; simp at this), rfl⟩, HO1.out⟩
    | true =>
      have HRG := hide (HC1.out.1 (by trivial)); obtain ⟨b0, b1, b2, b3, b4, b5, b6, b7, b8, b9, b10, b11, b12, b13, b14, b15, _⟩ := HB1.out
      go_wp2_with fail
      refine (rtooLong_any w1 r L).mono ?_; rintro e w2 ⟨hb, ho2⟩; obtain ⟨c, rfl, hc⟩ := hb.ex; have HC2 := hide hc; have HO2 := hide (o2 HO1.out ho2); have HB2 := hide (HB1.out.more ho2); clear hc hb ho2 b0 b1 b2 b3 b4 b5 b6 b7 b8 b9 b10 b11 b12 b13 b14 b15
      cases c with
      | true =>
        go_wp2_with fail
        go_ret2
        exact ⟨⟨_, bd_short ⟨k0, k1⟩ HRG.out (HC2.out.1 (by trivial)), rfl⟩, HO2.out⟩
      | false =>
        have HSH : Hid r.short := Classical.byContradiction fun h => by have := HC2.out.2 h; simp at this
        have HR2 := hide (HR.out.go HO2.out); obtain ⟨T, hims⟩ := HR2.out.images; have HI := hide hims; have b13 := HB2.out.c13; clear hims
        go_wp2_with fail
        refine (imageTexts_any w2 T _ _ _ _ HI.out HSH.out.images).mono ?_; rintro e w3 hq; have HQ := hide hq; have HO3 := hide (o2 HO2.out hq.only); have HB3 := hide (HB2.out.more hq.only); clear hq b13
        by_cases hi : imErr r.images = 0
        · obtain ⟨Bt, at', ct, rfl, hst⟩ := HQ.out.good hi
          have HST := hide hst; have HIE := hide hi; clear hst hi; obtain ⟨b0, b1, b2, b3, b4, b5, b6, b7, b8, b9, b10, b11, b12, b13, b14, b15, _⟩ := HB3.out
          go_wp2_with fail
          refine (lay_any w3 r L (HR.out.go HO3.out) k0 k1 HRG.out HSH.out HIE.out Bt ct at' HST.out).mono ?_; rintro e w4 ⟨rfl, ho4⟩; have HO4 := hide (o2 HO3.out ho4); clear ho4 b0 b1 b2 b3 b4 b5 b6 b7 b8 b9 b10 b11 b12 b13 b14 b15; obtain ⟨X, hX⟩ : ∃ X, str r.lay = X := ⟨_, rfl⟩
          have hXs : X.size = r.lay.length := by rw [← hX, str_size]
          have HX := hide hX; have HXS := hide hXs; rw [hX]; clear hX
          by_cases hl : 65535 < r.lay.length
          · have hl' : (65535 : Int) < (X.size : Int) := by omega
            clear hXs
            go_wp2_with fail
            go_ret2
            exact ⟨⟨_, bd_len ⟨k0, k1⟩ HRG.out HSH.out HIE.out hl, rfl⟩, HO4.out⟩
          · have hl' : ¬ (65535 : Int) < (X.size : Int) := by omega
            clear hXs
            go_wp2_with fail
            go_ret2
            refine ⟨⟨_, bd_ok ⟨k0, k1, HRG.out, HSH.out, HIE.out, by omega⟩, ?_⟩, HO4.out⟩; rw [HX.out]; rfl
        · have he := HQ.out.bad hi
          subst he
          have hne : (imErr r.images != 0) = true := by simpa using hi
          have HIE := hide hi; obtain ⟨q, hq⟩ : ∃ q, imErr r.images = q := ⟨_, rfl⟩; rw [hq] at hne ⊢; have HQQ := hide hq; clear hi hq
          go_wp2_with fail
          go_ret2
          refine ⟨⟨_, bd_ims ⟨k0, k1⟩ HRG.out HSH.out HIE.out, ?_⟩, HO3.out⟩; rw [HQQ.out]; rfl
  · by_cases hk2 : r.kind < 1
    · go_enter Tryz.func88, Tryz.ntmps88
      go_wp2_with fail
      rw [HW0.out]
      go_ret2
      exact ⟨⟨_, bd_kind (by omega), rfl⟩, HO0.out⟩
    · have hk3 : 13 < r.kind := by omega
      clear hk
      go_enter Tryz.func88, Tryz.ntmps88
      go_wp2_with fail
      rw [HW0.out]
      go_ret2
      exact ⟨⟨_, bd_kind (by omega), rfl⟩, HO0.out⟩
structure CkQ (w w' : World) (e : Ending) (r : Rc) : Prop where
  ex : ∃ o : List UInt8 × Int, r.Out o ∧ e = .returned (.int .i64 o.2)
  only : Only (fun _ => False) w w'
structure EnQ (w w' : World) (e : Ending) (r : Rc) : Prop where
  ok : r.valid → e = .returned (.tuple #[.string (str r.enc), .int .i64 0])
  bad : ¬ r.valid → ∃ c, c ≠ 0 ∧ r.Out ([], c) ∧ e = .returned (.tuple #[.string ⟨#[]⟩, .int .i64 c])
  only : Only (fun _ => False) w w'
set_option maxRecDepth 100000 in
set_option maxHeartbeats 1600000 in
theorem rencode_any (w : World) (r : Rc) (L : Loc) (h : RcAt w r L) :
    Calls Tryz.prog 59 #[.agg (r.cells L)] w fun e w' => EnQ w w' e r := by
  have HR := hide h; clear h; have HO0 := hide (onlyA w (.cells (r.cells L) 59)); have HCALL := hide (rbody_any _ r L (HR.out.go HO0.out))
  go_enter Tryz.func59, Tryz.ntmps59
  go_wp2_with fail
  refine HCALL.out.mono ?_; rintro e w1 hq; obtain ⟨o, ho, rfl⟩ := hq.ex; have HO1 := hide (o2 HO0.out hq.only)
  rcases ho.cases with ⟨hv, rfl⟩ | ⟨hv, h1, h2⟩
  · have HV := hide hv
    have hlen := hv.len; obtain ⟨l, hl⟩ : ∃ l, r.lay = l := ⟨_, rfl⟩
    have HENC : Hid (r.enc = bigF 4 l.length ++ (bigF 4 (sum l).toNat ++ l)) := by unfold Hid Rc.enc; rw [hl]
    rw [hl] at hlen ⊢
    simp only
    obtain ⟨X, hX⟩ : ∃ X, str l = X := ⟨_, rfl⟩
    have hXs : X.size = l.length := by rw [← hX, str_size]
    have HX := hide hX
    have hXle : X.size ≤ 65535 := by omega
    have HXS := hide hXs; have hsb := sum_bd l
    have HSUM : Hid (sum X.data.toList = sum l) := by unfold Hid; rw [← hX]; rfl
    rw [hX]; obtain ⟨z, hz⟩ : ∃ z, sum l = z := ⟨_, rfl⟩; rw [hz] at hsb HSUM HENC; clear hq ho hv hl hX hXs hz hlen; have hz0 := hsb.1; have hz1 := hsb.2
    go_wp2_with fail
    refine (big_nat X.size 4 _ (by omega) (by omega) (by omega)).mono ?_; rintro e w2 ⟨rfl, ho2⟩; obtain ⟨Y, hY⟩ : ∃ Y, str (bigF 4 X.size) = Y := ⟨_, rfl⟩
    have hYs : Y.size ≤ 4 := by rw [← hY, str_size, bigF_len]; omega
    have HY := hide hY; have HO2 := hide (o2 HO1.out ho2); rw [hY]; clear ho2 hY
    go_wp2_with fail
    refine (sum_any X w2 (by unfold maxLen; omega)).mono ?_; rw [HSUM.out]; rintro e w3 ⟨rfl, rfl⟩
    go_wp2_with fail
    refine (big_int z 4 w3 (by omega) (by omega) hz0 (by omega)).mono ?_; rintro e w4 ⟨rfl, ho4⟩; obtain ⟨U, hU⟩ : ∃ U, str (bigF 4 z.toNat) = U := ⟨_, rfl⟩
    have hUs : U.size ≤ 4 := by rw [← hU, str_size, bigF_len]; omega
    have HU := hide hU; have HO4 := hide (o2 HO2.out ho4); rw [hU]; clear ho4 hU; have hYU : (Y ++ U).size = Y.size + U.size := ByteArray.size_append
    have HFIN : Hid (Y ++ U ++ X = str r.enc) := by
      unfold Hid; rw [HENC.out, ← HY.out, ← HU.out, ← HX.out, str_cat, str_cat, List.append_assoc, str_size]
    have hXY : ¬ (9223372036854775807 : Int) < (Y.size : Int) + (U.size : Int) := by omega
    have hXY2 : ¬ (9223372036854775807 : Int) < ((Y ++ U).size : Int) + (X.size : Int) := by omega
    go_wp2_with fail
    go_ret2
    refine ⟨fun _ => ?_, fun h => absurd HV.out h, HO4.out⟩; rw [← HFIN.out]; rfl
  · obtain ⟨o1, c⟩ := o
    simp only at h1 h2 ⊢
    subst h1
    have hne : (c != 0) = true := by simpa using h2
    have HOU := hide ho; have H2 := hide h2; have HV := hide hv; clear hq ho h2 hv
    go_wp2_with fail
    go_ret2
    exact ⟨fun h => absurd h HV.out, fun _ => ⟨c, H2.out, HOU.out, rfl⟩, HO1.out⟩
end Go.Proofs.YtebijheonkagfaaGreatDoor
