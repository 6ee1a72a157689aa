/- The law's own example: awake. -/
import Derived.Test.YtphofhicehncgaaGreatK42
import Derived.Test.YtphofhicehncgaaGreatK44
import Derived.Test.YtphofhicehncgaaGreatYShelf
import Derived.Test.YtphofhicehncgaaGreatK41
namespace Go.Proofs.YtphofhicehncgaaGreat
open Go.RowKit Go.Sort

set_option maxRecDepth 100000 in
set_option maxHeartbeats 1600000 in
theorem changesItsPage_any (w : World) (k : Int) (h0 : 0 ≤ k) (h1 : k ≤ 255) : Calls Tryz.prog 31 #[.int .u8 k] w fun e w' => e = .returned (.bool (ownK k)) ∧ Only (fun _ => False) w w' := by
  have HDS : Hid (∀ W, Calls Tryz.prog 9 #[.int .i64 0] W fun e w' => ∃ mb b s2 s3, e = .returned (.map (some mb)) ∧ Hid ((Instr.lookup 49 (.map (some mb)) (.int .u8 k) true).run Tryz.prog w' = .ok (.tuple #[(fnOf b s2 s3 k).getD .nilFunc, .bool (ownK k)]) w') ∧ Only (fun _ => False) W w') := fun W => (deeds_any W 0).mono (fun e w' hq => by
    obtain ⟨mb, b, s2, s3, rfl, hM, _, _, _, ho, _⟩ := hq
    have hlk := hM.look k h0 h1
    rw [fnOf_own] at hlk
    exact ⟨mb, b, s2, s3, rfl, hlk, ho⟩)
  obtain ⟨z, hz⟩ : ∃ z, ownK k = z := ⟨_, rfl⟩
  rw [hz] at HDS ⊢
  clear hz h0 h1
  go_enter Tryz.func31, Tryz.ntmps31
  go_wp2_with fail
  refine (HDS.out _).mono ?_
  rintro e w1 ⟨mb, b, s2, s3, rfl, HL, ho⟩
  have hl := HL.out
  obtain ⟨F, hF⟩ : ∃ F, (fnOf b s2 s3 k).getD .nilFunc = F := ⟨_, rfl⟩
  rw [hF] at hl
  clear hF HL
  go_wp2_with fail
  go_ret
  exact ⟨rfl, ho⟩
/-- What Touches answers. -/
def TouQ (w w' : World) (e : Ending) (T : List Int) : Prop := ∃ B ao cp, e = .returned (.slice ao T.length cp) ∧ Zs w' B ao T ∧ Only (fun _ => False) w w'
/-- The variables of Touches. -/
structure Tv (w W : World) (R : Rc) (L : Loc) (g n C : Nat) (l : List Int) : Prop where
  rc : Bx W w.heap.size R L
  ks : Kts W (w.heap.size + 1) (.slice (some ⟨g, 0, none⟩) n C) l
  only : Only (fun _ => False) w W
theorem Tv.more {w W W' : World} {R : Rc} {L : Loc} {g n C : Nat} {l : List Int} (x : Tv w W R L g n C l) (ho : Only (fun _ => False) W W') : Tv w W' R L g n C l := ⟨x.rc.more ho, x.ks.kept ho (fun _ _ h => h), o2 x.only ho⟩
theorem Tv.app {w W W' : World} {R : Rc} {L : Loc} {g n C : Nat} {l m : List Int} (x : Tv w W R L g n C l) (hk : Kts W' (w.heap.size + 1) (.slice (some ⟨g, 0, none⟩) (n + 1) C) m) (ho : Only (fun j => (Value.slice (some ⟨g, 0, none⟩) n C).ownBlock = some j) W W') : Tv w W' R L g (n + 1) C m := by
  have hg := (World.ownsRow.lt x.ks g rfl).1
  refine ⟨x.rc.kept ho (fun e => ?_), hk, x.only.trans ho (fun i hi e => ?_)⟩
  · simp [Value.ownBlock] at e
    omega
  · simp [Value.ownBlock] at e
    omega
theorem touch_fin (w W : World) (R : Rc) (L : Loc) (g N n : Nat) (ht : Tv w W R L g N n (touL R)) (hlN : (touL R).length = N) (hn : N ≤ 17592186043904) : Calls Tryz.prog 32 #[.slice (some ⟨g, 0, none⟩) N n] W fun e w' => e = .returned (.tuple #[]) ∧ Calls Tryz.prog 33 #[.slice (some ⟨g, 0, none⟩) N n] w' fun e w'' => TouQ w w'' e (touS R) := by
  subst hlN
  rcases ht.ks.2 with ⟨e, _⟩ | ⟨g', cap, cur, e, hbase, hb, h1, h2, h3, h4⟩
  · cases e
  · cases e
    have hH : Holds (Value.int .i64) W g 0 (touL R).toArray := holds_of_blockI hb (by simpa [ncs] using h4)
    have hgl : g < W.heap.size := (Array.getElem?_eq_some_iff.1 hb).1
    refine (sort_any g 0 n (touL R) W hH hgl (by omega)).mono ?_
    rintro e w' ⟨rfl, nn, os, rfl⟩
    refine ⟨rfl, ?_⟩
    have hT : touS R = Lib.compact ((touL R).mergeSort fun x y => decide (x ≤ y)) := rfl
    have hTL := touS_len R
    obtain ⟨S, hS⟩ : ∃ S, ((touL R).mergeSort fun x y => decide (x ≤ y)) = S := ⟨_, rfl⟩
    have hSl : S.length = (touL R).length := by rw [← hS, List.length_mergeSort]
    rw [hS] at hT ⊢
    have ho := ownsRow_sortedI (n := nn) (os := os) (ts := S) hSl hbase hb h1 h2 h3
    have hO1 : Only (fun i => i = g) W _ := Only.grown (grownBy_sortedI (w := W) (g := g) (n := nn) (os := os) S.toArray) (fun k hk => by cases hk; rfl)
    obtain ⟨W1, hW1⟩ : ∃ x, grow (putRow (Value.int .i64) (Sort.ahead W nn) g 0 S.toArray) os = x := ⟨_, rfl⟩
    rw [hW1] at ho hO1 ⊢
    clear hW1
    rcases ho.2 with ⟨e, _⟩ | ⟨g', cap, cur', e, hbase', hb', h1', h2', h3', h4'⟩
    · cases e
    · cases e
      rw [← hSl] at h1' h4' ⊢
      have hH' : Holds (Value.int .i64) W1 g 0 S.toArray := holds_of_blockI hb' (by simpa using h4')
      refine (Tryz.slices_Compact_int g 0 n S W1 hH' (by omega) h1').mono ?_
      rintro e w2 ⟨rfl, q, rfl⟩
      rw [← hT]
      have hcl : (touS R).length ≤ S.length := by omega
      have ho2 := ownsRow_sortedI (n := q) (os := #[]) (ts := touS R ++ List.replicate (S.length - (touS R).length) 0) (ss := S) (by rw [List.length_append, List.length_replicate]; omega) hbase' hb' h1' h2' h3'
      have hO2 : Only (fun i => i = g) W1 _ := Only.grown (grownBy_sortedI (w := W1) (g := g) (n := q) (os := #[]) (touS R ++ List.replicate (S.length - (touS R).length) 0).toArray) (fun k hk => by cases hk; rfl)
      have eg : ∀ X : World, grow X #[] = X := fun X => by unfold grow; simp
      rw [eg] at ho2 hO2
      refine ⟨g, some ⟨g, 0, none⟩, n, rfl, ⟨fun _ => ⟨0, rfl, fun j hj => ?_⟩, fun _ => ?_, by omega⟩, ?_⟩
      · rw [Nat.zero_add, World.ownsRow.cellAt ho2 j (by omega), List.map_append, List.getElem?_append_left (by simpa using hj), List.getElem?_map, List.getElem?_eq_getElem hj]
        rfl
      · exact Nat.lt_of_lt_of_le (Array.getElem?_eq_some_iff.1 hb').1 hO2.size
      · exact (ht.only.trans hO1 (fun i hi e => by omega)).trans hO2 (fun i hi e => by omega)
set_option maxRecDepth 100000 in
set_option maxHeartbeats 3200000 in
theorem touches_any (w : World) (R : Rc) (L : Loc) (hR : RcAt w R L) (hl : R.images.length < 8796093021952) :
    Calls Tryz.prog 13 #[.agg (R.cells L)] w fun e w' => TouQ w w' e (touS R) := by
  obtain ⟨T, hI⟩ := hR.images
  have HI := hide hI
  have HK := hide (fun W => changesItsPage_any W R.kind hR.kind.1 hR.kind.2)
  have HB := hide (Bx.new w R L)
  have HO := hide (onlyA w (.cells (R.cells L) 34))
  obtain ⟨n, hn⟩ : ∃ n, R.images.length + 1 = n := ⟨_, rfl⟩
  obtain ⟨O, hmk, hown⟩ := kts_made2 n (by omega)
  have HOWN := hide hown
  have hni : (R.images.length : Int) + 1 = (n : Int) := by omega
  have hnw : IntKind.i64.wrap (n : Int) = (n : Int) := wraps_i64 _ (by omega) (by omega)
  clear hI hown hR
  go_enter Tryz.func13, Tryz.ntmps13
  go_upto_region 1 with fail
  have HZ0 : Hid ((w.alloc (.cells (R.cells L) 34)).heap.size = w.heap.size + 1) := World.size_alloc _ _
  obtain ⟨W0, hW0⟩ : ∃ x, w.alloc (.cells (R.cells L) 34) = x := ⟨_, rfl⟩
  rw [hW0] at HB HO HZ0 ⊢
  clear hW0
  have r13 := HB.out.c13
  have HT0 : Hid (Tv w (W0.alloc O) R L W0.heap.size 0 n []) := ⟨HB.out.more (onlyA _ _), HOWN.out W0 _ (by have := HZ0.out; omega), o2 HO.out (onlyA _ _)⟩
  go_upto_region 2 with fail
  obtain ⟨g, hg⟩ : ∃ g, W0.heap.size = g := ⟨_, rfl⟩
  rw [hg] at HT0 ⊢
  obtain ⟨W1, hW1⟩ : ∃ x, W0.alloc O = x := ⟨_, rfl⟩
  rw [hW1] at HT0 ⊢
  clear hW1 hg hmk HOWN HZ0 r13 HB HO
  have r13 := HT0.out.rc.c13
  go_wp2_with fail
  clear r13
  go_loopw [3, 14] (fun v i wr => ∃ (j : Nat), j ≤ R.images.length ∧ v = .slice (some ⟨g, 0, none⟩) j n ∧ i = .int .i64 (j : Int) ∧ Hid (Tv w wr R L g j n ((R.images.map Im.page).take j))) (fun _ i _ => R.images.length - (intOf i).toNat)
  case atStart => exact ⟨0, Nat.zero_le _, rfl, rfl, HT0⟩
  case round =>
    clear HT0
    obtain ⟨j, hj, rfl, rfl, HT⟩ := hrel
    by_cases hlt : j < R.images.length
    · obtain ⟨zo, hza, hc⟩ := (HI.out.more HT.out.only).at_ (by omega)
      obtain ⟨D, ia, ic, him, _⟩ := hc j hlt
      have hlk : (j : Int) < (R.images.length : Int) := by omega
      have HTK : Hid ((R.images.map Im.page).take (j + 1) = (R.images.map Im.page).take j ++ [R.images[j].page]) := by
        unfold Hid
        rw [List.take_succ_eq_append_getElem (by simpa using hlt)]
        simp
      obtain ⟨i, hi⟩ : ∃ i, R.images[j] = i := ⟨_, rfl⟩
      rw [hi] at him HTK
      obtain ⟨d0, d1, d2, d3, d4, d5, d6, _⟩ := him
      clear hc hi
      rw [hza]
      have HA := hide (onlyA wr (.cells #[.int .i64 i.page, .int .i64 i.body.lsn, .int .i64 i.body.kind, .int .i64 i.body.level, .int .i64 i.body.right, .string i.body.high, .slice ia i.body.items.length ic] 40))
      have HB := hide (ib_new wr i ia ic)
      have HT1 := hide (HT.out.more HA.out)
      go_upto_region 5 with fail
      obtain ⟨b, hb⟩ : ∃ b, wr.heap.size = b := ⟨_, rfl⟩
      rw [hb] at HB ⊢
      clear hb
      obtain ⟨W2, hW2⟩ : ∃ x, wr.alloc (.cells #[.int .i64 i.page, .int .i64 i.body.lsn, .int .i64 i.body.kind, .int .i64 i.body.level, .int .i64 i.body.right, .string i.body.high, .slice ia i.body.items.length ic] 40) = x := ⟨_, rfl⟩
      rw [hW2] at HA HB HT1 ⊢
      clear hW2 d0 d1 d2 d3 d4 d5 d6 HT
      have e0 := HB.out.c0
      have HT2 := hide (HT1.out.more (onlyA W2 (.cells #[.int .i64 i.page] 3)))
      obtain ⟨W3, hr3, hk3, ho3⟩ := kts_room (W2.alloc (.cells #[.int .i64 i.page] 3)) (w.heap.size + 1) g j n _ HT2.out.ks (by rw [List.length_take, List.length_map]; omega) (by omega) i.page W2.heap.size (by simp)
      have HT3 := hide (HT2.out.app hk3 ho3)
      rw [← HTK.out] at HT3
      have HR3 := hide hr3
      clear hr3 hk3 ho3
      go_upto_region 6 with (at_builtin; go_must (refine Lib.wpList_append_run _ rfl _ _ _ _ rfl _ _ rfl rfl _ _ HR3.out ?_))
      clear e0 HB HA HT1 HT2 HR3
      go_wp2_with fail
      go_roundw
      case rel => exact ⟨j + 1, by omega, rfl, by go_num, HT3⟩
      case measure => simp [intOf]; omega
    · have hlk : ¬ (j : Int) < (R.images.length : Int) := by omega
      have hjn : j + 1 = n := by omega
      rw [List.take_of_length_le (by rw [List.length_map]; omega)] at HT
      have r3 := HT.out.rc.c3
      go_wp2_with fail
      refine (HK.out _).mono ?_
      rintro e w4 ⟨rfl, ho4⟩
      have HT4 := hide (HT.out.more ho4)
      clear r3 ho4 HT HK
      have HFIN : Hid (∀ (W : World) (N : Nat), N ≤ n → Tv w W R L g N n (touL R) → (touL R).length = N → Calls Tryz.prog 32 #[.slice (some ⟨g, 0, none⟩) N n] W fun e w' => e = .returned (.tuple #[]) ∧ Calls Tryz.prog 33 #[.slice (some ⟨g, 0, none⟩) N n] w' fun e w'' => TouQ w w'' e (touS R)) := fun W N hN ht hlN => touch_fin w W R L g N n ht hlN (by omega)
      cases hown : ownK R.kind with
      | true =>
        have HTL : Hid (touL R = R.images.map Im.page ++ [R.page]) := by unfold Hid touL; rw [if_pos hown]
        have r5 := HT4.out.rc.c5
        have HT5 := hide (HT4.out.more (onlyA w4 (.cells #[.int .i64 R.page] 3)))
        obtain ⟨W6, hr6, hk6, ho6⟩ := kts_room (w4.alloc (.cells #[.int .i64 R.page] 3)) (w.heap.size + 1) g j n _ HT5.out.ks (by rw [List.length_map]; omega) (by omega) R.page w4.heap.size (by simp)
        have HT6 := hide (HT5.out.app hk6 ho6)
        rw [← HTL.out] at HT6
        have HLN : Hid ((touL R).length = j + 1) := by unfold Hid; rw [HTL.out, List.length_append, List.length_map]; simp; omega
        have HR6 := hide hr6
        clear hr6 hk6 ho6 hown
        go_upto_region 9 with (at_builtin; go_must (refine Lib.wpList_append_run _ rfl _ _ _ _ rfl _ _ rfl rfl _ _ HR6.out ?_))
        clear r5 HT4 HT5 HR6
        go_wp2_with fail
        rw [hjn] at HT6 HLN
        refine (HFIN.out _ n (Nat.le_refl _) HT6.out HLN.out).mono ?_
        rintro e w7 ⟨rfl, hcp⟩
        have HCP := hide hcp
        clear hcp HT6
        go_wp2_with fail
        refine HCP.out.mono ?_
        rintro e w8 ⟨B8, ao8, cp8, rfl, hz8, ho8⟩
        go_wp2_with fail
        go_ret
        exact ⟨B8, ao8, cp8, rfl, hz8, ho8⟩
      | false =>
        have HTL : Hid (touL R = R.images.map Im.page) := by unfold Hid touL; rw [hown, if_neg (by decide), List.append_nil]
        rw [← HTL.out] at HT4
        have HLN : Hid ((touL R).length = j) := by unfold Hid; rw [HTL.out, List.length_map]; omega
        clear hown
        go_wp2_with fail
        refine (HFIN.out _ j (by omega) HT4.out HLN.out).mono ?_
        rintro e w7 ⟨rfl, hcp⟩
        have HCP := hide hcp
        clear hcp HT4
        go_wp2_with fail
        refine HCP.out.mono ?_
        rintro e w8 ⟨B8, ao8, cp8, rfl, hz8, ho8⟩
        go_wp2_with fail
        go_ret
        exact ⟨B8, ao8, cp8, rfl, hz8, ho8⟩
end Go.Proofs.YtphofhicehncgaaGreat

namespace Go.Proofs.YtphofhicehncgaaGreat
open Go.RowKit

def awT : Tu := ⟨3, 0, false, ⟨#[107]⟩, ⟨#[]⟩⟩
theorem awT_ok : awT.ok = true := by decide
def awD : ByteArray := str awT.enc
def awX : ByteArray := str (dlay ⟨#[107]⟩)
def awR : Rc := ⟨9, 4, 0, 1, 3, 7, 0, 0, 0, 0, awD, [], [], [], [], []⟩
def awB : Rc := ⟨0, 0, 4, 6, 3, 7, 0, 0, 0, 0, ⟨#[]⟩, [], [], [], [], []⟩
def awU : Rc := ⟨12, 0, 4, 6, 3, 7, 0, 0, 0, 0, ⟨#[]⟩, [], [], [], [], []⟩
theorem awD_dec : decT (bl awD) = some awT := by
  show decT (bl (str awT.enc)) = _
  rw [bl_str]
  exact dec_encT awT_ok
theorem awD_size : awD.size = 8 := by
  show (str awT.enc).size = 8
  rw [str_size, enc_lenT awT_ok]
  decide
theorem awX_dead : stT (bl awX) = 2 := by
  have hk : okK (⟨#[107]⟩ : ByteArray) = true := by decide
  have h1 : deadK (bl awX) = some ⟨#[107]⟩ := dead_lay hk
  have h2 : decT (bl awX) = none := dead_dec h1
  unfold stT
  rw [h1, h2]
  rfl
theorem rc_at (w : World) (R : Rc) (h1 : R.slots = []) (h2 : R.more = []) (h3 : R.images = []) (h4 : R.pages = []) (h5 : R.txns = []) (hd : R.data.size ≤ 140737488355328) (hk : 0 ≤ R.kind ∧ R.kind ≤ 255) : RcAt w R noL := by
  refine ⟨?_, ?_, ⟨fun _ => False, ?_⟩, ?_, ?_, ?_, ?_, hd, hk⟩
  · rw [h1]; exact Zs.nil _ _ _
  · rw [h2]; exact Zs.nil _ _ _
  · rw [h3]; exact Ims.nil _ _ _ _
  · rw [h4]; exact Prs.nil _ _ _
  · rw [h5]; exact Prs.nil _ _ _
  · rw [h1]; exact ⟨fun _ => rfl, by simp, by simp⟩
  · rw [h2]; exact ⟨fun _ => rfl, by simp, by simp⟩
theorem awR_at (w : World) : Rk w 16 awR noL := ⟨rc_at w awR rfl rfl rfl rfl rfl (by show awD.size ≤ _; rw [awD_size]; decide) (by decide), by unfold I64; decide, by unfold I64; decide, by unfold I64; decide⟩
theorem awU_at (w : World) : Rk w 16 awU noL := ⟨rc_at w awU rfl rfl rfl rfl rfl (by decide) (by decide), by unfold I64; decide, by unfold I64; decide, by unfold I64; decide⟩
theorem awR_ins : insP ⟨5, 2, 0, 0, ⟨#[]⟩, []⟩ awR = (⟨5, 2, 0, 0, ⟨#[]⟩, [awD]⟩, 0) := by
  have h : (decT (bl awR.data)).isSome = true := by show (decT (bl awD)).isSome = true; rw [awD_dec]; rfl
  unfold insP
  rw [if_pos h, if_pos (by rfl)]
  unfold fitP
  rw [if_neg]
  · rfl
  · show ¬ (255 < [awD].length ∨ 512 < 20 + (⟨#[]⟩ : ByteArray).size + isz [awD])
    have : isz [awD] = 10 := by simp [isz, awD_size]
    rw [this]
    decide
theorem awR_do : doP 16 ⟨5, 2, 0, 0, ⟨#[]⟩, []⟩ 7 awR = (⟨9, 2, 0, 0, ⟨#[]⟩, [awD]⟩, 0) := by
  have e : doesP 16 ⟨5, 2, 0, 0, ⟨#[]⟩, []⟩ awR = insP ⟨5, 2, 0, 0, ⟨#[]⟩, []⟩ awR := rfl
  have hi : imP 7 awR.images = none := rfl
  unfold doP
  rw [hi]
  dsimp only
  rw [if_pos (by decide), e, awR_ins]
  rfl
theorem awU_und : undL awU [awD] = ([awX], 0) := by
  unfold undL
  rw [if_pos (by decide)]
  rw [show ([awU.slot] : List Int) = [0] from rfl, chgL_cons, if_pos (by decide)]
  have h : itS [awD] 0 = awD := rfl
  rw [h, awD_dec]
  rfl
theorem awU_do : doP 16 ⟨9, 2, 0, 0, ⟨#[]⟩, [awD]⟩ 7 awU = (⟨12, 2, 0, 0, ⟨#[]⟩, [awX]⟩, 0) := by
  have e : doesP 16 ⟨9, 2, 0, 0, ⟨#[]⟩, [awD]⟩ awU = (Pg.chg ⟨9, 2, 0, 0, ⟨#[]⟩, [awD]⟩ (undL awU [awD]), (undL awU [awD]).2) := rfl
  have hi : imP 7 awU.images = none := rfl
  unfold doP
  rw [hi]
  dsimp only
  rw [if_pos (by decide), e, awU_und]
  rfl
theorem awR_bk : bkA awR = (awB, 0) := rfl
theorem awU_bk : bkA awU = (noR, 160) := rfl
theorem awR_tou : (touS awR).length = 1 := by
  have h1 : touL awR = [7] := rfl
  unfold touS
  rw [h1]
  simp [Lib.compact, Lib.compactUpTo, Lib.keeps]
end Go.Proofs.YtphofhicehncgaaGreat

namespace Go.Proofs.YtphofhicehncgaaGreat
open Go.RowKit

theorem run_build_aw (w : World) (d : ByteArray) : (Instr.build 34 #[(0, .int .i64 9), (3, .int .u8 1), (4, .int .i64 3), (1, .int .i64 4), (5, .int .i64 7), (10, .string d)]).run Tryz.prog w = .ok (.agg (Rc.cells ⟨9, 4, 0, 1, 3, 7, 0, 0, 0, 0, d, [], [], [], [], []⟩ noL)) w := run_build w 34 _ _ (by kernel_rfl)
section
variable {ops : Array Oper} {rest : List Oper} {o : Oper} {a : Act} {w : World} {Q : Exit → Act → World → Prop}
theorem wpList_build_aw (hg : o.guard = none) (x : Operand) (hop : o.op = .build 34 #[(0, .const (.int .i64 9)), (3, .const (.int .u8 1)), (4, .const (.int .i64 3)), (1, .const (.int .i64 4)), (5, .const (.int .i64 7)), (10, x)]) (d : ByteArray) (hx : a.eval x = .string d) (R : Rc) (L : Loc) (hR : Rc.cells ⟨9, 4, 0, 1, 3, 7, 0, 0, 0, 0, d, [], [], [], [], []⟩ noL = R.cells L)
    (h : wpList Tryz.prog ops Q rest (a.put o.dst (.agg (R.cells L))) w) : wpList Tryz.prog ops Q (o :: rest) a w := by
  refine wpList_plain hg fun K hK => ?_
  unfold Oper.wp execOp
  have e : (#[(0, Operand.const (.int .i64 9)), (3, .const (.int .u8 1)), (4, .const (.int .i64 3)), (1, .const (.int .i64 4)), (5, .const (.int .i64 7)), (10, x)] : Array (Nat × Operand)).map (fun y => (y.1, a.eval y.2)) = #[(0, .int .i64 9), (3, .int .u8 1), (4, .int .i64 3), (1, .int .i64 4), (5, .int .i64 7), (10, .string d)] := by
    simp only [List.map_toArray, List.map_cons, List.map_nil, hx]
    rfl
  simp only [hop, e, Sem.run_bind, Sem.run_pure, Result.andThen_ok, run_build_aw]
  rw [hR]
  exact hK _ _ h
end
set_option maxRecDepth 100000 in
set_option maxHeartbeats 1600000 in
theorem version_any (w : World) : Calls Tryz.prog 10 #[.agg #[.int .i64 3, .int .i64 0, .bool false, .string ⟨#[107]⟩, .string ⟨#[]⟩]] w fun e w' => e = .returned (.string awD) ∧ Only (fun _ => False) w w' := by
  have HE : Hid (∀ W, Calls Tryz.prog 27 #[.agg #[.int .i64 3, .int .i64 0, .bool false, .string ⟨#[107]⟩, .string ⟨#[]⟩]] W fun e w' => e = .returned (.tuple #[.string awD, .int .i64 0]) ∧ Only (fun _ => False) W w') := fun W => by
    have := uencode_any awT W (by decide) (by decide)
    have e1 : awT.out = awT.enc := by unfold Tu.out; rw [awT_ok]; rfl
    have e2 : awT.err = 0 := by unfold Tu.err; rw [awT_ok]; rfl
    rw [e1, e2] at this
    exact this
  have HB := hide (Tb.new w awT)
  have HO := hide (onlyA w (.cells #[.int .i64 3, .int .i64 0, .bool false, .string ⟨#[107]⟩, .string ⟨#[]⟩] 53))
  obtain ⟨D, hD⟩ : ∃ D, awD = D := ⟨_, rfl⟩
  rw [hD] at HE ⊢
  clear hD
  go_enter Tryz.func10, Tryz.ntmps10
  go_wp2_with fail
  refine (HE.out _).mono ?_
  rintro e w1 ⟨rfl, ho⟩
  go_wp2_with fail
  go_ret
  exact ⟨rfl, o2 HO.out ho⟩
set_option maxRecDepth 100000 in
set_option maxHeartbeats 3200000 in
theorem apawake_any (w : World) : Calls Tryz.prog 5 #[] w fun e w' => e = .returned (.bool true) ∧ Only (fun _ => False) w w' := by
  have HV := hide (fun W => version_any W)
  have HD1 : Hid (∀ W, Calls Tryz.prog 4 #[.int .i64 16, .agg #[.int .i64 5, .int .i64 2, .int .i64 0, .int .i64 0, .string ⟨#[]⟩, .slice none 0 0], .int .i64 7, .agg (awR.cells noL)] W fun e w' => Res W w' e ⟨9, 2, 0, 0, ⟨#[]⟩, [awD]⟩ 0) := fun W => by
    have := do_any W 16 5 2 0 0 7 ⟨#[]⟩ 0 0 none [] awR noL ⟨Strs.nil _ _ _, ⟨fun _ => rfl, by simp, by simp⟩, by simp, by decide, awR_at W⟩
    rw [awR_do] at this
    exact this
  have HK1 : Hid (∀ W, Calls Tryz.prog 11 #[.agg (awR.cells noL)] W fun e w' => e = .returned (.tuple #[.agg (awB.cells noL), .int .i64 0]) ∧ Only (fun _ => False) W w') := fun W => by
    have := back_any W awR noL
    rw [awR_bk] at this
    exact this
  have HD2 : Hid (∀ W B ao cp, Strs W B ao [awD] → Fit ao 1 cp → Calls Tryz.prog 4 #[.int .i64 16, .agg #[.int .i64 9, .int .i64 2, .int .i64 0, .int .i64 0, .string ⟨#[]⟩, .slice ao 1 cp], .int .i64 7, .agg (awU.cells noL)] W fun e w' => Res W w' e ⟨12, 2, 0, 0, ⟨#[]⟩, [awX]⟩ 0) := fun W B ao cp hS hF => by
    have := do_any W 16 9 2 0 0 7 ⟨#[]⟩ B cp ao [awD] awU noL ⟨hS, hF, by simp, by decide, awU_at W⟩
    rw [awU_do] at this
    exact this
  have HK2 : Hid (∀ W, Calls Tryz.prog 11 #[.agg (awU.cells noL)] W fun e w' => e = .returned (.tuple #[.agg (noR.cells noL), .int .i64 160]) ∧ Only (fun _ => False) W w') := fun W => by
    have := back_any W awU noL
    rw [awU_bk] at this
    exact this
  have HST : Hid (∀ W, Calls Tryz.prog 12 #[.string awX] W fun e w' => e = .returned (.int .u8 2) ∧ Only (fun _ => False) W w') := fun W => by
    have := ustate_any awX W
    rw [awX_dead] at this
    exact this
  have HTO : Hid (∀ W, Calls Tryz.prog 13 #[.agg (awR.cells noL)] W fun e w' => ∃ ao cp, e = .returned (.slice ao 1 cp) ∧ Only (fun _ => False) W w') := fun W => (touches_any W awR noL (awR_at W).at_ (by decide)).mono (fun e w' hq => by
    obtain ⟨B, ao, cp, rfl, _, ho⟩ := hq
    rw [awR_tou]
    exact ⟨ao, cp, rfl, ho⟩)
  have hcl : ∀ d, d = awD → Rc.cells ⟨9, 4, 0, 1, 3, 7, 0, 0, 0, 0, d, [], [], [], [], []⟩ noL = awR.cells noL := fun d hd => by rw [hd]; rfl
  have hset : (awB.cl noL).set 0 (.int .i64 12) = awU.cl noL := rfl
  have hu2 : awU.next = 4 := rfl
  obtain ⟨D, hD⟩ : ∃ D, awD = D := ⟨_, rfl⟩
  obtain ⟨X, hX⟩ : ∃ D, awX = D := ⟨_, rfl⟩
  have hcR := hcl D hD.symm
  rw [hD] at HV HD1 HD2
  rw [hX] at HD2 HST
  obtain ⟨L, hL⟩ : ∃ L, noL = L := ⟨_, rfl⟩
  have hcR2 : Rc.cells ⟨9, 4, 0, 1, 3, 7, 0, 0, 0, 0, D, [], [], [], [], []⟩ noL = awR.cells L := by rw [← hL]; exact hcR
  have HZN : Hid (∀ W : World, Rb (W.alloc (.cells #[.int .i64 0, .int .i64 0, .int .i64 0, .int .u8 0, .int .i64 0, .int .i64 0, .int .i64 0, .int .i64 0, .int .i64 0, .int .i64 0, .string ⟨#[]⟩, .slice none 0 0, .slice none 0 0, .slice none 0 0, .slice none 0 0, .slice none 0 0] 34)) W.heap.size noR L) := fun W => by rw [← hL]; exact Rb.new W noR noL
  rw [hL] at HD1 HK1 HD2 HK2 HTO hset
  obtain ⟨R, hR⟩ : ∃ R, awR = R := ⟨_, rfl⟩
  obtain ⟨Bk, hBk⟩ : ∃ R, awB = R := ⟨_, rfl⟩
  obtain ⟨U, hU⟩ : ∃ R, awU = R := ⟨_, rfl⟩
  obtain ⟨N, hN⟩ : ∃ R, noR = R := ⟨_, rfl⟩
  rw [hR] at HD1 HK1 HTO hcR2
  rw [hBk] at HK1 hset
  rw [hU] at HD2 HK2 hset hu2
  rw [hN] at HK2 HZN
  have HCR := hide hcR2
  have HSET := hide hset
  have HU2 := hide hu2
  clear hcl hcR hcR2 hset hu2 hD hX hL hR hBk hU hN
  go_enter Tryz.func5, Tryz.ntmps5
  go_wp2_with fail
  refine (HV.out _).mono ?_
  rintro e w1 ⟨rfl, ho1⟩
  have HO1 := hide ho1
  have HAL : Hid (∀ (W : World), Only (fun _ => False) W (W.alloc (.cells #[.int .i64 0, .int .i64 0, .int .i64 0, .int .u8 0, .int .i64 0, .int .i64 0, .int .i64 0, .int .i64 0, .int .i64 0, .int .i64 0, .string ⟨#[]⟩, .slice none 0 0, .slice none 0 0, .slice none 0 0, .slice none 0 0, .slice none 0 0] 34))) := fun W => onlyA W _
  clear ho1 HV
  go_upto_region 2 with (first
    | (refine wpList_build_aw rfl (.tmp 11) rfl D rfl R L HCR.out ?_; go_frame)
    | (refine wpList_put_rc rfl (.tmp 1) (.tmp 12) rfl w1.heap.size rfl N R L L rfl (HZN.out w1) (fun W2 HS => ?_); go_frame))
  have HR2 := hide HS.out.1
  have HO2 : Hid (Only (fun _ => False) w W2) := (o2 HO1.out (HAL.out w1)).trans HS.out.2 (fun i hi e => by have := HO1.out.size; omega)
  have HB1 : Hid (w.heap.size ≤ w1.heap.size) := HO1.out.size
  obtain ⟨b1, hb1⟩ : ∃ b, w1.heap.size = b := ⟨_, rfl⟩
  rw [hb1] at HR2 HB1 ⊢
  clear HS HO1 HCR hb1
  go_wp2_with (refine wpList_load_rc rfl (.tmp 1) rfl b1 rfl R L HR2.out.range ?_; go_frame)
  refine (HD1.out _).mono ?_
  rintro e w3 ⟨B3, ao3, cp3, rfl, hS3, hF3, ho3, hB3⟩
  have HA3 := hide (onlyA w3 (.cells #[.int .i64 9, .int .i64 2, .int .i64 0, .int .i64 0, .string ⟨#[]⟩, .slice ao3 1 cp3] 25))
  have HP3 := hide (Pag.new w3 (.int .i64 9) (.int .i64 2) (.int .i64 0) (.int .i64 0) (.string ⟨#[]⟩) (.slice ao3 1 cp3))
  have HR3 := hide ((HR2.out.more ho3).more HA3.out)
  have HS3 : Hid (Strs (w3.alloc (.cells #[.int .i64 9, .int .i64 2, .int .i64 0, .int .i64 0, .string ⟨#[]⟩, .slice ao3 1 cp3] 25)) B3 ao3 [D]) := hS3.more HA3.out
  have HF3 : Hid (Fit ao3 1 cp3) := hF3
  have HO3 : Hid (Only (fun _ => False) w (w3.alloc (.cells #[.int .i64 9, .int .i64 2, .int .i64 0, .int .i64 0, .string ⟨#[]⟩, .slice ao3 1 cp3] 25))) := o2 (o2 HO2.out ho3) HA3.out
  have HLT3 : Hid (b1 < w3.heap.size ∧ w.heap.size ≤ w3.heap.size) := ⟨Nat.lt_of_lt_of_le HR2.out.lt ho3.size, Nat.le_trans HO2.out.size ho3.size⟩
  clear hS3 hF3 ho3 hB3 HR2 HO2 HA3 HD1
  go_upto_region 3 with fail
  obtain ⟨b2, hb2⟩ : ∃ b, w3.heap.size = b := ⟨_, rfl⟩
  rw [hb2] at HP3 HLT3 ⊢
  clear hb2
  obtain ⟨w4, hw4⟩ : ∃ x, w3.alloc (.cells #[.int .i64 9, .int .i64 2, .int .i64 0, .int .i64 0, .string ⟨#[]⟩, .slice ao3 1 cp3] 25) = x := ⟨_, rfl⟩
  rw [hw4] at HP3 HR3 HS3 HO3 ⊢
  clear hw4
  go_wp2_with (refine wpList_load_rc rfl (.tmp 1) rfl b1 rfl R L HR3.out.range ?_; go_frame)
  refine (HK1.out _).mono ?_
  rintro e w5 ⟨rfl, ho5⟩
  have HP5 := hide ((HP3.out.more ho5).more (HAL.out w5))
  have HR5 := hide ((HR3.out.more ho5).more (HAL.out w5))
  have HS5 := hide ((HS3.out.more ho5).more (HAL.out w5))
  have HO5 := hide (o2 (o2 HO3.out ho5) (HAL.out w5))
  have HLT5 : Hid (b1 < w5.heap.size ∧ b2 < w5.heap.size ∧ w.heap.size ≤ w5.heap.size ∧ (0 < [D].length → B3 < w5.heap.size)) := ⟨by have := HR3.out.lt; have := ho5.size; omega, by have := HP3.out.lt; have := ho5.size; omega, by have := HO3.out.size; have := ho5.size; omega, fun h0 => by have := HS3.out.lt h0; have := ho5.size; omega⟩
  clear ho5 HP3 HR3 HS3 HO3 HK1
  go_upto_region 4 with (refine wpList_put_rc rfl (.tmp 4) (.tmp 22) rfl w5.heap.size rfl N Bk L L rfl (HZN.out w5) (fun W6 HS => ?_); go_frame)
  have HP6 := hide (HP5.out.kept HS.out.2 (by have := HLT5.out; omega))
  have HR6 := hide (HR5.out.kept HS.out.2 (by have := HLT5.out; omega))
  have HS6 := hide (HS5.out.kept HS.out.2 (fun h0 e => by have := HLT5.out.2.2.2 h0; omega))
  have HO6 := hide (HO5.out.trans HS.out.2 (fun i hi e => by have := HLT5.out; omega))
  have HU6 := hide HS.out.1
  obtain ⟨b4, hb4⟩ : ∃ b, w5.heap.size = b := ⟨_, rfl⟩
  rw [hb4] at HU6 HLT5 ⊢
  clear HS HP5 HR5 HS5 HO5 hb4
  have hs0 := Only.setCell (S := fun j => j = b4) W6 ⟨b4, 0, none⟩ (.int .i64 12) rfl
  have HU7 := hide (HU6.out.one (q := U) (M := L) 0 (.int .i64 12) (by omega) HSET.out)
  have HP7 := hide (HP6.out.kept hs0 (by have := HLT5.out; omega))
  have HR7 := hide (HR6.out.kept hs0 (by have := HLT5.out; omega))
  have HS7 := hide (HS6.out.kept hs0 (fun h0 e => by have := HLT5.out.2.2.2 h0; omega))
  have HO7 := hide (HO6.out.trans hs0 (fun i hi e => by have := HLT5.out; omega))
  have u0 := HU6.out.bx.c0
  have f0 := HU6.out.frozen 0 (by omega)
  go_upto_region 5 with fail
  obtain ⟨W7, hW7⟩ : ∃ x, W6.setCell ⟨b4, 0, none⟩ (.int .i64 12) = x := ⟨_, rfl⟩
  rw [hW7] at HU7 HP7 HR7 HS7 HO7 ⊢
  clear hW7 hs0 u0 f0 HU6 HP6 HR6 HS6 HO6 HSET
  obtain ⟨p0, p1, p2, p3, p4, p5, _⟩ := HP7.out
  go_wp2_with (refine wpList_load_rc rfl (.tmp 4) rfl b4 rfl U L HU7.out.range ?_; go_frame)
  refine (HD2.out _ _ _ _ HS7.out HF3.out).mono ?_
  rintro e w8 ⟨B8, ao8, cp8, rfl, hS8, hF8, ho8, hB8⟩
  have HA8 := hide (onlyA w8 (.cells #[.int .i64 12, .int .i64 2, .int .i64 0, .int .i64 0, .string ⟨#[]⟩, .slice ao8 1 cp8] 25))
  have HP8 := hide ((HP7.out.more ho8).more HA8.out)
  have HR8 := hide ((HR7.out.more ho8).more HA8.out)
  have HU8 := hide ((HU7.out.more ho8).more HA8.out)
  have HQ8 := hide (Pag.new w8 (.int .i64 12) (.int .i64 2) (.int .i64 0) (.int .i64 0) (.string ⟨#[]⟩) (.slice ao8 1 cp8))
  have HS8 : Hid (Strs (w8.alloc (.cells #[.int .i64 12, .int .i64 2, .int .i64 0, .int .i64 0, .string ⟨#[]⟩, .slice ao8 1 cp8] 25)) B8 ao8 [X]) := hS8.more HA8.out
  have HO8 : Hid (Only (fun _ => False) w (w8.alloc (.cells #[.int .i64 12, .int .i64 2, .int .i64 0, .int .i64 0, .string ⟨#[]⟩, .slice ao8 1 cp8] 25))) := o2 (o2 HO7.out ho8) HA8.out
  clear p0 p1 p2 p3 p4 p5 hS8 hF8 ho8 hB8 HP7 HR7 HU7 HS7 HO7 HA8 HD2 HLT5 HLT3 HF3
  go_upto_region 6 with fail
  obtain ⟨b6, hb6⟩ : ∃ b, w8.heap.size = b := ⟨_, rfl⟩
  rw [hb6] at HQ8 ⊢
  clear hb6
  obtain ⟨w9, hw9⟩ : ∃ x, w8.alloc (.cells #[.int .i64 12, .int .i64 2, .int .i64 0, .int .i64 0, .string ⟨#[]⟩, .slice ao8 1 cp8] 25) = x := ⟨_, rfl⟩
  rw [hw9] at HP8 HR8 HU8 HQ8 HS8 HO8 ⊢
  clear hw9
  go_wp2_with (refine wpList_load_rc rfl (.tmp 4) rfl b4 rfl U L HU8.out.range ?_; go_frame)
  refine (HK2.out _).mono ?_
  rintro e wa ⟨rfl, hoa⟩
  have HPa := hide ((HP8.out.more hoa).more (HAL.out wa))
  have HRa := hide ((HR8.out.more hoa).more (HAL.out wa))
  have HUa := hide ((HU8.out.more hoa).more (HAL.out wa))
  have HQa := hide ((HQ8.out.more hoa).more (HAL.out wa))
  have HSa := hide ((HS8.out.more hoa).more (HAL.out wa))
  have HOa := hide (o2 (o2 HO8.out hoa) (HAL.out wa))
  have HLa : Hid (b1 < wa.heap.size ∧ b2 < wa.heap.size ∧ b4 < wa.heap.size ∧ b6 < wa.heap.size ∧ w.heap.size ≤ wa.heap.size ∧ (0 < [X].length → B8 < wa.heap.size)) := ⟨Nat.lt_of_lt_of_le HR8.out.lt hoa.size, Nat.lt_of_lt_of_le HP8.out.lt hoa.size, Nat.lt_of_lt_of_le HU8.out.lt hoa.size, Nat.lt_of_lt_of_le HQ8.out.lt hoa.size, Nat.le_trans HO8.out.size hoa.size, fun h0 => Nat.lt_of_lt_of_le (HS8.out.lt h0) hoa.size⟩
  clear hoa HP8 HR8 HU8 HQ8 HS8 HO8 HK2
  go_upto_region 7 with (refine wpList_put_rc rfl (.tmp 8) (.tmp 34) rfl wa.heap.size rfl N N L L rfl (HZN.out wa) (fun Wb HS => ?_); go_frame)
  have HPb := hide (HPa.out.kept HS.out.2 (by have := HLa.out; omega))
  have HRb := hide (HRa.out.kept HS.out.2 (by have := HLa.out; omega))
  have HUb := hide (HUa.out.kept HS.out.2 (by have := HLa.out; omega))
  have HQb := hide (HQa.out.kept HS.out.2 (by have := HLa.out; omega))
  have HSb := hide (HSa.out.kept HS.out.2 (fun h0 e => by have := HLa.out.2.2.2.2.2 h0; omega))
  have HOb := hide (HOa.out.trans HS.out.2 (fun i hi e => by have := HLa.out; omega))
  clear HS HPa HRa HUa HQa HSa HOa HLa HZN HAL
  obtain ⟨o8, hao, hc8⟩ := HSb.out.at_ (by simp)
  have cx := hc8 0 (by simp)
  rw [Nat.add_zero] at cx
  rw [List.getElem_cons_zero] at cx
  have HRbb := hide HRb.out
  have p0 := HPb.out.c0
  have p5 := HPb.out.c5
  have u2 := HUb.out.bx.c2
  rw [HU2.out] at u2
  have q5 := HQb.out.c5
  subst hao
  clear hc8
  go_wp2_with fail
  refine (HST.out _).mono ?_
  rintro e wc ⟨rfl, hoc⟩
  have HRc := hide (HRb.out.more hoc)
  have HOc := hide (o2 HOb.out hoc)
  clear hoc p0 p5 u2 q5 cx
  obtain ⟨r0, r1, r2, r3, r4, r5, r6, r7, r8, r9, r10, r11, r12, r13, r14, r15, _⟩ := HRc.out.bx
  go_wp2_with fail
  refine (show Calls Tryz.prog 13 #[.agg (R.cells L)] wc _ from (HTO.out wc).mono ?_)
  rintro e wd ⟨aot, cpt, rfl, hod⟩
  go_wp2_with fail
  go_ret
  exact ⟨rfl, o2 HOc.out hod⟩
end Go.Proofs.YtphofhicehncgaaGreat
