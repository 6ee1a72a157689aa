/- What imageTexts does. -/
import Derived.Test.YtbfafijfhaejmaaGreatDoorRWalkB
namespace Go.Proofs.YtbfafijfhaejmaaGreatDoor
open Go.RowKit

/-- The images' pages as bytes, without noughts at their end. -/
def bares (l : List Im) : List ByteArray := l.map fun i => str (bare i.body.enc)
/-- What imageTexts answers. -/
structure ItQ (w w' : World) (e : Ending) (l : List Im) : Prop where
  only : Only (fun _ => False) w w'
  bad : imErr l ≠ 0 → e = .returned (.tuple #[.slice none 0 0, .int .i64 (imErr l)])
  good : imErr l = 0 → ∃ B ao cp, e = .returned (.tuple #[.slice ao l.length cp, .int .i64 0]) ∧ Strs w' B ao (bares l)
theorem imErr_app (l : List Im) (i : Im) (h : imErr l = 0) : imErr (l ++ [i]) = i.body.out.2 := by
  induction l with
  | nil =>
    show (if i.body.out.2 = 0 then 0 else i.body.out.2) = i.body.out.2
    split
    · rename_i h; exact h.symm
    · rfl
  | cons j t ih =>
    rw [imErr] at h
    split at h
    · rename_i hj
      rw [List.cons_append, imErr, if_pos hj]
      exact ih h
    · rename_i hj
      exact absurd h hj
theorem imErr_take (l : List Im) (j : Nat) (h : imErr (l.take j) ≠ 0) : imErr l = imErr (l.take j) := by
  induction l generalizing j with
  | nil => simp [imErr] at h
  | cons i t ih =>
    cases j with
    | zero => simp [imErr] at h
    | succ j =>
      rw [List.take_succ_cons, imErr] at h ⊢
      rw [imErr]
      split
      · rename_i hi
        rw [if_pos hi] at h
        exact ih j h
      · rfl
theorem out_zero {p : Pg} (h : p.out.2 = 0) : p.out = (p.enc, 0) ∧ p.fits := by
  unfold Pg.out at h ⊢
  split at h
  · rename_i h1
    split at h
    · rename_i h2
      rw [if_pos h1, if_pos h2]; exact ⟨rfl, h2⟩
    · simp at h
  · simp at h
set_option maxRecDepth 100000 in
set_option maxHeartbeats 1600000 in
theorem imageTexts_any (w : World) (T : Nat → Prop) (B cp : Nat) (ao : Option Addr) (l : List Im) (h : Ims w T B ao l) (hl4 : l.length ≤ 4) :
    Calls Tryz.prog 129 #[.slice ao l.length cp] w fun e w' => ItQ w w' e l := by
  obtain ⟨i0, hi, hz0, hz1, hz2⟩ := info_parts Tryz.infoStr
  have HS := hide h
  clear h
  go_enter Tryz.func129, Tryz.ntmps129
  go_wp2_with (
    at_make
    go_must (refine wpList_make_own _ rfl _ _ 43 rfl w.heap.size 9 i0 (.string ⟨#[]⟩) 1 Tryz.underlying43 hi hz0 hz1 .i64 .i64 _ l.length rfl rfl (by omega) (by rw [hz2]; omega) (by unfold maxLen; omega) (Nat.le_refl _) ?_)
    intro w1 hw1 hg1
    have HL1 : Hid (Ls w1 w.heap.size (.slice (some ⟨w.heap.size, 0, none⟩) 0 l.length) []) := hw1
    have HO1 : Hid (Only (fun _ => False) w w1) := Only.grown hg1 (fun k hk => by cases hk)
    clear hw1 hg1)
  go_loopw [4, 14] (fun x y wr => ∃ (j : Nat), j ≤ l.length ∧ y = .int .i64 (j : Int) ∧ Hid (imErr (l.take j) = 0) ∧ Hid (Ls wr w.heap.size x (bares (l.take j))) ∧ Hid (Only (fun _ => False) w wr)) (fun _ y _ => l.length - (intOf y).toNat)
  case atStart => exact ⟨0, by omega, rfl, rfl, HL1, HO1⟩
  case round =>
    obtain ⟨j, hj, rfl, HE, HL, HO⟩ := hrel
    by_cases hlt : j < l.length
    · obtain ⟨o, e1, c1⟩ := (HS.out.more HO.out).at_ (by omega)
      obtain ⟨D, a, c, k1, _⟩ := c1 j hlt
      have hj1 : (j : Int) < (l.length : Int) := by omega
      obtain ⟨z, hz⟩ : ∃ z, l[j] = z := ⟨_, rfl⟩
      have HT : Hid (l.take (j + 1) = l.take j ++ [z]) := by unfold Hid; rw [List.take_succ_eq_append_getElem hlt, hz]
      rw [hz] at k1
      clear c1 hz
      subst e1
      have HK := hide k1
      obtain ⟨d0, d1, d2, d3, d4, d5, d6, hst, _, hhi, hls⟩ := k1
      have HST := hide hst
      clear hst
      have HOUT : Hid (imErr (l.take (j + 1)) = z.body.out.2) := by unfold Hid; rw [HT.out]; exact imErr_app _ _ HE.out
      go_wp2_with fail
      have he := pencode_any _ z.body.lsn z.body.kind z.body.level z.body.right z.body.high D c a z.body.items (HST.out.more (onlyA wr (.cells #[.int .i64 z.page, .int .i64 z.body.lsn, .int .i64 z.body.kind, .int .i64 z.body.level, .int .i64 z.body.right, .string z.body.high, .slice a z.body.items.length c] 183))) hhi hls
      rw [show (⟨z.body.lsn, z.body.kind, z.body.level, z.body.right, z.body.high, z.body.items⟩ : Pg) = z.body from rfl] at he
      refine Calls.mono he ?_
      clear he
      rintro e w2 ⟨rfl, ho2⟩
      have HO2 := hide (o2 (onlyA wr _) ho2)
      have HL2 := hide (HL.out.more HO2.out)
      have HOO := hide (o2 HO.out HO2.out)
      clear ho2 d0 d1 d2 d3 d4 d5 d6
      by_cases hc : z.body.out.2 = 0
      · obtain ⟨ho, hf⟩ := out_zero hc
        have HF := hide hf
        rw [ho]
        simp only
        obtain ⟨E, hE⟩ : ∃ E, str z.body.enc = E := ⟨_, rfl⟩
        have hEs : E.size = 512 := by rw [← hE, str_size]; exact enc_len _ HF.out.2.2
        have hE0 : 0 < E.size := by omega
        have hE1 : E.size ≤ 512 := by omega
        rw [hE]
        obtain ⟨X, hX⟩ : ∃ X, str (bare (bl E)) = X := ⟨_, rfl⟩
        have HXE : Hid (X = str (bare z.body.enc)) := by unfold Hid; rw [← hX, ← hE, bl_str]
        have HTR : Hid (∀ W, Calls Tryz.prog 158 #[.string E, .string ⟨#[0]⟩] W fun e w' => e = .returned (.string X) ∧ w' = W) := fun W => by
          have h1 := tr_any W E hE0 hE1
          rw [hX] at h1
          exact h1
        have hXs : X.size ≤ 512 := by
          rw [← hX, str_size]
          have := bare_len (bl E)
          rw [bl_len] at this
          omega
        have HC := hide hc
        have HBT : Hid (bares (l.take (j + 1)) = bares (l.take j) ++ [X]) := by unfold Hid bares; rw [HT.out, List.map_append, HXE.out]; rfl
        clear hc hf ho hE hX hEs hE0 hE1
        go_wp2_with fail
        refine (HTR.out _).mono ?_
        rintro e w3 ⟨rfl, rfl⟩
        have hbl : (bares (l.take j)).length ≤ 4 := by simp only [bares, List.length_map, List.length_take]; omega
        obtain ⟨v4, w4, r4, l4, o4⟩ := append_strs (w3.alloc (.cells #[.string X] 9)) 43 w.heap.size _ (bares (l.take j)) (HL2.out.more (onlyA _ _)) w3.heap.size 1 (some ⟨w3.heap.size, 0, none⟩) [X] (Strs.one w3 X (by omega)) ⟨fun h => (by cases h), by simp, (by unfold maxLen; omega)⟩ (by simp; omega) (by have := HOO.out.size; simp; omega)
        have R4 := hide r4
        have L4 := hide l4
        have O4 : Hid (Only (fun _ => False) w w4) := (o2 HOO.out (onlyA _ _)).trans o4 (fun k hk e => by omega)
        clear r4 l4 o4
        go_wp2_with (at_builtin; go_must (refine Lib.wpList_append_run _ rfl (.tmp 27) (.tmp 30) _ _ rfl _ _ rfl rfl _ _ R4.out ?_))
        go_roundw
        case rel => exact ⟨j + 1, by omega, by go_num, by unfold Hid; rw [HOUT.out, HC.out], by rw [HBT.out]; exact L4, O4⟩
        case measure => simp [intOf]; omega
      · have hne : (z.body.out.2 != 0) = true := by simpa using hc
        have HER : Hid (imErr l = z.body.out.2) := by unfold Hid; rw [← HOUT.out]; exact imErr_take l (j + 1) (by rw [HOUT.out]; exact hc)
        have HC := hide hc
        obtain ⟨q, hq⟩ : ∃ q, z.body.out.2 = q := ⟨_, rfl⟩
        rw [hq] at hne HER HC ⊢
        clear hc hq HOUT
        go_wp2_with fail
        go_ret2
        exact ⟨HOO.out, fun _ => by rw [HER.out]; rfl, fun h => absurd (HER.out.symm.trans h) HC.out⟩
    · have e : l.take j = l := List.take_of_length_le (by omega)
      rw [e] at HE HL
      have hbl : (bares l).length = l.length := by simp [bares]
      obtain ⟨B5, ao5, cp5, rfl, hS5, _⟩ := HL.out.strs (by omega) (fun s hs => by
        obtain ⟨i, hi, rfl⟩ := List.mem_map.1 hs
        have h1 := imErr_all HE.out i hi
        have h2 := bare_len i.body.enc
        rw [enc_len _ h1.2.2.2.2] at h2
        rw [str_size]; omega)
      have HS5 := hide hS5
      rw [hbl]
      clear hS5 hbl
      go_wp2_with fail
      go_ret2
      exact ⟨HO.out, fun h => absurd HE.out h, fun _ => ⟨B5, ao5, cp5, rfl, HS5.out⟩⟩
end Go.Proofs.YtbfafijfhaejmaaGreatDoor
