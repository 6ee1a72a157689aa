/- The walk of DiskDies. -/
import Derived.Test.YtedanlbbpfaleaaDAwake
namespace Go.Proofs.Ytedanlbbpfaleaa
open Go.RowKit

/-- Truth values that a slice leads to, in block B. -/
structure Bools (w : World) (B : Nat) (ao : Option Addr) (l : List Bool) : Prop where
  at_ : 0 < l.length → ∃ o, ao = some ⟨B, o, none⟩ ∧ ∀ j, j < l.length → w.cell? ⟨B, o + j, none⟩ = some (.bool (l.getD j false))
  lt : 0 < l.length → B < w.heap.size
  len : l.length < 9223372036854775808
theorem Bools.kept {S : Nat → Prop} {w w' : World} {B : Nat} {ao : Option Addr} {l : List Bool} (h : Bools w B ao l) (ho : Only S w w') (hS : 0 < l.length → ¬ S B) : Bools w' B ao l := by
  refine ⟨fun hl => ?_, fun hl => Nat.lt_of_lt_of_le (h.lt hl) ho.size, h.len⟩
  obtain ⟨o, e, hc⟩ := h.at_ hl
  exact ⟨o, e, fun j hj => (ho.cell (p := ⟨B, o + j, none⟩) (h.lt hl) (hS hl)).trans (hc j hj)⟩
/-- How an act leaves a disk's numbers. -/
structure Acted (E F : Dk) : Prop where
  acts : F.acts = wrap64 (E.acts + 1)
  armed : F.armed = if E.armed = 0 then 0 else E.armed - 1
  dead : F.dead = if E.armed = 0 then E.dead else decide (E.armed = 1)
  len : F.old.length = E.old.length
theorem acted_sync {E : Dk} (hd : E.dead = false) : Acted E E.sync.1 ∧ E.sync.2 = if E.armed = 1 then 5 else 0 := by
  unfold Dk.sync
  simp only [hd]
  by_cases h : E.armed = 1
  · simp only [h]
    exact ⟨⟨rfl, by simp [Dk.act, h], by simp [Dk.act, h], rfl⟩, by simp⟩
  · simp only [h]
    exact ⟨⟨rfl, rfl, rfl, by simp [Dk.synced, Dk.act]⟩, by simp⟩
theorem write_one {E : Dk} (hd : E.dead = false) (k : Nat) (l : List UInt8) (hk : k < E.old.length) (hl : l.length = 64) : E.write (k : Int) l = ((E.put k l).act, if E.armed = 1 then 5 else 0) := by
  unfold Dk.write
  have h1 : l.length % 64 = 0 ∧ hasB E.old.length (k : Int) ((l.length / 64 : Nat) : Int) = true := by
    rw [hl]
    refine ⟨rfl, ?_⟩
    unfold hasB
    simp
    omega
  have e : chunks (l.length / 64) l = [l] := by
    rw [hl]
    show [l.take 64] = [l]
    rw [List.take_of_length_le (by omega)]
  simp only [hd, if_pos h1, e, Int.toNat_natCast]
  show Dk.writes E k [l] = _
  unfold Dk.writes
  by_cases h : E.armed = 1
  · simp [h]
  · simp [h, Dk.writes]
theorem acted_write {E : Dk} (hd : E.dead = false) (k : Nat) (l : List UInt8) (hk : k < E.old.length) (hl : l.length = 64) : Acted E (E.write (k : Int) l).1 ∧ (E.write (k : Int) l).2 = if E.armed = 1 then 5 else 0 := by
  rw [write_one hd k l hk hl]
  exact ⟨⟨rfl, rfl, rfl, rfl⟩, rfl⟩
theorem fill_size (n : Int) : (⟨(fillB n).toArray⟩ : ByteArray).size = 64 := by simp [ByteArray.size, fillB_len]
/-- The blocks of a disk are new since w. -/
def Newer (w : World) (d g m : Nat) : Prop := ∀ i, i < w.heap.size → own d g m i → False
set_option maxRecDepth 100000 in
set_option maxHeartbeats 1600000 in
theorem dies_law (w : World) (a : Int) (ha : -9223372036854775808 ≤ a ∧ a < 9223372036854775808) (B : Nat) (ao : Option Addr) (cp : Nat) (l : List Bool) (hl : Bools w B ao l) :
    Calls Try.prog 5 #[.int .i64 a, .slice ao l.length cp] w fun e w' => e = .returned (.bool true) ∧ Only (fun _ => False) w w' := by
  have hpk := fun w => pick_any w a 30 ha (by omega) (by omega)
  have hp30 : 0 ≤ pickP a 30 ∧ pickP a 30 < 30 := by
    unfold pickP
    constructor
    · exact Int.emod_nonneg _ (by omega)
    · exact Int.emod_lt_of_pos _ (by omega)
  obtain ⟨q, hq⟩ : ∃ q : Nat, pickP a 30 = (q : Int) := Int.eq_ofNat_of_zero_le hp30.1
  rw [hq] at hpk hp30
  have HL := hide hl
  have hll := hl.len
  clear hl hq
  go_enter Try.func5, Try.ntmps5
  go_wp2_with fail
  refine (new_ok w 8 (by omega) (by omega)).mono ?_
  rintro e w1 ⟨rfl, hD1, hO1⟩
  obtain ⟨d, hd⟩ : ∃ d, w.heap.size + 2 = d := ⟨_, rfl⟩
  obtain ⟨m, hm⟩ : ∃ m, w.heap.size + 1 = m := ⟨_, rfl⟩
  obtain ⟨g, hg⟩ : ∃ g, w.heap.size = g := ⟨_, rfl⟩
  rw [hd, hm, hg] at hD1
  rw [hd]
  have HS : Hid (Newer w d g m) := fun i hi ho => by unfold own at ho; omega
  have HD1 := hide hD1
  have HO1 := hide hO1
  clear hd hm hg hD1 hO1
  go_wp2_with (first | (go_at_call 15; refine (hpk _).mono ?_; rintro e w' ⟨rfl, hw⟩; obtain rfl := hw.symm; clear hw))
  have hw := arm_any w1 d g m _ HD1.out (1 + (q : Int)) (by omega)
  have e1 : (Dk.new 8).arm (1 + (q : Int)) = ({ Dk.new 8 with armed := 1 + (q : Int) }, 0) := by unfold Dk.arm; simp [Dk.new]; omega
  rw [e1] at hw
  refine hw.mono ?_
  rintro e w2 ⟨rfl, hD2, hO2⟩
  have HO2 := hide (HO1.out.trans hO2 HS.out)
  obtain ⟨E0, hE0⟩ : ∃ E, ({ Dk.new 8 with armed := 1 + (q : Int) } : Dk) = E := ⟨_, rfl⟩
  have hE1 : E0.acts = 0 ∧ E0.armed = 1 + (q : Int) ∧ E0.dead = false ∧ E0.old.length = 8 := by rw [← hE0]; refine ⟨rfl, rfl, rfl, by simp [Dk.new]⟩
  simp only [hE0] at hD2
  have HD2 := hide hD2
  have HE1 := hide hE1
  clear hw e1 hD2 hO2 hE0 hE1 hpk HD1 HO1
  go_wp2_with fail
  go_loopw [8] (fun y wr => ∃ (j : Nat) (E : Dk), j ≤ q + 1 ∧ y = .int .i64 ((j : Int) + 1) ∧ Hid (E.acts = (j : Int) ∧ E.armed = 1 + (q : Int) - (j : Int) ∧ E.dead = decide (j = q + 1) ∧ E.old.length = 8) ∧ Hid (Dsk wr d g m E) ∧ Hid (Only (fun _ => False) w wr) ∧ Hid (Bools wr B ao l)) (fun y _ => q + 2 - (intOf y).toNat)
  case atStart => exact ⟨0, E0, by omega, by go_num, hide ⟨HE1.out.1, by rw [HE1.out.2.1]; omega, by rw [HE1.out.2.2.1]; symm; simp, HE1.out.2.2.2⟩, HD2, HO2, hide (HL.out.kept HO2.out (fun _ h => h))⟩
  case round =>
    obtain ⟨j, E, hj, rfl, HE, HD, HO, HJ⟩ := hrel
    by_cases hlt : j ≤ q
    · by_cases hlast : q ≤ j
      · have hbe : ((j : Int) + 1 == 1 + (q : Int)) = true := by simp; omega
        by_cases hjs : j < l.length
        · obtain ⟨of, hao, hcs⟩ := HJ.out.at_ (by omega)
          have hcb := hcs j hjs
          subst hao
          cases hbb : l.getD j false <;> rw [hbb] at hcb
          · clear hcs hbb
            have hE := HE.out
            have hdead : E.dead = false := by rw [hE.2.2.1]; simp; omega
            have hfl := fun w => fill_any w ((j : Int) + 1)
            have hsz := fill_size ((j : Int) + 1)
            have hkk : ((j : Int) + 1) % 8 = (((j + 1) % 8 : Nat) : Int) := by omega
            obtain ⟨F, hFe⟩ : ∃ F, (E.write (((j + 1) % 8 : Nat) : Int) (fillB ((j : Int) + 1))).1 = F := ⟨_, rfl⟩
            have hacts := acted_write hdead ((j + 1) % 8) (fillB ((j : Int) + 1)) (by rw [hE.2.2.2]; omega) (fillB_len _)
            have hwr := fun w3 (h : Only (fun _ => False) wr w3) => write_any w3 d g m E (HD.out.same h) (((j : Int) + 1) % 8) ⟨(fillB ((j : Int) + 1)).toArray⟩ (by omega) (by rw [hsz]; omega)
            obtain ⟨sf, hsf⟩ : ∃ sf : ByteArray, (⟨(fillB ((j : Int) + 1)).toArray⟩ : ByteArray) = sf := ⟨_, rfl⟩
            rw [hsf] at hfl hsz
            simp only [hsf] at hwr
            rw [hFe] at hacts
            obtain ⟨hac0, her⟩ := hacts
            have hFa : F.acts = (j : Int) + 1 := by rw [hac0.acts, HE.out.1]; unfold wrap64; omega
            have hFm : F.armed = (q : Int) - (j : Int) := by rw [hac0.armed, HE.out.2.1, if_neg (by omega)]; omega
            have hFd : F.dead = true := by rw [hac0.dead, HE.out.2.1, if_neg (by omega)]; simp; omega
            have hFl : F.old.length = 8 := by rw [hac0.len]; exact HE.out.2.2.2
            have hFW : E.write (((j : Int) + 1) % 8) (fillB ((j : Int) + 1)) = (F, 5) := by
              rw [hkk]
              refine Prod.ext hFe ?_
              rw [her, HE.out.2.1, if_pos (show 1 + (q : Int) - (j : Int) = 1 by omega)]
            simp only [hFW] at hwr
            have HWR := hide hwr
            clear hE hdead hFe hac0 her hsf hwr hsz hkk hFW
            go_wp2_with fail
            go_at_call 16
            refine (hfl _).mono ?_
            rintro e w3 ⟨rfl, hO3⟩
            go_wp2_with fail
            go_at_call 17
            refine (HWR.out w3 hO3).mono ?_
            rintro e w4 ⟨rfl, hF4, hO4'⟩
            have hO4 : Only (own d g m) wr w4 := (hO3.mono (fun _ _ h => h.elim)).trans hO4' (fun _ _ h => h)
            clear hfl hO3 hO4' HWR
            have HF := hide hF4
            have HO4 := hide (HO.out.trans hO4 HS.out)
            have HL4 := hide (HJ.out.kept hO4 (fun hl ho => HS.out B (HL.out.lt hl) ho))
            have HFa := hide hFa
            have HFm := hide hFm
            have HFd := hide hFd
            have HFl := hide hFl
            clear hFm hFl hF4 hO4
            have hda := dead_any w4 d g m F HF.out
            rw [hFd] at hda
            have hac := acts_any w4 d g m F HF.out
            rw [hFa] at hac
            clear hFd hFa
            go_wp2_with (first
              | (go_at_call 20; refine hda.mono ?_; rintro e w' ⟨rfl, hw⟩; obtain rfl := hw.symm; clear hw)
              | (go_at_call 23; refine hac.mono ?_; rintro e w' ⟨rfl, hw⟩; obtain rfl := hw.symm; clear hw))
            go_roundw
            case rel => exact ⟨j + 1, F, by omega, by go_num, hide ⟨by rw [HFa.out]; omega, by rw [HFm.out]; omega, by rw [HFd.out]; simp; omega, HFl.out⟩, HF, HO4, HL4⟩
            case measure => simp [intOf]; omega
          · clear hcs hbb
            have hE := HE.out
            have hdead : E.dead = false := by rw [hE.2.2.1]; simp; omega
            obtain ⟨F, hFe⟩ : ∃ F, E.sync.1 = F := ⟨_, rfl⟩
            have hw := sync_any wr d g m E HD.out
            have hacts := acted_sync hdead
            rw [hFe] at hw hacts
            obtain ⟨hac0, her⟩ := hacts
            have hFa : F.acts = (j : Int) + 1 := by rw [hac0.acts, HE.out.1]; unfold wrap64; omega
            have hFm : F.armed = (q : Int) - (j : Int) := by rw [hac0.armed, HE.out.2.1, if_neg (by omega)]; omega
            have hFd : F.dead = true := by rw [hac0.dead, HE.out.2.1, if_neg (by omega)]; simp; omega
            have hFl : F.old.length = 8 := by rw [hac0.len]; exact HE.out.2.2.2
            rw [her, HE.out.2.1, if_pos (by omega)] at hw
            clear hE hdead hFe hac0 her
            go_wp2_with fail
            refine hw.mono ?_
            rintro e w4 ⟨rfl, hF4, hO4⟩
            clear hw
            have HF := hide hF4
            have HO4 := hide (HO.out.trans hO4 HS.out)
            have HL4 := hide (HJ.out.kept hO4 (fun hl ho => HS.out B (HL.out.lt hl) ho))
            have HFa := hide hFa
            have HFm := hide hFm
            have HFd := hide hFd
            have HFl := hide hFl
            clear hFm hFl hF4 hO4
            have hda := dead_any w4 d g m F HF.out
            rw [hFd] at hda
            have hac := acts_any w4 d g m F HF.out
            rw [hFa] at hac
            clear hFd hFa
            go_wp2_with (first
              | (go_at_call 20; refine hda.mono ?_; rintro e w' ⟨rfl, hw⟩; obtain rfl := hw.symm; clear hw)
              | (go_at_call 23; refine hac.mono ?_; rintro e w' ⟨rfl, hw⟩; obtain rfl := hw.symm; clear hw))
            go_roundw
            case rel => exact ⟨j + 1, F, by omega, by go_num, hide ⟨by rw [HFa.out]; omega, by rw [HFm.out]; omega, by rw [HFd.out]; simp; omega, HFl.out⟩, HF, HO4, HL4⟩
            case measure => simp [intOf]; omega
        · have hskip := hjs
          have hE := HE.out
          have hdead : E.dead = false := by rw [hE.2.2.1]; simp; omega
          have hfl := fun w => fill_any w ((j : Int) + 1)
          have hsz := fill_size ((j : Int) + 1)
          have hkk : ((j : Int) + 1) % 8 = (((j + 1) % 8 : Nat) : Int) := by omega
          obtain ⟨F, hFe⟩ : ∃ F, (E.write (((j + 1) % 8 : Nat) : Int) (fillB ((j : Int) + 1))).1 = F := ⟨_, rfl⟩
          have hacts := acted_write hdead ((j + 1) % 8) (fillB ((j : Int) + 1)) (by rw [hE.2.2.2]; omega) (fillB_len _)
          have hwr := fun w3 (h : Only (fun _ => False) wr w3) => write_any w3 d g m E (HD.out.same h) (((j : Int) + 1) % 8) ⟨(fillB ((j : Int) + 1)).toArray⟩ (by omega) (by rw [hsz]; omega)
          obtain ⟨sf, hsf⟩ : ∃ sf : ByteArray, (⟨(fillB ((j : Int) + 1)).toArray⟩ : ByteArray) = sf := ⟨_, rfl⟩
          rw [hsf] at hfl hsz
          simp only [hsf] at hwr
          rw [hFe] at hacts
          obtain ⟨hac0, her⟩ := hacts
          have hFa : F.acts = (j : Int) + 1 := by rw [hac0.acts, HE.out.1]; unfold wrap64; omega
          have hFm : F.armed = (q : Int) - (j : Int) := by rw [hac0.armed, HE.out.2.1, if_neg (by omega)]; omega
          have hFd : F.dead = true := by rw [hac0.dead, HE.out.2.1, if_neg (by omega)]; simp; omega
          have hFl : F.old.length = 8 := by rw [hac0.len]; exact HE.out.2.2.2
          have hFW : E.write (((j : Int) + 1) % 8) (fillB ((j : Int) + 1)) = (F, 5) := by
            rw [hkk]
            refine Prod.ext hFe ?_
            rw [her, HE.out.2.1, if_pos (show 1 + (q : Int) - (j : Int) = 1 by omega)]
          simp only [hFW] at hwr
          have HWR := hide hwr
          clear hE hdead hFe hac0 her hsf hwr hsz hkk hFW
          go_wp2_with fail
          go_at_call 16
          refine (hfl _).mono ?_
          rintro e w3 ⟨rfl, hO3⟩
          go_wp2_with fail
          go_at_call 17
          refine (HWR.out w3 hO3).mono ?_
          rintro e w4 ⟨rfl, hF4, hO4'⟩
          have hO4 : Only (own d g m) wr w4 := (hO3.mono (fun _ _ h => h.elim)).trans hO4' (fun _ _ h => h)
          clear hfl hO3 hO4' HWR
          have HF := hide hF4
          have HO4 := hide (HO.out.trans hO4 HS.out)
          have HL4 := hide (HJ.out.kept hO4 (fun hl ho => HS.out B (HL.out.lt hl) ho))
          have HFa := hide hFa
          have HFm := hide hFm
          have HFd := hide hFd
          have HFl := hide hFl
          clear hFm hFl hF4 hO4
          have hda := dead_any w4 d g m F HF.out
          rw [hFd] at hda
          have hac := acts_any w4 d g m F HF.out
          rw [hFa] at hac
          clear hFd hFa
          go_wp2_with (first
            | (go_at_call 20; refine hda.mono ?_; rintro e w' ⟨rfl, hw⟩; obtain rfl := hw.symm; clear hw)
            | (go_at_call 23; refine hac.mono ?_; rintro e w' ⟨rfl, hw⟩; obtain rfl := hw.symm; clear hw))
          go_roundw
          case rel => exact ⟨j + 1, F, by omega, by go_num, hide ⟨by rw [HFa.out]; omega, by rw [HFm.out]; omega, by rw [HFd.out]; simp; omega, HFl.out⟩, HF, HO4, HL4⟩
          case measure => simp [intOf]; omega
      · have hbe : ((j : Int) + 1 == 1 + (q : Int)) = false := by simp; omega
        by_cases hjs : j < l.length
        · obtain ⟨of, hao, hcs⟩ := HJ.out.at_ (by omega)
          have hcb := hcs j hjs
          subst hao
          cases hbb : l.getD j false <;> rw [hbb] at hcb
          · clear hcs hbb
            have hE := HE.out
            have hdead : E.dead = false := by rw [hE.2.2.1]; simp; omega
            have hfl := fun w => fill_any w ((j : Int) + 1)
            have hsz := fill_size ((j : Int) + 1)
            have hkk : ((j : Int) + 1) % 8 = (((j + 1) % 8 : Nat) : Int) := by omega
            obtain ⟨F, hFe⟩ : ∃ F, (E.write (((j + 1) % 8 : Nat) : Int) (fillB ((j : Int) + 1))).1 = F := ⟨_, rfl⟩
            have hacts := acted_write hdead ((j + 1) % 8) (fillB ((j : Int) + 1)) (by rw [hE.2.2.2]; omega) (fillB_len _)
            have hwr := fun w3 (h : Only (fun _ => False) wr w3) => write_any w3 d g m E (HD.out.same h) (((j : Int) + 1) % 8) ⟨(fillB ((j : Int) + 1)).toArray⟩ (by omega) (by rw [hsz]; omega)
            obtain ⟨sf, hsf⟩ : ∃ sf : ByteArray, (⟨(fillB ((j : Int) + 1)).toArray⟩ : ByteArray) = sf := ⟨_, rfl⟩
            rw [hsf] at hfl hsz
            simp only [hsf] at hwr
            rw [hFe] at hacts
            obtain ⟨hac0, her⟩ := hacts
            have hFa : F.acts = (j : Int) + 1 := by rw [hac0.acts, HE.out.1]; unfold wrap64; omega
            have hFm : F.armed = (q : Int) - (j : Int) := by rw [hac0.armed, HE.out.2.1, if_neg (by omega)]; omega
            have hFd : F.dead = false := by rw [hac0.dead, HE.out.2.1, if_neg (by omega)]; simp; omega
            have hFl : F.old.length = 8 := by rw [hac0.len]; exact HE.out.2.2.2
            have hFW : E.write (((j : Int) + 1) % 8) (fillB ((j : Int) + 1)) = (F, 0) := by
              rw [hkk]
              refine Prod.ext hFe ?_
              rw [her, HE.out.2.1, if_neg (show ¬ 1 + (q : Int) - (j : Int) = 1 by omega)]
            simp only [hFW] at hwr
            have HWR := hide hwr
            clear hE hdead hFe hac0 her hsf hwr hsz hkk hFW
            go_wp2_with fail
            go_at_call 16
            refine (hfl _).mono ?_
            rintro e w3 ⟨rfl, hO3⟩
            go_wp2_with fail
            go_at_call 17
            refine (HWR.out w3 hO3).mono ?_
            rintro e w4 ⟨rfl, hF4, hO4'⟩
            have hO4 : Only (own d g m) wr w4 := (hO3.mono (fun _ _ h => h.elim)).trans hO4' (fun _ _ h => h)
            clear hfl hO3 hO4' HWR
            have HF := hide hF4
            have HO4 := hide (HO.out.trans hO4 HS.out)
            have HL4 := hide (HJ.out.kept hO4 (fun hl ho => HS.out B (HL.out.lt hl) ho))
            have HFa := hide hFa
            have HFm := hide hFm
            have HFd := hide hFd
            have HFl := hide hFl
            clear hFm hFl hF4 hO4
            have hda := dead_any w4 d g m F HF.out
            rw [hFd] at hda
            have hac := acts_any w4 d g m F HF.out
            rw [hFa] at hac
            clear hFd hFa
            go_wp2_with (first
              | (go_at_call 20; refine hda.mono ?_; rintro e w' ⟨rfl, hw⟩; obtain rfl := hw.symm; clear hw)
              | (go_at_call 23; refine hac.mono ?_; rintro e w' ⟨rfl, hw⟩; obtain rfl := hw.symm; clear hw))
            go_roundw
            case rel => exact ⟨j + 1, F, by omega, by go_num, hide ⟨by rw [HFa.out]; omega, by rw [HFm.out]; omega, by rw [HFd.out]; symm; simp; omega, HFl.out⟩, HF, HO4, HL4⟩
            case measure => simp [intOf]; omega
          · clear hcs hbb
            have hE := HE.out
            have hdead : E.dead = false := by rw [hE.2.2.1]; simp; omega
            obtain ⟨F, hFe⟩ : ∃ F, E.sync.1 = F := ⟨_, rfl⟩
            have hw := sync_any wr d g m E HD.out
            have hacts := acted_sync hdead
            rw [hFe] at hw hacts
            obtain ⟨hac0, her⟩ := hacts
            have hFa : F.acts = (j : Int) + 1 := by rw [hac0.acts, HE.out.1]; unfold wrap64; omega
            have hFm : F.armed = (q : Int) - (j : Int) := by rw [hac0.armed, HE.out.2.1, if_neg (by omega)]; omega
            have hFd : F.dead = false := by rw [hac0.dead, HE.out.2.1, if_neg (by omega)]; simp; omega
            have hFl : F.old.length = 8 := by rw [hac0.len]; exact HE.out.2.2.2
            rw [her, HE.out.2.1, if_neg (by omega)] at hw
            clear hE hdead hFe hac0 her
            go_wp2_with fail
            refine hw.mono ?_
            rintro e w4 ⟨rfl, hF4, hO4⟩
            clear hw
            have HF := hide hF4
            have HO4 := hide (HO.out.trans hO4 HS.out)
            have HL4 := hide (HJ.out.kept hO4 (fun hl ho => HS.out B (HL.out.lt hl) ho))
            have HFa := hide hFa
            have HFm := hide hFm
            have HFd := hide hFd
            have HFl := hide hFl
            clear hFm hFl hF4 hO4
            have hda := dead_any w4 d g m F HF.out
            rw [hFd] at hda
            have hac := acts_any w4 d g m F HF.out
            rw [hFa] at hac
            clear hFd hFa
            go_wp2_with (first
              | (go_at_call 20; refine hda.mono ?_; rintro e w' ⟨rfl, hw⟩; obtain rfl := hw.symm; clear hw)
              | (go_at_call 23; refine hac.mono ?_; rintro e w' ⟨rfl, hw⟩; obtain rfl := hw.symm; clear hw))
            go_roundw
            case rel => exact ⟨j + 1, F, by omega, by go_num, hide ⟨by rw [HFa.out]; omega, by rw [HFm.out]; omega, by rw [HFd.out]; symm; simp; omega, HFl.out⟩, HF, HO4, HL4⟩
            case measure => simp [intOf]; omega
        · have hskip := hjs
          have hE := HE.out
          have hdead : E.dead = false := by rw [hE.2.2.1]; simp; omega
          have hfl := fun w => fill_any w ((j : Int) + 1)
          have hsz := fill_size ((j : Int) + 1)
          have hkk : ((j : Int) + 1) % 8 = (((j + 1) % 8 : Nat) : Int) := by omega
          obtain ⟨F, hFe⟩ : ∃ F, (E.write (((j + 1) % 8 : Nat) : Int) (fillB ((j : Int) + 1))).1 = F := ⟨_, rfl⟩
          have hacts := acted_write hdead ((j + 1) % 8) (fillB ((j : Int) + 1)) (by rw [hE.2.2.2]; omega) (fillB_len _)
          have hwr := fun w3 (h : Only (fun _ => False) wr w3) => write_any w3 d g m E (HD.out.same h) (((j : Int) + 1) % 8) ⟨(fillB ((j : Int) + 1)).toArray⟩ (by omega) (by rw [hsz]; omega)
          obtain ⟨sf, hsf⟩ : ∃ sf : ByteArray, (⟨(fillB ((j : Int) + 1)).toArray⟩ : ByteArray) = sf := ⟨_, rfl⟩
          rw [hsf] at hfl hsz
          simp only [hsf] at hwr
          rw [hFe] at hacts
          obtain ⟨hac0, her⟩ := hacts
          have hFa : F.acts = (j : Int) + 1 := by rw [hac0.acts, HE.out.1]; unfold wrap64; omega
          have hFm : F.armed = (q : Int) - (j : Int) := by rw [hac0.armed, HE.out.2.1, if_neg (by omega)]; omega
          have hFd : F.dead = false := by rw [hac0.dead, HE.out.2.1, if_neg (by omega)]; simp; omega
          have hFl : F.old.length = 8 := by rw [hac0.len]; exact HE.out.2.2.2
          have hFW : E.write (((j : Int) + 1) % 8) (fillB ((j : Int) + 1)) = (F, 0) := by
            rw [hkk]
            refine Prod.ext hFe ?_
            rw [her, HE.out.2.1, if_neg (show ¬ 1 + (q : Int) - (j : Int) = 1 by omega)]
          simp only [hFW] at hwr
          have HWR := hide hwr
          clear hE hdead hFe hac0 her hsf hwr hsz hkk hFW
          go_wp2_with fail
          go_at_call 16
          refine (hfl _).mono ?_
          rintro e w3 ⟨rfl, hO3⟩
          go_wp2_with fail
          go_at_call 17
          refine (HWR.out w3 hO3).mono ?_
          rintro e w4 ⟨rfl, hF4, hO4'⟩
          have hO4 : Only (own d g m) wr w4 := (hO3.mono (fun _ _ h => h.elim)).trans hO4' (fun _ _ h => h)
          clear hfl hO3 hO4' HWR
          have HF := hide hF4
          have HO4 := hide (HO.out.trans hO4 HS.out)
          have HL4 := hide (HJ.out.kept hO4 (fun hl ho => HS.out B (HL.out.lt hl) ho))
          have HFa := hide hFa
          have HFm := hide hFm
          have HFd := hide hFd
          have HFl := hide hFl
          clear hFm hFl hF4 hO4
          have hda := dead_any w4 d g m F HF.out
          rw [hFd] at hda
          have hac := acts_any w4 d g m F HF.out
          rw [hFa] at hac
          clear hFd hFa
          go_wp2_with (first
            | (go_at_call 20; refine hda.mono ?_; rintro e w' ⟨rfl, hw⟩; obtain rfl := hw.symm; clear hw)
            | (go_at_call 23; refine hac.mono ?_; rintro e w' ⟨rfl, hw⟩; obtain rfl := hw.symm; clear hw))
          go_roundw
          case rel => exact ⟨j + 1, F, by omega, by go_num, hide ⟨by rw [HFa.out]; omega, by rw [HFm.out]; omega, by rw [HFd.out]; symm; simp; omega, HFl.out⟩, HF, HO4, HL4⟩
          case measure => simp [intOf]; omega
    · have ej : j = q + 1 := by omega
      have hE := HE.out
      have hdead : E.dead = true := by rw [hE.2.2.1, ej]; simp
      have hacq : E.acts = 1 + (q : Int) := by rw [hE.1, ej]; omega
      have hrd := read_bad wr d g m E HD.out 0 1 (by omega) (.inl hdead)
      rw [hdead] at hrd
      have HWD : Hid (∀ w', Only (fun _ => False) wr w' → ∀ u v, Calls Try.prog 17 #[.pointer (some ⟨d, 0, none⟩), u, v] w' fun e w'' => e = .returned (.int .i64 5) ∧ w'' = w') := fun w' h u v => write_dead w' d g m E (HD.out.same h) hdead u v
      have HSD : Hid (∀ w', Only (fun _ => False) wr w' → Calls Try.prog 18 #[.pointer (some ⟨d, 0, none⟩)] w' fun e w'' => e = .returned (.int .i64 5) ∧ w'' = w') := fun w' h => sync_dead w' d g m E (HD.out.same h) hdead
      have HAD : Hid (∀ w', Only (fun _ => False) wr w' → Calls Try.prog 19 #[.pointer (some ⟨d, 0, none⟩), .int .i64 0] w' fun e w'' => e = .returned (.int .i64 5) ∧ Dsk w'' d g m E ∧ Only (own d g m) w' w'') := fun w' h => by
        have := arm_any w' d g m E (HD.out.same h) 0 (by omega)
        have e : E.arm 0 = (E, 5) := by unfold Dk.arm; simp [hdead]
        rw [e] at this
        exact this
      have HAC : Hid (∀ w', Dsk w' d g m E → Calls Try.prog 23 #[.pointer (some ⟨d, 0, none⟩)] w' fun e w'' => e = .returned (.int .i64 (1 + (q : Int))) ∧ w'' = w') := fun w' h => by
        have := acts_any w' d g m E h
        rw [hacq] at this
        exact this
      have hf1 := fun w => fill_any w 1
      have hsz := fill_size 1
      obtain ⟨G, hG⟩ : ∃ G, E.crash [] = G := ⟨_, rfl⟩
      have hGd : G.dead = false := by rw [← hG]; rfl
      have hGl : G.old.length = 8 := by rw [← hG]; simp [Dk.crash, falls_len, hE.2.2.2]
      have hGw : (G.write ((0 : Nat) : Int) (fillB 1)).2 = 0 := by
        rw [write_one hGd 0 _ (by omega) (fillB_len 1), ← hG]
        simp [Dk.crash]
      obtain ⟨sf, hsf⟩ : ∃ sf : ByteArray, (⟨(fillB 1).toArray⟩ : ByteArray) = sf := ⟨_, rfl⟩
      have hsd : sf.data.toList = fillB 1 := by rw [← hsf]
      rw [hsf] at hf1 hsz
      have HG := hide hG
      have HGd := hide hGd
      have HGw := hide hGw
      have HSd := hide hsd
      clear hE hdead hacq hG hGd hGl hGw hsf hsd ej
      go_wp2_with fail
      refine hrd.mono ?_
      rintro e w3 ⟨rfl, hw3⟩
      obtain rfl := hw3.symm
      clear hrd hw3
      go_wp2_with fail
      refine (hf1 _).mono ?_
      rintro e w4 ⟨rfl, hO4⟩
      go_wp2_with (first
        | (go_at_call 17; refine (HWD.out w4 hO4 _ _).mono ?_; rintro e w' ⟨rfl, hw⟩; obtain rfl := hw.symm; clear hw)
        | (go_at_call 18; refine (HSD.out w4 hO4).mono ?_; rintro e w' ⟨rfl, hw⟩; obtain rfl := hw.symm; clear hw))
      refine (HAD.out w4 hO4).mono ?_
      rintro e w5 ⟨rfl, hD5, hO5⟩
      have HD5 := hide hD5
      have HO5 := hide ((HO.out.trans hO4 (fun _ _ h => h)).trans hO5 HS.out)
      clear hD5 hO5 hO4 HWD HSD HAD
      go_wp2_with (first
        | (go_at_call 23; refine (HAC.out w5 HD5.out).mono ?_; rintro e w' ⟨rfl, hw⟩; obtain rfl := hw.symm; clear hw))
      have hcr := crash_any w5 d g m E HD5.out 0 none 0 [] ⟨fun h => absurd h (by simp), fun j h => absurd h (by simp), fun h => absurd h (by simp), by simp⟩ (fun h => absurd h (by simp))
      rw [HG.out] at hcr
      refine hcr.mono ?_
      rintro e w6 ⟨rfl, hD6, hO6⟩
      have HD6 := hide hD6
      have HO6 := hide (HO5.out.trans hO6 HS.out)
      clear hcr hD6 hO6 HD5 HO5
      go_wp2_with fail
      refine (awake_any _).mono ?_
      rintro e w7 ⟨rfl, hO7⟩
      have HD7 := hide (HD6.out.same hO7)
      have HO7 := hide (HO6.out.trans hO7 (fun _ _ h => h))
      have hdd := dead_any w7 d g m G HD7.out
      rw [HGd.out] at hdd
      clear HD6 HO6 hO7
      go_wp2_with (first
        | (go_at_call 20; refine hdd.mono ?_; rintro e w' ⟨rfl, hw⟩; obtain rfl := hw.symm; clear hw))
      refine (hf1 _).mono ?_
      rintro e w8 ⟨rfl, hO8⟩
      have hwr := write_any w8 d g m G (HD7.out.same hO8) ((0 : Nat) : Int) sf (by omega) (by omega)
      rw [HSd.out, HGw.out] at hwr
      have HO8 := hide (HO7.out.trans hO8 (fun _ _ h => h))
      clear hdd hO8 HD7 HO7 hf1
      go_wp2_with fail
      refine hwr.mono ?_
      rintro e w9 ⟨rfl, hD9, hO9⟩
      have HO9 := hide (HO8.out.trans hO9 HS.out)
      clear hwr hD9 hO9 HO8
      go_wp2_with fail
      go_ret
      exact ⟨rfl, HO9.out⟩
end Go.Proofs.Ytedanlbbpfaleaa
