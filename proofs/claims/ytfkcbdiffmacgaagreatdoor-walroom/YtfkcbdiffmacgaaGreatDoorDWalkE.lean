/- What Write does with whole sectors. -/
import Derived.Test.YtfkcbdiffmacgaaGreatDoorDWalkD
namespace Go.Proofs.YtfkcbdiffmacgaaGreatDoor
open Go.RowKit

theorem writes_step (D : Dk) (k : Nat) (b : List UInt8) (r : List (List UInt8)) : D.writes k (b :: r) = if D.armed = 1 then ((D.put k b).act, 5) else Dk.writes (D.put k b).act (k + 1) r := rfl
set_option maxRecDepth 100000 in
set_option maxHeartbeats 1600000 in
theorem write_ok (w : World) (d g m : Nat) (D : Dk) (h : Dsk w d g m D) (hd : D.dead = false) (a n : Nat) (s : ByteArray) (hs : s.size = n * 64) (hn : a + n ≤ D.old.length) :
    Calls Tryz.prog 22 #[.pointer (some ⟨d, 0, none⟩), .int .i64 (a : Int), .string s] w fun e w' =>
      e = .returned (.int .i64 (D.writes a (chunks n s.data.toList)).2) ∧ Dsk w' d g m (D.writes a (chunks n s.data.toList)).1 ∧ Only (own d g m) w w' := by
  have hu := usable_any w d g m D h
  have h64 := h.ok.hi
  have hh := has_any w d g m D h a n (by omega)
  have e : hasB D.old.length a n = true := by unfold hasB; simp; omega
  rw [e] at hh
  rw [hd] at hu
  have H := hide h
  have HD := hide hd
  have hq : (s.size : Int) / 64 = (n : Int) := by omega
  have hr : (s.size : Int) % 64 = 0 := by omega
  obtain ⟨R, hR⟩ : ∃ R, D.writes a (chunks n s.data.toList) = R := ⟨_, rfl⟩
  rw [hR]
  have HR := hide hR
  clear h hd e hR
  go_enter Tryz.func22, Tryz.ntmps22
  go_wp2_with (first
    | (go_at_call 37; refine hu.mono ?_; rintro e w' ⟨rfl, hw⟩; obtain rfl := hw.symm)
    | (go_at_call 38; refine hh.mono ?_; rintro e w' ⟨rfl, hw⟩; obtain rfl := hw.symm))
  clear hu hh
  go_loopw [31] (fun y wr => ∃ (j : Nat) (E : Dk), j ≤ n ∧ y = .int .i64 (j : Int) ∧ E.old.length = D.old.length ∧ Hid (Dsk wr d g m E) ∧ Hid (E.writes (a + j) ((chunks n s.data.toList).drop j) = R) ∧ Hid (Only (own d g m) w wr)) (fun y _ => n - (intOf y).toNat)
  case atStart => exact ⟨0, D, by omega, rfl, rfl, H, HR, hide (Only.refl _ _)⟩
  case round =>
    obtain ⟨j, E, hj, rfl, hl, HE, HW, HO⟩ := hrel
    by_cases hlt : j < n
    · have hx : (s.extract (j * 64) (n * 64)).data.toList.take 64 = (s.data.toList.drop (64 * j)).take 64 := by
        rw [ByteArray.data_extract, Array.toList_extract, List.extract_eq_take_drop]
        rw [List.take_take]
        congr 1
        · omega
        · rw [Nat.mul_comm]
      obtain ⟨c, hc⟩ : ∃ c, (s.data.toList.drop (64 * j)).take 64 = c := ⟨_, rfl⟩
      have hcp := copy_text (wr.alloc (secObj zeros)).drew wr.heap.size (s.extract (j * 64) (n * 64)) (by simp; omega) (by simp only [World.there_drew]; exact alloc_there wr zeros zeros_len)
      rw [hx, hc] at hcp
      have hl2 : c.length = 64 := by
        rw [← hc]
        simp
        have : s.data.size = n * 64 := hs
        omega
      have HC := hide hc
      clear hx hc
      have hj1 : (j : Int) * 64 ≤ (n : Int) * 64 := by omega
      go_wp2_with (first
        | (refine wpList_alloc_sec _ rfl rfl ?_))
      go_frame
      go_region
      obtain ⟨X, hX⟩ : ∃ X, X = (wr.alloc (secObj zeros)).drew.setCells wr.heap.size 0 (cells c) := ⟨_, rfl⟩
      rw [← hX]
      have hO1 : Only (fun _ => False) wr X := by
        rw [hX]
        exact ((Only.alloc _ _ _).trans (Only.drew _ _) (fun _ _ h => h)).trans (Only.setCells (S := fun i => i = wr.heap.size) _ rfl _ _ _) (fun i hi e => by omega)
      have hrg : X.rangeAt wr.heap.size 0 (cells c) := by
        rw [hX]
        exact World.rangeAt_setCells_same _ _ _ _ (by rw [cells_length, hl2]; simp only [World.there_drew]; exact alloc_there wr zeros zeros_len)
      clear hX hcp
      have hrd : X.drew.rangeAt wr.heap.size 0 (cells c) := by simpa using hrg
      have hus := Tryz.underlying87
      have his : (Tryz.prog.info? 87).map (·.size) = some (cells c).length := by rw [cells_length, hl2]; exact Tryz.infoSec
      have hls : (cells c).length = 64 := by rw [cells_length, hl2]
      have hon := cells_one c
      have hwm : wr.heap.size ≠ m := by have := HE.out.map.lt; omega
      have hE2 := (HE.out.same hO1).same (Only.drew _ X)
      have c1 := hE2.c1
      obtain ⟨X2, hmu, hfr, hO2⟩ := hE2.map.put (by omega) (k := a + j) (by omega) hl2
      have hE3 := hE2.put (by omega) hl2 hfr hO2
      have HO3 : Hid (Only (own d g m) w X2) := ((HO.out.trans hO1 (fun _ _ h => h.elim)).trans (Only.drew (fun _ => False) _) (fun _ _ h => h.elim)).trans hO2 (fun i _ e => .inr (.inr e))
      have hdi := dies_any X2 d g m _ hE3
      have c12 := hE3.c1
      have hr2 : X2.rangeAt wr.heap.size 0 (cells c) := by
        intro i v hv
        rw [hO2.cell (p := ⟨wr.heap.size, 0 + i, none⟩) (World.block_lt_of_cell? _ _ (hrd i v hv)) hwm]
        exact hrd i v hv
      have HE3 := hide hE3
      have hws := writes_step E (a + j) c ((chunks n s.data.toList).drop (j + 1))
      have hwr : E.writes (a + j) (c :: (chunks n s.data.toList).drop (j + 1)) = R := by
        rw [← HW.out, chunks_drop n _ j hlt, HC.out]
      rw [hwr] at hws
      have HWS := hide hws
      clear hO1 hrg hE2 hfr hO2 hE3 hws hwr
      have ea : (E.put (a + j) c).armed = E.armed := rfl
      rw [ea] at hdi
      have hmu' : Sem.run Tryz.prog (Instr.mapUpdate 53 (.map (some m)) (.int .i64 (IntKind.i64.wrap ((a : Int) + (j : Int)))) (.agg (cells c).toArray)) X.drew = .ok () X2 := by
        have : IntKind.i64.wrap ((a : Int) + (j : Int)) = ((a + j : Nat) : Int) := by rw [IntKind.wrap_i64]; omega
        rw [this]
        exact hmu
      clear hmu
      by_cases h1 : E.armed = 1
      · have hw2 : R = ((E.put (a + j) c).act, 5) := by have := HWS.out; rwa [if_pos h1] at this
        simp only [h1, decide_true] at hdi
        have HW2 := hide hw2
        clear h1 hw2
        go_wp2_with fail
        go_region_held3 (fun w' => w'.cell? ⟨d, 1, none⟩ = some (.map (some m)) ∧ w'.rangeAt wr.heap.size 0 (cells c)) (first | exact ⟨c1, hrd⟩ | exact ⟨c12, hr2⟩ | go_keep_ranges) (fail)
        go_wp2_with (first | (go_at_call 39; refine hdi.mono ?_; rintro e w3 ⟨rfl, hE4, hO4⟩))
        go_ret
        rw [HW2.out]
        exact ⟨rfl, hE4, HO3.out.trans hO4 (fun _ _ h => h)⟩
      · have hw2 : Dk.writes (E.put (a + j) c).act (a + j + 1) ((chunks n s.data.toList).drop (j + 1)) = R := by have := HWS.out; rw [if_neg h1] at this; exact this.symm
        simp only [h1, decide_false] at hdi
        have HW2 := hide hw2
        clear h1 hw2
        go_wp2_with fail
        go_region_held3 (fun w' => w'.cell? ⟨d, 1, none⟩ = some (.map (some m)) ∧ w'.rangeAt wr.heap.size 0 (cells c)) (first | exact ⟨c1, hrd⟩ | exact ⟨c12, hr2⟩ | go_keep_ranges) (fail)
        go_wp2_with (first | (go_at_call 39; refine hdi.mono ?_; rintro e w3 ⟨rfl, hE4, hO4⟩))
        go_roundw
        case rel => exact ⟨j + 1, (E.put (a + j) c).act, by omega, by go_num, hl, hide hE4, HW2, hide (HO3.out.trans hO4 (fun _ _ h => h))⟩
        case measure => simp [intOf]; omega
    · have ej : j = n := by omega
      subst ej
      have e : R = (E, 0) := by
        rw [← HW.out, List.drop_of_length_le (by rw [chunks_len]; omega)]
        rfl
      subst e
      go_wp2
      go_ret
      exact ⟨rfl, HE.out, HO.out⟩
theorem write_any (w : World) (d g m : Nat) (D : Dk) (h : Dsk w d g m D) (a : Int) (s : ByteArray) (ha : -9223372036854775808 ≤ a ∧ a < 9223372036854775808) (hs : s.size < 9223372036854775808) :
    Calls Tryz.prog 22 #[.pointer (some ⟨d, 0, none⟩), .int .i64 a, .string s] w fun e w' =>
      e = .returned (.int .i64 (D.write a s.data.toList).2) ∧ Dsk w' d g m (D.write a s.data.toList).1 ∧ Only (own d g m) w w' := by
  have hl : s.data.toList.length = s.size := by simp
  cases hd : D.dead
  · by_cases hb : s.size % 64 = 0 ∧ hasB D.old.length a ((s.size / 64 : Nat) : Int) = true
    · have e : D.write a s.data.toList = D.writes a.toNat (chunks (s.size / 64) s.data.toList) := by unfold Dk.write; simp only [hl, hd, if_pos hb]; rfl
      rw [e]
      obtain ⟨h1, h2⟩ := hb
      unfold hasB at h2
      simp at h2
      obtain ⟨a', rfl⟩ := Int.eq_ofNat_of_zero_le h2.1
      exact write_ok w d g m D h hd a' (s.size / 64) s (by omega) (by omega)
    · have e : D.write a s.data.toList = (D, 20) := by unfold Dk.write; simp only [hl, hd, if_neg hb]; rfl
      rw [e]
      refine (write_bad w d g m D h hd a s ha hs ?_).mono ?_
      · by_cases h1 : s.size % 64 = 0
        · right; simpa using fun e => hb ⟨h1, e⟩
        · exact .inl h1
      · rintro e w' ⟨rfl, rfl⟩
        exact ⟨rfl, h, Only.refl _ _⟩
  · have e : D.write a s.data.toList = (D, 5) := by unfold Dk.write; simp [hd]
    rw [e]
    refine (write_dead w d g m D h hd _ _).mono ?_
    rintro e w' ⟨rfl, rfl⟩
    exact ⟨rfl, h, Only.refl _ _⟩
end Go.Proofs.YtfkcbdiffmacgaaGreatDoor
