/- What the document's Room, Find, Pages and Drop do. -/
import Derived.Test.YtahmmhmahglonaaERefA
namespace Go.Proofs.Ytahmmhmahglonaa
open Go.RowKit Go.Maps

/-- What Find answers. -/
structure FdR (e : Ending) (f : Kn) (room : Int) : Prop where
  ex : ∃ p ok, e = .returned (.tuple #[.int .i64 p, .bool ok]) ∧ FdIs f room p ok
set_option maxRecDepth 100000 in
set_option maxHeartbeats 800000 in
theorem iroom_any (w : World) (r base n : Nat) (f : Kn) (ao : Option Addr) (cp : Nat) (L : List (Int × Int)) (H : Rm w r base n f ao cp L) (hn : n ≤ 5864062014700) (k : Int) :
    Calls Try.prog 16 #[.pointer (some ⟨r, 0, none⟩), .int .i64 k] w fun e w' => e = .returned (.tuple #[.int .i64 ((f k).getD 0), .bool (f k).isSome]) ∧ w' = w := by
  have c0 := H.c0
  have hlen := H.hn
  have HH := hide H
  clear H
  go_enter Try.func16, Try.ntmps16
  go_wp2_with fail
  go_loop [6] (fun y => ∃ j : Nat, j ≤ L.length ∧ y = .int .i64 (j : Int) ∧ Hid (∀ q (hq : q < L.length), q < j → L[q].1 ≠ k)) (fun y => L.length - (intOf y).toNat)
  case atStart => exact ⟨0, by omega, rfl, (fun k _ hk => by omega)⟩
  case round =>
    obtain ⟨j, hj, rfl, HQ⟩ := hrel
    by_cases hlt : j < L.length
    · obtain ⟨g, e1, _, _, _, k1, k2⟩ := HH.out.h.at_ hlt
      obtain ⟨x, hx⟩ : ∃ x, L[j].1 = x := ⟨_, rfl⟩
      obtain ⟨b, hb⟩ : ∃ b, L[j].2 = b := ⟨_, rfl⟩
      have HX := hide hx
      rw [hx] at k1
      rw [hb] at k2
      have hm : (x, b) ∈ L := by
        rw [← hx, ← hb]
        exact List.getElem_mem hlt
      have hT := (HH.out.hi.mem x b).1 hm
      have HT := hide hT
      clear hx hb hm hT
      subst e1
      by_cases he : x = k
      · have hbb : (x == k) = true := by simp [he]
        have HE := hide he
        clear he
        go_wp2_with fail
        go_ret2
        refine ⟨?_, rfl⟩
        rw [← HE.out, HT.out]
        rfl
      · have hbb : (x == k) = false := by simp [he]
        have HE := hide he
        clear he
        go_wp2_with fail
        go_round
        case rel =>
          refine ⟨j + 1, by omega, by go_num, ?_⟩
          intro q hq hqj
          by_cases eq : q = j
          · subst eq; rw [HX.out]; exact HE.out
          · exact HQ.out q hq (by omega)
        case measure => simp [intOf]; omega
    · have HN := hide (HH.out.hi.none (k := k) (fun q hq => HQ.out q hq (by omega)))
      go_wp2_with fail
      go_ret2
      rw [HN.out]
      exact ⟨rfl, rfl⟩
set_option maxRecDepth 100000 in
set_option maxHeartbeats 800000 in
theorem ifind_any (w : World) (r base n : Nat) (f : Kn) (ao : Option Addr) (cp : Nat) (L : List (Int × Int)) (H : Rm w r base n f ao cp L) (hn : n ≤ 5864062014700) (room : Int) :
    Calls Try.prog 14 #[.pointer (some ⟨r, 0, none⟩), .int .i64 room] w fun e w' => FdR e f room ∧ w' = w := by
  have c0 := H.c0
  have hlen := H.hn
  have HH := hide H
  clear H
  go_enter Try.func14, Try.ntmps14
  go_wp2_with fail
  go_loop [6] (fun y => ∃ j : Nat, j ≤ L.length ∧ y = .int .i64 (j : Int) ∧ Hid (∀ q (hq : q < L.length), q < j → L[q].2 < room)) (fun y => L.length - (intOf y).toNat)
  case atStart => exact ⟨0, by omega, rfl, (fun k _ hk => by omega)⟩
  case round =>
    obtain ⟨j, hj, rfl, HQ⟩ := hrel
    by_cases hlt : j < L.length
    · obtain ⟨g, e1, _, _, _, k1, k2⟩ := HH.out.h.at_ hlt
      obtain ⟨x, hx⟩ : ∃ x, L[j].1 = x := ⟨_, rfl⟩
      obtain ⟨b, hb⟩ : ∃ b, L[j].2 = b := ⟨_, rfl⟩
      have HX := hide hx
      have HB := hide hb
      rw [hx] at k1
      rw [hb] at k2
      have HLT := hide hlt
      clear hx hb
      subst e1
      by_cases he : room ≤ b
      · have HF : Hid (FdIs f room x true) := by
          have := HH.out.hi.found hlt HQ.out (by rw [HB.out]; exact he)
          rw [HX.out] at this
          exact this
        go_wp2_with fail
        go_ret2
        exact ⟨⟨_, _, rfl, HF.out⟩, rfl⟩
      · have HE := hide he
        go_wp2_with fail
        go_round
        case rel =>
          refine ⟨j + 1, by omega, by go_num, ?_⟩
          intro q hq hqj
          by_cases eq : q = j
          · subst eq; rw [HB.out]; have := HE.out; omega
          · exact HQ.out q hq (by omega)
        case measure => simp [intOf]; omega
    · have HN := hide (HH.out.hi.not_found (room := room) (fun q hq => HQ.out q hq (by omega)))
      go_wp2_with fail
      go_ret2
      exact ⟨⟨_, _, rfl, HN.out⟩, rfl⟩
set_option maxRecDepth 100000 in
set_option maxHeartbeats 1600000 in
theorem ipages_any (w : World) (r base n : Nat) (f : Kn) (ao : Option Addr) (cp : Nat) (L : List (Int × Int)) (H : Rm w r base n f ao cp L) (hn : n ≤ 5864062014700) :
    Calls Try.prog 19 #[.pointer (some ⟨r, 0, none⟩)] w fun e w' => ∃ a2 c2 M, e = .returned (.slice a2 M.length c2) ∧ PgIs f M ∧ IRow w' w.heap.size (.slice a2 M.length c2) M ∧ M.length ≤ n ∧ Only (fun _ => False) w w' := by
  have c0 := H.c0
  have hlen := H.hn
  have HH := hide H
  clear H
  go_enter Try.func19, Try.ntmps19
  go_wp2_with fail
  go_loopw [3, 4] (fun v y wr => ∃ j : Nat, j ≤ L.length ∧ y = .int .i64 (j : Int) ∧ Hid (IRow wr w.heap.size v ((L.take j).map (·.1))) ∧ Hid (Only (fun _ => False) w wr)) (fun _ y _ => L.length - (intOf y).toNat)
  case atStart => exact ⟨0, by omega, rfl, hide (IRow.nil _ _), hide (Only.refl _ _)⟩
  case round =>
    obtain ⟨j, hj, rfl, HV, HO⟩ := hrel
    have HHr := hide (HH.out.more HO.out)
    have c0r := HHr.out.c0
    by_cases hlt : j < L.length
    · obtain ⟨g, e1, _, _, _, k1, k2⟩ := HHr.out.h.at_ hlt
      obtain ⟨b, hbx⟩ : ∃ b, L[j].1 = b := ⟨_, rfl⟩
      have hft : (L.take (j + 1)).map (·.1) = (L.take j).map (·.1) ++ [b] := by rw [List.take_succ_eq_append_getElem hlt, List.map_append, ← hbx]; rfl
      rw [hbx] at k1
      have hfl : ((L.take j).map (·.1)).length ≤ L.length := by rw [List.length_map, List.length_take]; omega
      have hsz := HO.out.size
      clear hbx
      subst e1
      obtain ⟨v', w', hr1, hr2, hr3, hr4⟩ := irow_one HV.out b (by omega) hsz 1
      have HR1 := hide hr1
      have HV2 : Hid (IRow w' w.heap.size v' ((L.take (j + 1)).map (·.1))) := by
        rw [hft]
        exact hr2
      have HO2 : Hid (Only (fun _ => False) w w') := HO.out.trans (grown_only (base := w.heap.size) hr3 (fun b hb => (HV.out.low b hb).1)) (fun i hi e => by omega)
      clear hft hr1 hr2 hr3 hr4
      go_wp2_with (at_builtin; go_must (refine Lib.wpList_append_run _ rfl _ _ _ _ rfl _ _ rfl rfl _ _ HR1.out ?_); go_frame)
      exact ⟨⟨j + 1, by omega, by go_num, HV2, HO2⟩, by simp [intOf]; omega⟩
    · have ej : L.take j = L := List.take_of_length_le (by omega)
      rw [ej] at HV
      have HHE := hide (HHr.out.hi.pages)
      have hfl : (L.map (·.1)).length ≤ L.length := by rw [List.length_map]; omega
      obtain ⟨L2, hW2⟩ : ∃ l, L.map (·.1) = l := ⟨_, rfl⟩
      rw [hW2] at HV HHE hfl
      obtain ⟨a2, c2, rfl⟩ := HV.out.form
      clear ej hW2
      go_wp2_with fail
      go_ret
      exact ⟨_, _, L2, rfl, HHE.out, HV.out, by omega, HO.out⟩
set_option maxRecDepth 100000 in
set_option maxHeartbeats 1600000 in
theorem idrop_any (w : World) (r base n : Nat) (f : Kn) (ao : Option Addr) (cp : Nat) (L : List (Int × Int)) (H : Rm w r base n f ao cp L) (hn : n ≤ 5864062014700) (hb : base ≤ w.heap.size) (k : Int) :
    Calls Try.prog 10 #[.pointer (some ⟨r, 0, none⟩), .int .i64 k] w fun e w' => e = .returned (.tuple #[]) ∧ (∃ a2 c2 L2, Rm w' r base n (f.drop k) a2 c2 L2) ∧ Only (fun i => i = r) w w' := by
  have c0 := H.c0
  have hlen := H.hn
  have hr := World.block_lt_of_cell? w _ H.c0
  have HH := hide H
  clear H
  go_enter Try.func10, Try.ntmps10
  go_wp2_with fail
  go_loopw [4, 5] (fun v y wr => ∃ j : Nat, j ≤ L.length ∧ y = .int .i64 (j : Int) ∧ Hid (ORow wr w.heap.size v ((L.take j).filter (fun p => p.1 != k))) ∧ Hid (Only (fun _ => False) w wr)) (fun _ y _ => L.length - (intOf y).toNat)
  case atStart => exact ⟨0, by omega, rfl, hide (ORow.nil _ _), hide (Only.refl _ _)⟩
  case round =>
    obtain ⟨j, hj, rfl, HV, HO⟩ := hrel
    have HHr := hide (HH.out.more HO.out)
    have c0r := HHr.out.c0
    by_cases hlt : j < L.length
    · obtain ⟨g, e1, _, _, _, k1, k2⟩ := HHr.out.h.at_ hlt
      have hft := filter_take (fun p : Int × Int => p.1 != k) hlt
      obtain ⟨x, hx⟩ : ∃ x, L[j].1 = x := ⟨_, rfl⟩
      obtain ⟨b, hbx⟩ : ∃ b, L[j].2 = b := ⟨_, rfl⟩
      have hp : L[j] = (x, b) := by rw [← hx, ← hbx]
      rw [hp] at hft
      rw [hx] at k1
      rw [hbx] at k2
      have hfl : ((L.take j).filter (fun p => p.1 != k)).length ≤ L.length := Nat.le_trans (List.length_filter_le _ _) (by rw [List.length_take]; omega)
      have hsz := HO.out.size
      clear hx hbx hp
      subst e1
      by_cases he : x = k
      · have hbb : (x != k) = false := by simp [he]
        have HV2 : Hid (ORow wr w.heap.size u4 ((L.take (j + 1)).filter (fun p => p.1 != k))) := by
          rw [hft]
          simp only [hbb]
          exact HV.out
        clear he hft
        go_wp2_with fail
        exact ⟨⟨j + 1, by omega, by go_num, HV2, HO⟩, by simp [intOf]; omega⟩
      · have hbb : (x != k) = true := by simp [he]
        obtain ⟨v', w', hr1, hr2, hr3⟩ := orow_one HV.out x b (by omega) hsz 1
        have HR1 := hide hr1
        have HV2 : Hid (ORow w' w.heap.size v' ((L.take (j + 1)).filter (fun p => p.1 != k))) := by
          rw [hft]
          simp only [hbb, if_true]
          exact hr2
        have HO2 : Hid (Only (fun _ => False) w w') := HO.out.trans hr3 (fun i hi e => by omega)
        clear he hft hr1 hr2 hr3
        go_wp2_with (at_builtin; go_must (refine Lib.wpList_append_run _ rfl _ _ _ _ rfl _ _ rfl rfl _ _ HR1.out ?_); go_frame)
        exact ⟨⟨j + 1, by omega, by go_num, HV2, HO2⟩, by simp [intOf]; omega⟩
    · have ej : L.take j = L := List.take_of_length_le (by omega)
      rw [ej] at HV
      have HLI := hide (HHr.out.hi.drop k)
      have hfl : (L.filter (fun p => p.1 != k)).length ≤ L.length := List.length_filter_le _ _
      obtain ⟨L2, hL2⟩ : ∃ l, L.filter (fun p => p.1 != k) = l := ⟨_, rfl⟩
      rw [hL2] at HV HLI hfl
      obtain ⟨a2, c2, rfl⟩ := HV.out.form
      have f0 := HHr.out.f0
      clear ej hL2
      go_wp2_with fail
      refine bodyPost_end (results_none rfl _ _ _) rfl ?_
      have HS : Only (fun i => i = r) wr (wr.setCell ⟨r, 0, none⟩ (.slice a2 L2.length c2)) := Only.setCell (S := fun i => i = r) wr ⟨r, 0, none⟩ _ rfl
      exact ⟨rfl, ⟨a2, c2, L2, HHr.out.set (HV.out.base hb) HLI.out (by omega)⟩, (HO.out.mono (fun _ _ e => e.elim) : Only (fun i => i = r) w wr).trans HS (fun _ _ e => e)⟩
end Go.Proofs.Ytahmmhmahglonaa
