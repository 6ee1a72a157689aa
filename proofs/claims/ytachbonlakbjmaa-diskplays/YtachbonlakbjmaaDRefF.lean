/- The document's disk: Crash. -/
import Derived.Test.YtachbonlakbjmaaDRefE
namespace Go.Proofs.Ytachbonlakbjmaa
open Go.RowKit

theorem falls_snoc (f : Nat → Option (List UInt8)) (how : List Int) (p : List Nat) (k i : Nat) (o : List (List UInt8)) :
    falls f how (p ++ [k]) i o = (falls f how p i o).set k (fell ((falls f how p i o).getD k []) ((f k).getD []) (how.getD (i + p.length) 0)) := by
  induction p generalizing i o with
  | nil => rfl
  | cons a r ih =>
    show falls f how (r ++ [k]) (i + 1) _ = _
    rw [ih]
    simp only [falls, List.length_cons]
    rw [show i + 1 + r.length = i + (r.length + 1) by omega]
theorem falls_other (f : Nat → Option (List UInt8)) (how : List Int) (p : List Nat) (i : Nat) (o : List (List UInt8)) (k : Nat) (hk : ¬ k ∈ p) : (falls f how p i o).getD k [] = o.getD k [] := by
  induction p generalizing i o with
  | nil => rfl
  | cons a r ih =>
    show (falls f how r (i + 1) _).getD k [] = _
    rw [ih _ _ (fun h => hk (by simp [h])), getD_set, if_neg (fun h => hk (by simp [h.1]))]
/-- The pending sectors ahead of a place. -/
def ahead (D : Dk) (i : Nat) : List Nat := (List.range i).filter fun k => (D.fresh k).isSome
theorem ahead_no (D : Dk) (i : Nat) (h : (D.fresh i).isSome = false) : ahead D (i + 1) = ahead D i := by
  unfold ahead
  rw [List.range_succ, List.filter_append]
  simp [h]
theorem ahead_yes (D : Dk) (i : Nat) (h : (D.fresh i).isSome = true) : ahead D (i + 1) = ahead D i ++ [i] := by
  unfold ahead
  rw [List.range_succ, List.filter_append]
  simp [h]
theorem ahead_lt (D : Dk) (i : Nat) : ¬ i ∈ ahead D i := by simp [ahead]
theorem ahead_len (D : Dk) (i : Nat) : (ahead D i).length ≤ i := by
  have := List.length_filter_le (fun k => (D.fresh k).isSome) (List.range i)
  simpa [ahead] using this
/-- The sectors while a crash is under way. -/
def fallen (D : Dk) (how : List Int) (i : Nat) : List (List UInt8) := falls D.fresh how (ahead D i) 0 D.old
theorem fell_cases {o n : List UInt8} (hn : n.length = 64) (f : Int) (q : Int) (hq : q = if f < 0 then -1 - f else f) :
    (q % 3 = 1 → fell o n f = n) ∧ (q % 3 = 2 → ∃ b : Nat, q / 3 % 65 = (b : Int) ∧ b ≤ 64 ∧ fell o n f = n.take b ++ o.drop b) ∧ (q % 3 ≠ 1 → q % 3 ≠ 2 → fell o n f = o) ∨ o.length ≠ 64 := by
  by_cases ho : o.length = 64
  · left
    obtain ⟨h1, h2, h3⟩ := fate_int f q hq
    refine ⟨fun h => ?_, fun h => ⟨keeps f, h2 h, keeps_le f, rfl⟩, fun ha hb => ?_⟩
    · unfold fell
      rw [h1 h, List.take_of_length_le (by omega), List.drop_of_length_le (by omega)]
      simp
    · unfold fell
      rw [h3 ha hb]
      simp
  · exact .inr ho
theorem tear (ch oo : List UInt8) (h : oo.length = 64) (bb : Nat) : (⟨(ch.take bb ++ oo.drop bb).toArray⟩ : ByteArray) = (⟨ch.toArray⟩ : ByteArray).extract 0 bb ++ (⟨oo.toArray⟩ : ByteArray).extract bb 64 := by
  apply ByteArray.ext
  simp only [ByteArray.data_append, ByteArray.data_extract]
  apply Array.ext'
  have : (oo.drop bb).length ≤ 64 - bb := by simp only [List.length_drop]; omega
  simp [List.extract_eq_take_drop, List.take_of_length_le this]
set_option maxRecDepth 100000 in
set_option maxHeartbeats 3200000 in
theorem xcrash_any (w : World) (x a b c ka kb kc : Nat) (D : Dk) (h : Xd w x a b c ka kb kc D) (B : Nat) (ao : Option Addr) (cp : Nat) (how : List Int) (hI : Ints w B ao how) (hB : 0 < how.length → ¬ xown x a b c B) :
    Calls Try.prog 11 #[.pointer (some ⟨x, 0, none⟩), .slice ao how.length cp] w fun e w' => e = .returned (.tuple #[]) ∧ Xd w' x a b c ka kb kc (D.crash how) ∧ Only (xown x a b c) w w' := by
  have HI := hide hI
  have HB := hide hB
  have hhl := hI.len
  have hr := h.raw
  obtain ⟨n, hn⟩ : ∃ n, D.old.length = n := ⟨_, rfl⟩
  have h64 := h.ok.hi
  rw [hn] at hr h64
  have HN := hide hn
  have HOk := hide h.ok
  have HR := hide hr
  clear h hI hB hr hn
  go_enter Try.func11, Try.ntmps11
  go_wp2_with fail
  go_loopw [4, 5] (fun u y wr => ∃ (i kk : Nat) (o : List (List UInt8)), i ≤ n ∧ kk ≤ i ∧ u = .int .i64 (kk : Int) ∧ y = .int .i64 (i : Int) ∧ Hid (kk = (ahead D i).length ∧ o = fallen D how i) ∧ Hid (Xr wr x a b c ka kb kc n D.armed D.acts D.dead (fun k => txt (o.getD k [])) (fun k => if k < i then txt (o.getD k []) else txt (D.cur k)) (fun k => if k < i then .bool false else .bool (D.fresh k).isSome)) ∧ Hid (Only (xown x a b c) w wr)) (fun _ y _ => n - (intOf y).toNat)
  case atStart => exact ⟨0, 0, D.old, by omega, by omega, rfl, rfl, hide ⟨rfl, rfl⟩, by simpa using HR, hide (Only.refl _ _)⟩
  case round =>
    obtain ⟨i, kk, o, hi, hki, rfl, rfl, HK, HX, HO⟩ := hrel
    have hc0 := HX.out.c0
    have hc1 := HX.out.c1
    have hc2 := HX.out.c2
    by_cases hil : i < n
    · have hcc := HX.out.rc.cell hil
      simp only [Nat.lt_irrefl, if_false] at hcc
      have hi0 : (0 : Int) ≤ (i : Int) := by omega
      have hi1 : (i : Int) < (n : Int) := by omega
      have hoi : o.getD i [] = D.old.getD i [] := by rw [HK.out.2]; exact falls_other _ _ _ _ _ _ (ahead_lt D i)
      cases hf : (D.fresh i).isSome
      · rw [hf] at hcc
        have hcu : D.cur i = o.getD i [] := by
          rw [hoi]
          unfold Dk.cur
          cases hfi : D.fresh i with
          | none => rfl
          | some v => rw [hfi] at hf; cases hf
        have HZ : Hid ((kk = (ahead D (i + 1)).length ∧ o = fallen D how (i + 1)) ∧ Xr wr x a b c ka kb kc n D.armed D.acts D.dead (fun k => txt (o.getD k [])) (fun k => if k < i + 1 then txt (o.getD k []) else txt (D.cur k)) (fun k => if k < i + 1 then .bool false else .bool (D.fresh k).isSome)) := by
          refine ⟨by unfold fallen; rw [ahead_no D i hf]; exact HK.out, ?_⟩
          obtain ⟨c0, c1, c2, c3, c4, c5, fz, lt, ra, rb, rc, n1, n2, n3, n4, n5, n6⟩ := HX.out
          refine ⟨c0, c1, c2, c3, c4, c5, fz, lt, ra, rb.congr (fun k hk => ?_), rc.congr (fun k hk => ?_), n1, n2, n3, n4, n5, n6⟩
          · by_cases e : k = i
            · subst e
              simp [hcu]
            · by_cases e2 : k < i
              · simp [e2, show k < i + 1 by omega]
              · simp [e2, show ¬ k < i + 1 by omega]
          · by_cases e : k = i
            · subst e
              simp [hf]
            · by_cases e2 : k < i
              · simp [e2, show k < i + 1 by omega]
              · simp [e2, show ¬ k < i + 1 by omega]
        clear hf hcu hoi
        go_wp2_with fail
        go_roundw
        case rel => exact ⟨i + 1, kk, o, by omega, by omega, rfl, by go_num, hide HZ.out.1, hide HZ.out.2, HO⟩
        case measure => simp [intOf]; omega
      · rw [hf] at hcc
        obtain ⟨ch, hch⟩ := Option.isSome_iff_exists.1 hf
        have hchl := (HOk.out.f64 i ch hch).2
        have hcur : D.cur i = ch := by unfold Dk.cur; rw [hch]; rfl
        have hol : (o.getD i []).length = 64 := by rw [hoi]; exact HOk.out.o64 i (by rw [HN.out]; exact hil)
        obtain ⟨sn, hsn⟩ : ∃ sn : ByteArray, (⟨ch.toArray⟩ : ByteArray) = sn := ⟨_, rfl⟩
        obtain ⟨so, hso⟩ : ∃ so : ByteArray, (⟨(o.getD i []).toArray⟩ : ByteArray) = so := ⟨_, rfl⟩
        have hsnz : sn.size = 64 := by rw [← hsn]; simpa [ByteArray.size] using hchl
        have hsoz : so.size = 64 := by rw [← hso]; simpa [ByteArray.size] using hol
        have hca := HX.out.ra.cell hil
        have hcb := HX.out.rb.cell hil
        have hfa := HX.out.ra.frozen i
        simp only [Nat.lt_irrefl, if_false, hcur] at hcb
        have htn : txt ch = .string sn := by unfold txt; rw [hsn]
        have hto : txt (o.getD i []) = .string so := by unfold txt; rw [hso]
        rw [htn] at hcb
        simp only [hto] at hca
        obtain ⟨fo, hfo⟩ : ∃ fo, fell (o.getD i []) ch (how.getD kk 0) = fo := ⟨_, rfl⟩
        obtain ⟨o', ho'⟩ : ∃ o', o.set i fo = o' := ⟨_, rfl⟩
        have hin : i < o.length := by rw [HK.out.2]; unfold fallen; rw [falls_len, HN.out]; exact hil
        have HOi : Hid (o'.getD i [] = fo) := by unfold Hid; rw [← ho', getD_set, if_pos ⟨rfl, hin⟩]
        have HOo : Hid (∀ k, k ≠ i → o'.getD k [] = o.getD k []) := fun k hk => by rw [← ho', getD_set, if_neg (fun h => hk h.1)]
        have HKK : Hid (kk + 1 = (ahead D (i + 1)).length ∧ o' = fallen D how (i + 1)) := by
          unfold Hid fallen
          rw [ahead_yes D i hf, falls_snoc]
          refine ⟨by rw [HK.out.1]; simp, ?_⟩
          have e1 : falls D.fresh how (ahead D i) 0 D.old = o := HK.out.2.symm
          rw [e1, hch, Nat.zero_add, ← HK.out.1, ← ho', ← hfo]
          rfl
        obtain ⟨so1, hso1⟩ : ∃ so1 : ByteArray, (⟨fo.toArray⟩ : ByteArray) = so1 := ⟨_, rfl⟩
        have HS1 : Hid (txt (o'.getD i []) = .string so1) := by unfold Hid txt; rw [HOi.out, hso1]
        have HTO := hide hto
        have HSN := hide hsn
        have HSO := hide hso
        have HS1e := hide hso1
        have HFO := hide hfo
        clear hf hoi hch hcur htn hto hsn hso hso1 hfo ho' hin
        by_cases hkh : kk < how.length
        · have hJ := HI.out.kept HO.out HB.out
          obtain ⟨of, hao, hcsI⟩ := hJ.at_ (by omega)
          have hfc := hcsI kk hkh
          have hfw := hJ.wf kk hkh
          obtain ⟨f, hfe⟩ : ∃ f, how.getD kk 0 = f := ⟨_, rfl⟩
          rw [hfe] at hfc hfw HFO
          subst hao
          have hkk0 : (0 : Int) ≤ (kk : Int) := by omega
          have hkk1 : (kk : Int) < (how.length : Int) := by omega
          clear hJ hcsI hfe
          by_cases hneg : f < 0
          · obtain ⟨q, hq⟩ : ∃ q, -(f + 1) = q := ⟨_, rfl⟩
            have hq0 : 0 ≤ q := by omega
            have hq9 : q < 9223372036854775808 := by omega
            have hcs := (fell_cases (o := o.getD i []) hchl f q (by rw [if_pos hneg]; omega)).resolve_right (fun h => h hol)
            obtain ⟨g1, g2, g3⟩ := hcs
            rw [HFO.out] at g1 g2 g3
            by_cases t1 : q % 3 = 1
            · have e1 := hide (g1 t1)
              have tb1 : (q % 3 == 1) = true := by simpa using t1
              have hss : so1 = sn := by rw [← HS1e.out, ← HSN.out, e1.out]
              have HSS := hide hss
              clear g1 g2 g3 t1 hss hol hchl
              obtain ⟨hA1, hOA⟩ := HX.out.setA hil (.string sn) (fa' := fun k => txt (o'.getD k [])) (by rw [HS1.out, HSS.out]) (fun j hj => by rw [HOo.out j hj])
              have HA' := hide (And.intro (hA1.kept (Only.drew (fun _ => False) _) id id id id) (hOA.trans (Only.drew (fun _ => False) _) (fun _ _ h => h.elim)))
              clear hA1 hOA
              go_wp2_with fail
              go_region
              obtain ⟨X, hXe⟩ : ∃ X, X = (wr.setCell ⟨a, i, none⟩ (.string sn)).drew := ⟨_, rfl⟩
              have HA := HA'
              rw [← hXe] at HA
              go_wp2_with fail
              rw [← hXe]
              clear hXe HA' hc0 hc1 hc2 hcc hca hcb hfa
              have hA0 := HA.out.1
              have hc0x := hA0.c0
              have hc1x := hA0.c1
              have hcax := hA0.ra.cell hil
              have hcbx := hA0.rb.cell hil
              have hfbx := hA0.rb.frozen i
              simp only [HS1.out] at hcax
              obtain ⟨hB1, hOB⟩ := hA0.setB hil (.string so1) (fb' := fun k => if k < i + 1 then txt (o'.getD k []) else txt (D.cur k)) (by show (if i < i + 1 then txt (o'.getD i []) else txt (D.cur i)) = _; rw [if_pos (by omega)]; exact HS1.out) (fun j hj => by
                show (if j < i + 1 then txt (o'.getD j []) else txt (D.cur j)) = (if j < i then txt (o.getD j []) else txt (D.cur j))
                by_cases e2 : j < i
                · rw [if_pos (by omega), if_pos e2, HOo.out j hj]
                · rw [if_neg (by omega), if_neg e2])
              obtain ⟨hC1, hOC⟩ := hB1.setC hil (.bool false) (fc' := fun k => if k < i + 1 then .bool false else .bool (D.fresh k).isSome) (by simp) (fun j hj => by
                by_cases e2 : j < i
                · simp [e2, show j < i + 1 by omega]
                · simp [e2, show ¬ j < i + 1 by omega])
              have hc2y := hB1.c2
              have hccy := hB1.rc.cell hil
              have hfcy := hB1.rc.frozen i
              have HZ := hide (And.intro (hC1.kept (Only.drew (fun _ => False) _) id id id id) ((((HO.out.trans HA.out.2 (fun _ _ h => h)).trans hOB (fun _ _ h => h)).trans hOC (fun _ _ h => h)).trans (Only.drew (fun _ => False) _) (fun _ _ h => h.elim)))
              clear hA0 hB1 hOB hC1 hOC
              go_wp2_with fail
              go_region
              go_wp2_with fail
              go_roundw
              case rel => exact ⟨i + 1, kk + 1, o', by omega, by omega, by go_num, by go_num, HKK, hide HZ.out.1, hide HZ.out.2⟩
              case measure => simp [intOf]; omega
            · by_cases t2 : q % 3 = 2
              · obtain ⟨bb, hbq, hb64, hfo2⟩ := g2 t2
                have tb1 : (q % 3 == 1) = false := by simpa using t1
                have tb2 : (q % 3 == 2) = true := by simpa using t2
                have hss : so1 = sn.extract 0 bb ++ so.extract bb 64 := by
                  rw [← HS1e.out, ← HSN.out, ← HSO.out, hfo2]
                  exact tear ch _ hol bb
                have HSS := hide hss
                have hbb0 : (0 : Int) ≤ (bb : Int) := by omega
                have hbb1 : (bb : Int) ≤ 64 := by omega
                clear g1 g2 g3 t1 t2 hss hol hchl hfo2
                obtain ⟨hA1, hOA⟩ := HX.out.setA hil (.string (sn.extract 0 bb ++ so.extract bb 64)) (fa' := fun k => txt (o'.getD k [])) (by rw [HS1.out, HSS.out]) (fun j hj => by rw [HOo.out j hj])
                have HA' := hide (And.intro (hA1.kept (Only.drew (fun _ => False) _) id id id id) (hOA.trans (Only.drew (fun _ => False) _) (fun _ _ h => h.elim)))
                clear hA1 hOA
                go_wp2_with fail
                go_region
                obtain ⟨X, hXe⟩ : ∃ X, X = (wr.setCell ⟨a, i, none⟩ (.string (sn.extract 0 bb ++ so.extract bb 64))).drew := ⟨_, rfl⟩
                have HA := HA'
                rw [← hXe] at HA
                go_wp2_with fail
                rw [← hXe]
                clear hXe HA' hc0 hc1 hc2 hcc hca hcb hfa
                have hA0 := HA.out.1
                have hc0x := hA0.c0
                have hc1x := hA0.c1
                have hcax := hA0.ra.cell hil
                have hcbx := hA0.rb.cell hil
                have hfbx := hA0.rb.frozen i
                simp only [HS1.out] at hcax
                obtain ⟨hB1, hOB⟩ := hA0.setB hil (.string so1) (fb' := fun k => if k < i + 1 then txt (o'.getD k []) else txt (D.cur k)) (by show (if i < i + 1 then txt (o'.getD i []) else txt (D.cur i)) = _; rw [if_pos (by omega)]; exact HS1.out) (fun j hj => by
                  show (if j < i + 1 then txt (o'.getD j []) else txt (D.cur j)) = (if j < i then txt (o.getD j []) else txt (D.cur j))
                  by_cases e2 : j < i
                  · rw [if_pos (by omega), if_pos e2, HOo.out j hj]
                  · rw [if_neg (by omega), if_neg e2])
                obtain ⟨hC1, hOC⟩ := hB1.setC hil (.bool false) (fc' := fun k => if k < i + 1 then .bool false else .bool (D.fresh k).isSome) (by simp) (fun j hj => by
                  by_cases e2 : j < i
                  · simp [e2, show j < i + 1 by omega]
                  · simp [e2, show ¬ j < i + 1 by omega])
                have hc2y := hB1.c2
                have hccy := hB1.rc.cell hil
                have hfcy := hB1.rc.frozen i
                have HZ := hide (And.intro (hC1.kept (Only.drew (fun _ => False) _) id id id id) ((((HO.out.trans HA.out.2 (fun _ _ h => h)).trans hOB (fun _ _ h => h)).trans hOC (fun _ _ h => h)).trans (Only.drew (fun _ => False) _) (fun _ _ h => h.elim)))
                clear hA0 hB1 hOB hC1 hOC
                go_wp2_with fail
                go_region
                go_wp2_with fail
                go_roundw
                case rel => exact ⟨i + 1, kk + 1, o', by omega, by omega, by go_num, by go_num, HKK, hide HZ.out.1, hide HZ.out.2⟩
                case measure => simp [intOf]; omega
              · have h3e := g3 t1 t2
                have tb1 : (q % 3 == 1) = false := by simpa using t1
                have tb2 : (q % 3 == 2) = false := by simpa using t2
                clear g1 g2 g3 t1 t2 hol hchl hca hcb hfa
                have HA : Hid (Xr wr x a b c ka kb kc n D.armed D.acts D.dead (fun k => txt (o'.getD k [])) (fun k => if k < i then txt (o.getD k []) else txt (D.cur k)) (fun k => if k < i then .bool false else .bool (D.fresh k).isSome) ∧ Only (xown x a b c) wr wr) := by
                  refine ⟨?_, Only.refl _ _⟩
                  obtain ⟨c0, c1, c2, c3, c4, c5, fz, lt, ra, rb, rc, n1, n2, n3, n4, n5, n6⟩ := HX.out
                  refine ⟨c0, c1, c2, c3, c4, c5, fz, lt, ra.congr (fun k hk => ?_), rb, rc, n1, n2, n3, n4, n5, n6⟩
                  by_cases e : k = i
                  · subst e
                    rw [HOi.out, h3e]
                  · rw [HOo.out k e]
                clear h3e
                have hA0 := HA.out.1
                have hc0x := hA0.c0
                have hc1x := hA0.c1
                have hcax := hA0.ra.cell hil
                have hcbx := hA0.rb.cell hil
                have hfbx := hA0.rb.frozen i
                simp only [HS1.out] at hcax
                obtain ⟨hB1, hOB⟩ := hA0.setB hil (.string so1) (fb' := fun k => if k < i + 1 then txt (o'.getD k []) else txt (D.cur k)) (by show (if i < i + 1 then txt (o'.getD i []) else txt (D.cur i)) = _; rw [if_pos (by omega)]; exact HS1.out) (fun j hj => by
                  show (if j < i + 1 then txt (o'.getD j []) else txt (D.cur j)) = (if j < i then txt (o.getD j []) else txt (D.cur j))
                  by_cases e2 : j < i
                  · rw [if_pos (by omega), if_pos e2, HOo.out j hj]
                  · rw [if_neg (by omega), if_neg e2])
                obtain ⟨hC1, hOC⟩ := hB1.setC hil (.bool false) (fc' := fun k => if k < i + 1 then .bool false else .bool (D.fresh k).isSome) (by simp) (fun j hj => by
                  by_cases e2 : j < i
                  · simp [e2, show j < i + 1 by omega]
                  · simp [e2, show ¬ j < i + 1 by omega])
                have hc2y := hB1.c2
                have hccy := hB1.rc.cell hil
                have hfcy := hB1.rc.frozen i
                have HZ := hide (And.intro (hC1.kept (Only.drew (fun _ => False) _) id id id id) ((((HO.out.trans HA.out.2 (fun _ _ h => h)).trans hOB (fun _ _ h => h)).trans hOC (fun _ _ h => h)).trans (Only.drew (fun _ => False) _) (fun _ _ h => h.elim)))
                clear hA0 hB1 hOB hC1 hOC
                go_wp2_with fail
                go_region
                go_wp2_with fail
                go_roundw
                case rel => exact ⟨i + 1, kk + 1, o', by omega, by omega, by go_num, by go_num, HKK, hide HZ.out.1, hide HZ.out.2⟩
                case measure => simp [intOf]; omega
          · have hq0 : 0 ≤ f := by omega
            have hcs := (fell_cases (o := o.getD i []) hchl f f (by rw [if_neg hneg])).resolve_right (fun h => h hol)
            obtain ⟨g1, g2, g3⟩ := hcs
            rw [HFO.out] at g1 g2 g3
            by_cases t1 : f % 3 = 1
            · have e1 := hide (g1 t1)
              have tb1 : (f % 3 == 1) = true := by simpa using t1
              have hss : so1 = sn := by rw [← HS1e.out, ← HSN.out, e1.out]
              have HSS := hide hss
              clear g1 g2 g3 t1 hss hol hchl
              obtain ⟨hA1, hOA⟩ := HX.out.setA hil (.string sn) (fa' := fun k => txt (o'.getD k [])) (by rw [HS1.out, HSS.out]) (fun j hj => by rw [HOo.out j hj])
              have HA' := hide (And.intro (hA1.kept (Only.drew (fun _ => False) _) id id id id) (hOA.trans (Only.drew (fun _ => False) _) (fun _ _ h => h.elim)))
              clear hA1 hOA
              go_wp2_with fail
              go_region
              obtain ⟨X, hXe⟩ : ∃ X, X = (wr.setCell ⟨a, i, none⟩ (.string sn)).drew := ⟨_, rfl⟩
              have HA := HA'
              rw [← hXe] at HA
              go_wp2_with fail
              rw [← hXe]
              clear hXe HA' hc0 hc1 hc2 hcc hca hcb hfa
              have hA0 := HA.out.1
              have hc0x := hA0.c0
              have hc1x := hA0.c1
              have hcax := hA0.ra.cell hil
              have hcbx := hA0.rb.cell hil
              have hfbx := hA0.rb.frozen i
              simp only [HS1.out] at hcax
              obtain ⟨hB1, hOB⟩ := hA0.setB hil (.string so1) (fb' := fun k => if k < i + 1 then txt (o'.getD k []) else txt (D.cur k)) (by show (if i < i + 1 then txt (o'.getD i []) else txt (D.cur i)) = _; rw [if_pos (by omega)]; exact HS1.out) (fun j hj => by
                show (if j < i + 1 then txt (o'.getD j []) else txt (D.cur j)) = (if j < i then txt (o.getD j []) else txt (D.cur j))
                by_cases e2 : j < i
                · rw [if_pos (by omega), if_pos e2, HOo.out j hj]
                · rw [if_neg (by omega), if_neg e2])
              obtain ⟨hC1, hOC⟩ := hB1.setC hil (.bool false) (fc' := fun k => if k < i + 1 then .bool false else .bool (D.fresh k).isSome) (by simp) (fun j hj => by
                by_cases e2 : j < i
                · simp [e2, show j < i + 1 by omega]
                · simp [e2, show ¬ j < i + 1 by omega])
              have hc2y := hB1.c2
              have hccy := hB1.rc.cell hil
              have hfcy := hB1.rc.frozen i
              have HZ := hide (And.intro (hC1.kept (Only.drew (fun _ => False) _) id id id id) ((((HO.out.trans HA.out.2 (fun _ _ h => h)).trans hOB (fun _ _ h => h)).trans hOC (fun _ _ h => h)).trans (Only.drew (fun _ => False) _) (fun _ _ h => h.elim)))
              clear hA0 hB1 hOB hC1 hOC
              go_wp2_with fail
              go_region
              go_wp2_with fail
              go_roundw
              case rel => exact ⟨i + 1, kk + 1, o', by omega, by omega, by go_num, by go_num, HKK, hide HZ.out.1, hide HZ.out.2⟩
              case measure => simp [intOf]; omega
            · by_cases t2 : f % 3 = 2
              · obtain ⟨bb, hbq, hb64, hfo2⟩ := g2 t2
                have tb1 : (f % 3 == 1) = false := by simpa using t1
                have tb2 : (f % 3 == 2) = true := by simpa using t2
                have hss : so1 = sn.extract 0 bb ++ so.extract bb 64 := by
                  rw [← HS1e.out, ← HSN.out, ← HSO.out, hfo2]
                  exact tear ch _ hol bb
                have HSS := hide hss
                have hbb0 : (0 : Int) ≤ (bb : Int) := by omega
                have hbb1 : (bb : Int) ≤ 64 := by omega
                clear g1 g2 g3 t1 t2 hss hol hchl hfo2
                obtain ⟨hA1, hOA⟩ := HX.out.setA hil (.string (sn.extract 0 bb ++ so.extract bb 64)) (fa' := fun k => txt (o'.getD k [])) (by rw [HS1.out, HSS.out]) (fun j hj => by rw [HOo.out j hj])
                have HA' := hide (And.intro (hA1.kept (Only.drew (fun _ => False) _) id id id id) (hOA.trans (Only.drew (fun _ => False) _) (fun _ _ h => h.elim)))
                clear hA1 hOA
                go_wp2_with fail
                go_region
                obtain ⟨X, hXe⟩ : ∃ X, X = (wr.setCell ⟨a, i, none⟩ (.string (sn.extract 0 bb ++ so.extract bb 64))).drew := ⟨_, rfl⟩
                have HA := HA'
                rw [← hXe] at HA
                go_wp2_with fail
                rw [← hXe]
                clear hXe HA' hc0 hc1 hc2 hcc hca hcb hfa
                have hA0 := HA.out.1
                have hc0x := hA0.c0
                have hc1x := hA0.c1
                have hcax := hA0.ra.cell hil
                have hcbx := hA0.rb.cell hil
                have hfbx := hA0.rb.frozen i
                simp only [HS1.out] at hcax
                obtain ⟨hB1, hOB⟩ := hA0.setB hil (.string so1) (fb' := fun k => if k < i + 1 then txt (o'.getD k []) else txt (D.cur k)) (by show (if i < i + 1 then txt (o'.getD i []) else txt (D.cur i)) = _; rw [if_pos (by omega)]; exact HS1.out) (fun j hj => by
                  show (if j < i + 1 then txt (o'.getD j []) else txt (D.cur j)) = (if j < i then txt (o.getD j []) else txt (D.cur j))
                  by_cases e2 : j < i
                  · rw [if_pos (by omega), if_pos e2, HOo.out j hj]
                  · rw [if_neg (by omega), if_neg e2])
                obtain ⟨hC1, hOC⟩ := hB1.setC hil (.bool false) (fc' := fun k => if k < i + 1 then .bool false else .bool (D.fresh k).isSome) (by simp) (fun j hj => by
                  by_cases e2 : j < i
                  · simp [e2, show j < i + 1 by omega]
                  · simp [e2, show ¬ j < i + 1 by omega])
                have hc2y := hB1.c2
                have hccy := hB1.rc.cell hil
                have hfcy := hB1.rc.frozen i
                have HZ := hide (And.intro (hC1.kept (Only.drew (fun _ => False) _) id id id id) ((((HO.out.trans HA.out.2 (fun _ _ h => h)).trans hOB (fun _ _ h => h)).trans hOC (fun _ _ h => h)).trans (Only.drew (fun _ => False) _) (fun _ _ h => h.elim)))
                clear hA0 hB1 hOB hC1 hOC
                go_wp2_with fail
                go_region
                go_wp2_with fail
                go_roundw
                case rel => exact ⟨i + 1, kk + 1, o', by omega, by omega, by go_num, by go_num, HKK, hide HZ.out.1, hide HZ.out.2⟩
                case measure => simp [intOf]; omega
              · have h3e := g3 t1 t2
                have tb1 : (f % 3 == 1) = false := by simpa using t1
                have tb2 : (f % 3 == 2) = false := by simpa using t2
                clear g1 g2 g3 t1 t2 hol hchl hca hcb hfa
                have HA : Hid (Xr wr x a b c ka kb kc n D.armed D.acts D.dead (fun k => txt (o'.getD k [])) (fun k => if k < i then txt (o.getD k []) else txt (D.cur k)) (fun k => if k < i then .bool false else .bool (D.fresh k).isSome) ∧ Only (xown x a b c) wr wr) := by
                  refine ⟨?_, Only.refl _ _⟩
                  obtain ⟨c0, c1, c2, c3, c4, c5, fz, lt, ra, rb, rc, n1, n2, n3, n4, n5, n6⟩ := HX.out
                  refine ⟨c0, c1, c2, c3, c4, c5, fz, lt, ra.congr (fun k hk => ?_), rb, rc, n1, n2, n3, n4, n5, n6⟩
                  by_cases e : k = i
                  · subst e
                    rw [HOi.out, h3e]
                  · rw [HOo.out k e]
                clear h3e
                have hA0 := HA.out.1
                have hc0x := hA0.c0
                have hc1x := hA0.c1
                have hcax := hA0.ra.cell hil
                have hcbx := hA0.rb.cell hil
                have hfbx := hA0.rb.frozen i
                simp only [HS1.out] at hcax
                obtain ⟨hB1, hOB⟩ := hA0.setB hil (.string so1) (fb' := fun k => if k < i + 1 then txt (o'.getD k []) else txt (D.cur k)) (by show (if i < i + 1 then txt (o'.getD i []) else txt (D.cur i)) = _; rw [if_pos (by omega)]; exact HS1.out) (fun j hj => by
                  show (if j < i + 1 then txt (o'.getD j []) else txt (D.cur j)) = (if j < i then txt (o.getD j []) else txt (D.cur j))
                  by_cases e2 : j < i
                  · rw [if_pos (by omega), if_pos e2, HOo.out j hj]
                  · rw [if_neg (by omega), if_neg e2])
                obtain ⟨hC1, hOC⟩ := hB1.setC hil (.bool false) (fc' := fun k => if k < i + 1 then .bool false else .bool (D.fresh k).isSome) (by simp) (fun j hj => by
                  by_cases e2 : j < i
                  · simp [e2, show j < i + 1 by omega]
                  · simp [e2, show ¬ j < i + 1 by omega])
                have hc2y := hB1.c2
                have hccy := hB1.rc.cell hil
                have hfcy := hB1.rc.frozen i
                have HZ := hide (And.intro (hC1.kept (Only.drew (fun _ => False) _) id id id id) ((((HO.out.trans HA.out.2 (fun _ _ h => h)).trans hOB (fun _ _ h => h)).trans hOC (fun _ _ h => h)).trans (Only.drew (fun _ => False) _) (fun _ _ h => h.elim)))
                clear hA0 hB1 hOB hC1 hOC
                go_wp2_with fail
                go_region
                go_wp2_with fail
                go_roundw
                case rel => exact ⟨i + 1, kk + 1, o', by omega, by omega, by go_num, by go_num, HKK, hide HZ.out.1, hide HZ.out.2⟩
                case measure => simp [intOf]; omega
        · have h0 : how.getD kk 0 = 0 := by simp [List.getD_eq_getElem?_getD, hkh]
          rw [h0] at HFO
          have h3e : fo = o.getD i [] := by
            rw [← HFO.out]
            have := (fell_cases (o := o.getD i []) hchl 0 0 (by simp)).resolve_right (fun h => h hol)
            exact this.2.2 (by omega) (by omega)
          clear h0 hol hchl hca hcb hfa
          have HA : Hid (Xr wr x a b c ka kb kc n D.armed D.acts D.dead (fun k => txt (o'.getD k [])) (fun k => if k < i then txt (o.getD k []) else txt (D.cur k)) (fun k => if k < i then .bool false else .bool (D.fresh k).isSome) ∧ Only (xown x a b c) wr wr) := by
            refine ⟨?_, Only.refl _ _⟩
            obtain ⟨c0, c1, c2, c3, c4, c5, fz, lt, ra, rb, rc, n1, n2, n3, n4, n5, n6⟩ := HX.out
            refine ⟨c0, c1, c2, c3, c4, c5, fz, lt, ra.congr (fun k hk => ?_), rb, rc, n1, n2, n3, n4, n5, n6⟩
            by_cases e : k = i
            · subst e
              rw [HOi.out, h3e]
            · rw [HOo.out k e]
          clear h3e
          have hA0 := HA.out.1
          have hc0x := hA0.c0
          have hc1x := hA0.c1
          have hcax := hA0.ra.cell hil
          have hcbx := hA0.rb.cell hil
          have hfbx := hA0.rb.frozen i
          simp only [HS1.out] at hcax
          obtain ⟨hB1, hOB⟩ := hA0.setB hil (.string so1) (fb' := fun k => if k < i + 1 then txt (o'.getD k []) else txt (D.cur k)) (by show (if i < i + 1 then txt (o'.getD i []) else txt (D.cur i)) = _; rw [if_pos (by omega)]; exact HS1.out) (fun j hj => by
            show (if j < i + 1 then txt (o'.getD j []) else txt (D.cur j)) = (if j < i then txt (o.getD j []) else txt (D.cur j))
            by_cases e2 : j < i
            · rw [if_pos (by omega), if_pos e2, HOo.out j hj]
            · rw [if_neg (by omega), if_neg e2])
          obtain ⟨hC1, hOC⟩ := hB1.setC hil (.bool false) (fc' := fun k => if k < i + 1 then .bool false else .bool (D.fresh k).isSome) (by simp) (fun j hj => by
            by_cases e2 : j < i
            · simp [e2, show j < i + 1 by omega]
            · simp [e2, show ¬ j < i + 1 by omega])
          have hc2y := hB1.c2
          have hccy := hB1.rc.cell hil
          have hfcy := hB1.rc.frozen i
          have HZ := hide (And.intro (hC1.kept (Only.drew (fun _ => False) _) id id id id) ((((HO.out.trans HA.out.2 (fun _ _ h => h)).trans hOB (fun _ _ h => h)).trans hOC (fun _ _ h => h)).trans (Only.drew (fun _ => False) _) (fun _ _ h => h.elim)))
          clear hA0 hB1 hOB hC1 hOC
          go_wp2_with fail
          go_region
          go_wp2_with fail
          go_roundw
          case rel => exact ⟨i + 1, kk + 1, o', by omega, by omega, by go_num, by go_num, HKK, hide HZ.out.1, hide HZ.out.2⟩
          case measure => simp [intOf]; omega
    · have ei : i = n := by omega
      have hfull : Xd wr x a b c ka kb kc { D with old := o, fresh := fun _ => none } := by
        have ok := HOk.out.crash how
        have eo : o = (D.crash how).old := by rw [HK.out.2, ei, ← HN.out]; rfl
        refine HX.out.full ⟨by simpa [eo] using ok.lo, by simpa [eo] using ok.hi, by simpa [eo] using ok.o64, (fun k v hv => by cases hv), HOk.out.arm0, HOk.out.arm1⟩ (by show o.length = n; rw [eo]; simp [Dk.crash, falls_len, HN.out]) rfl rfl rfl (fun k hk => rfl) (fun k hk => ?_) (fun k hk => ?_)
        · rw [if_pos (by omega)]
          rfl
        · rw [if_pos (by omega)]
          rfl
      obtain ⟨hS3, hO3⟩ := hfull.setDead false
      obtain ⟨hS4, hO4⟩ := hS3.setArmed 0 (by omega) (by omega)
      have HF := hide (And.intro hS4 ((HO.out.trans hO3 (fun _ _ h => h)).trans hO4 (fun _ _ h => h)))
      have HE : Hid (D.crash how = { D with old := o, fresh := fun _ => none, dead := false, armed := 0 }) := by
        have eo : o = (D.crash how).old := by rw [HK.out.2, ei, ← HN.out]; rfl
        unfold Hid
        rw [eo]
        rfl
      have c4 := HX.out.c4
      have c3 := HX.out.c3
      have f3 := HX.out.fz 3
      have f4 := HX.out.fz 4
      clear hfull hS3 hO3 hS4 hO4 ei
      go_wp2_with fail
      go_end0
      refine ⟨rfl, ?_, HF.out.2⟩
      rw [HE.out]
      exact HF.out.1
end Go.Proofs.Ytachbonlakbjmaa
