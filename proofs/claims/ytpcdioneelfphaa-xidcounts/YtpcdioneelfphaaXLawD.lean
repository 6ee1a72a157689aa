/- The walk of XidCounts. -/
import Derived.Test.YtpcdioneelfphaaXOpen
namespace Go.Proofs.Ytpcdioneelfphaa
open Go.RowKit

/-- Two counters, and the box of what came in. -/
structure Alk2 (w W : World) (c d : Nat) (m : Int) (ao : Option Addr) (len cap : Nat) (n f n' f' : Int) : Prop where
  fc : Cnt W c m n' f'
  fd : Cnt W d m n f
  b1 : W.cell? ⟨w.heap.size, 1, none⟩ = some (.slice ao len cap)
  only : Only (fun _ => False) w W
  lc : w.heap.size < c
  ld : c < d
abbrev Alk (w W : World) (c d : Nat) (m : Int) (ao : Option Addr) (len cap : Nat) (n f : Int) : Prop := Alk2 w W c d m ao len cap n f n f
theorem Alk2.drew {w W : World} {c d : Nat} {m : Int} {ao : Option Addr} {len cap : Nat} {n f n' f' : Int} (h : Alk2 w W c d m ao len cap n f n' f') (k : Nat) : Alk2 w (W.drewN k) c d m ao len cap n f n' f' :=
  ⟨h.fc.drew k, h.fd.drew k, h.b1, h.only.trans (onlyN (fun _ => False) _ _) (fun _ _ h => h), h.lc, h.ld⟩
theorem Alk2.first {w W W' : World} {c d : Nat} {m : Int} {ao : Option Addr} {len cap : Nat} {n f n0 f0 n' f' : Int} (h : Alk2 w W c d m ao len cap n f n0 f0) (hc : Cnt W' c m n' f') (ho : Only (fun k => k = c) W W') : Alk2 w W' c d m ao len cap n f n' f' := by
  have hl := h.fd.lt
  have h1 := h.lc
  have h2 := h.ld
  refine ⟨hc, h.fd.kept ho (by omega), ?_, h.only.trans ho (fun i hi h => by omega), h1, h2⟩
  rw [ho.cell (p := ⟨w.heap.size, 1, none⟩) (by show w.heap.size < _; omega) (by show ¬ w.heap.size = c; omega)]; exact h.b1
theorem Alk2.then {w W W' : World} {c d : Nat} {m : Int} {ao : Option Addr} {len cap : Nat} {n f n' f' : Int} (h : Alk2 w W c d m ao len cap n f n' f') (hc : Cnt W' d m n' f') (ho : Only (fun k => k = d) W W') : Alk w W' c d m ao len cap n' f' := by
  have hl := h.fd.lt
  have h1 := h.lc
  have h2 := h.ld
  refine ⟨h.fc.kept ho (by omega), hc, ?_, h.only.trans ho (fun i hi h => by omega), h1, h2⟩
  rw [ho.cell (p := ⟨w.heap.size, 1, none⟩) (by show w.heap.size < _; omega) (by show ¬ w.heap.size = d; omega)]; exact h.b1
theorem quietN {w W : World} {c d : Nat} {m : Int} {ao : Option Addr} {len cap : Nat} {n f n' f' : Int} (h : Alk2 w W c d m ao len cap n f n' f') {W' : World} (hk : ∃ k, W' = W.drewN k) : Alk2 w W' c d m ao len cap n f n' f' := by
  obtain ⟨k, rfl⟩ := hk
  exact h.drew k
theorem Alk.start {w w1 w2 : World} {t : TypeId} {m z : Int} {ao : Option Addr} {len cap : Nat} {n f : Int} (h1 : Cnt w1 (w.alloc (.cells #[.int .i64 z, .slice ao len cap] t)).heap.size m n f) (o1 : Only (fun _ => False) (w.alloc (.cells #[.int .i64 z, .slice ao len cap] t)) w1) (h2 : Cnt w2 w1.heap.size m n f) (o2 : Only (fun _ => False) w1 w2) :
    Alk w w2 (w.alloc (.cells #[.int .i64 z, .slice ao len cap] t)).heap.size w1.heap.size m ao len cap n f := by
  have o12 := o1.trans o2 (fun _ _ h => h)
  have hs : (w.alloc (.cells #[.int .i64 z, .slice ao len cap] t)).heap.size = w.heap.size + 1 := by simp
  refine ⟨h1.kept o2 (fun h => h), h2, ?_, (Only.alloc _ _ _).trans o12 (fun _ _ h => h), by omega, h1.lt⟩
  rw [o12.cell (p := ⟨w.heap.size, 1, none⟩) (by rw [hs]; exact Nat.lt_succ_self _) (fun h => h)]
  have hh := heap_alloc_new w (.cells #[.int .i64 z, .slice ao len cap] t)
  unfold World.cell?; simp only [hh]; rfl
theorem box0 {w w1 : World} {t : TypeId} {z : Int} {ao : Option Addr} {len cap : Nat} (o1 : Only (fun _ => False) (w.alloc (.cells #[.int .i64 z, .slice ao len cap] t)) w1) : w1.cell? ⟨w.heap.size, 0, none⟩ = some (.int .i64 z) := by
  have hs : (w.alloc (.cells #[.int .i64 z, .slice ao len cap] t)).heap.size = w.heap.size + 1 := by simp
  rw [o1.cell (p := ⟨w.heap.size, 0, none⟩) (by rw [hs]; exact Nat.lt_succ_self _) (fun h => h)]
  have hh := heap_alloc_new w (.cells #[.int .i64 z, .slice ao len cap] t)
  unfold World.cell?; simp only [hh]; rfl
set_option maxRecDepth 100000 in
set_option maxHeartbeats 3200000 in
theorem counts_good (w : World) (m next z : Int) (B : Nat) (ao : Option Addr) (len cap : Nat) (A F : Nat → Int) (hI : Idd m next) (hJ : Idd m z) (hg : xgap m z next ≤ m / 2 - 2) (hops : Cls w B ao len A F) :
    Calls Try.prog 4 #[.int .i64 m, .int .i64 next, .agg #[.int .i64 z, .slice ao len cap]] w fun e w' => e = .returned (.bool true) ∧ Below w.heap.size w w' := by
  have HOP := hide hops
  have hlen := hops.len
  have HI := hide hI
  have HJ := hide hJ
  have HG := hide hg
  clear hops hI hJ hg
  go_enter Try.func4, Try.ntmps4
  go_wp2_with fail
  refine (new_good _ _ _ _ HI.out HJ.out HG.out).mono ?_
  rintro e w1 ⟨rfl, hc1, ho1⟩
  have HC1 := hide hc1
  have HO1 := hide ho1
  have hb0 := box0 ho1
  clear hc1 ho1
  go_wp2_with fail
  refine (xnew_good _ _ _ _ HI.out HJ.out HG.out).mono ?_
  rintro e w2 ⟨rfl, hc2, ho2⟩
  have HS0 := hide (Alk.start HC1.out HO1.out hc2 ho2)
  have hsz : (w.alloc (.cells #[.int .i64 z, .slice ao len cap] 27)).heap.size = w.heap.size + 1 := by simp
  rw [hsz] at HS0
  obtain ⟨d, hd⟩ : ∃ d, w1.heap.size = d := ⟨_, rfl⟩
  rw [hd] at HS0
  simp only [hd]
  obtain ⟨c, hcc⟩ : ∃ c, w.heap.size + 1 = c := ⟨_, rfl⟩
  clear hc2 ho2 HC1 HO1 hb0 hsz hd
  have hb1 := HS0.out.b1
  go_wp2_with fail
  simp only [hcc]
  rw [hcc] at HS0
  clear hb1 hcc
  go_loopw [11] (fun y wr => ∃ (i : Nat) (n f : Int), i ≤ len ∧ y = .int .i64 (i : Int) ∧ Hid (Alk w wr c d m ao len cap n f)) (fun y _ => len - (intOf y).toNat)
  case atStart => exact ⟨0, _, _, by omega, rfl, HS0⟩
  case round =>
    obtain ⟨i, n, f, hi, rfl, HS⟩ := hrel
    have hb1 := HS.out.b1
    by_cases hlt : i < len
    · obtain ⟨o, hao, hcs⟩ := (HOP.out.kept HS.out.only (fun _ h => h)).at_ (by omega)
      have hca := (hcs i hlt).1
      have hcf := (hcs i hlt).2
      clear hcs
      have HA := hide (HOP.out.wf i hlt)
      subst hao
      obtain ⟨ai, hai⟩ : ∃ a, A i = a := ⟨_, rfl⟩
      obtain ⟨fi, hfi⟩ : ∃ a, F i = a := ⟨_, rfl⟩
      rw [hai] at hca HA
      rw [hfi] at hcf HA
      clear hai hfi
      by_cases h0 : ai = 0
      · have h0b : (ai == 0) = true := by simpa using h0
        clear h0
        by_cases hz : xgap m f n = m / 2 - 2
        · have ht1 := take_none _ _ _ _ _ HS.out.fc hz
          have HZ := hide hz
          clear hz
          go_wp2_with fail
          refine ht1.mono ?_
          rintro e w5 ⟨rfl, hk5⟩
          have HS5 := hide (quietN HS.out hk5)
          clear ht1 hk5
          have ht2 := xtake_none _ _ _ _ _ HS5.out.fd HZ.out
          go_wp2_with fail
          refine ht2.mono ?_
          rintro e w6 ⟨rfl, hk6⟩
          have HS9 := hide (quietN HS5.out hk6)
          clear ht2 hk6 HS5 HZ
          have d1 := HS9.out.fd.c1
          have d2 := HS9.out.fd.c2
          go_wp2_with fail
          go_quiet ((first
            | (go_at_call 22; exact Calls.quiet_of_same (next_any _ _ _ _ _ (HS9.out.fc.drew _)))
            | (go_at_call 23; exact Calls.quiet_of_same (frozen_any _ _ _ _ _ (HS9.out.fc.drew _)))
            | (go_at_call 24; exact Calls.quiet_of (left_any _ _ _ _ _ (HS9.out.fc.drew _)))
            | (go_at_call 25; exact Calls.quiet_of (xleft_any _ _ _ _ _ (HS9.out.fd.drew _)))))
          clear hca hcf hb1 d1 d2

          go_wp2_with fail
          go_roundw
          case rel => exact ⟨i + 1, _, _, by omega, by go_num, hide (HS9.out.drew _)⟩
          case measure => simp [intOf]; omega
        · have ht1 := take_good _ _ _ _ _ HS.out.fc hz
          have HZ := hide hz
          clear hz
          go_wp2_with fail
          refine ht1.mono ?_
          rintro e w5 ⟨rfl, hc5, ho5⟩
          have HS5 := hide (HS.out.first hc5 ho5)
          clear ht1 hc5 ho5
          have ht2 := xtake_good _ _ _ _ _ HS5.out.fd HZ.out
          go_wp2_with fail
          refine ht2.mono ?_
          rintro e w6 ⟨rfl, hc6, ho6⟩
          have HS9 := hide (HS5.out.then hc6 ho6)
          clear ht2 hc6 ho6 HS5 HZ
          have d1 := HS9.out.fd.c1
          have d2 := HS9.out.fd.c2
          go_wp2_with fail
          go_quiet ((first
            | (go_at_call 22; exact Calls.quiet_of_same (next_any _ _ _ _ _ (HS9.out.fc.drew _)))
            | (go_at_call 23; exact Calls.quiet_of_same (frozen_any _ _ _ _ _ (HS9.out.fc.drew _)))
            | (go_at_call 24; exact Calls.quiet_of (left_any _ _ _ _ _ (HS9.out.fc.drew _)))
            | (go_at_call 25; exact Calls.quiet_of (xleft_any _ _ _ _ _ (HS9.out.fd.drew _)))))
          clear hca hcf hb1 d1 d2

          go_wp2_with fail
          go_roundw
          case rel => exact ⟨i + 1, _, _, by omega, by go_num, hide (HS9.out.drew _)⟩
          case measure => simp [intOf]; omega
      · have h0b : (ai == 0) = false := by simpa using h0
        clear h0
        by_cases h1 : ai = 1
        · have h1b : (ai == 1) = true := by simpa using h1
          clear h1
          by_cases hfz : Idd m fi ∧ xgap m f fi ≤ xgap m f n
          · have hf1 := freeze_good _ _ _ _ _ _ HS.out.fc hfz.1 hfz.2
            have HFZ := hide hfz
            clear hfz
            go_wp2_with fail
            refine hf1.mono ?_
            rintro e w5 ⟨rfl, hc5, ho5⟩
            have HS5 := hide (HS.out.first hc5 ho5)
            clear hf1 hc5 ho5
            have hf2 := xfreeze_good _ _ _ _ _ _ HS5.out.fd HFZ.out.1 HFZ.out.2
            go_wp2_with fail
            refine hf2.mono ?_
            rintro e w6 ⟨rfl, hc6, ho6⟩
            have HS9 := hide (HS5.out.then hc6 ho6)
            clear hf2 hc6 ho6 HS5 HFZ
            have d1 := HS9.out.fd.c1
            have d2 := HS9.out.fd.c2
            go_wp2_with fail
            go_quiet ((first
              | (go_at_call 22; exact Calls.quiet_of_same (next_any _ _ _ _ _ (HS9.out.fc.drew _)))
              | (go_at_call 23; exact Calls.quiet_of_same (frozen_any _ _ _ _ _ (HS9.out.fc.drew _)))
              | (go_at_call 24; exact Calls.quiet_of (left_any _ _ _ _ _ (HS9.out.fc.drew _)))
              | (go_at_call 25; exact Calls.quiet_of (xleft_any _ _ _ _ _ (HS9.out.fd.drew _)))))
            clear hca hcf hb1 d1 d2

            go_wp2_with fail
            go_roundw
            case rel => exact ⟨i + 1, _, _, by omega, by go_num, hide (HS9.out.drew _)⟩
            case measure => simp [intOf]; omega
          · have hf1 := freeze_bad _ _ _ _ _ _ HS.out.fc HA.out.2 hfz
            have HFZ := hide hfz
            clear hfz
            go_wp2_with fail
            refine hf1.mono ?_
            rintro e w5 ⟨rfl, hk5⟩
            have HS5 := hide (quietN HS.out hk5)
            clear hf1 hk5
            have hf2 := xfreeze_bad _ _ _ _ _ _ HS5.out.fd HA.out.2 HFZ.out
            go_wp2_with fail
            refine hf2.mono ?_
            rintro e w6 ⟨rfl, hk6⟩
            have HS9 := hide (quietN HS5.out hk6)
            clear hf2 hk6 HS5 HFZ
            have d1 := HS9.out.fd.c1
            have d2 := HS9.out.fd.c2
            go_wp2_with fail
            go_quiet ((first
              | (go_at_call 22; exact Calls.quiet_of_same (next_any _ _ _ _ _ (HS9.out.fc.drew _)))
              | (go_at_call 23; exact Calls.quiet_of_same (frozen_any _ _ _ _ _ (HS9.out.fc.drew _)))
              | (go_at_call 24; exact Calls.quiet_of (left_any _ _ _ _ _ (HS9.out.fc.drew _)))
              | (go_at_call 25; exact Calls.quiet_of (xleft_any _ _ _ _ _ (HS9.out.fd.drew _)))))
            clear hca hcf hb1 d1 d2

            go_wp2_with fail
            go_roundw
            case rel => exact ⟨i + 1, _, _, by omega, by go_num, hide (HS9.out.drew _)⟩
            case measure => simp [intOf]; omega
        · have h1b : (ai == 1) = false := by simpa using h1
          clear h1
          by_cases h2 : ai = 2
          · have h2b : (ai == 2) = true := by simpa using h2
            clear h2
            have d2 := HS.out.fd.c2
            have ha := fun W => xadd_any m f fi W HS.out.fd.idf.i64.1 HS.out.fd.idf.i64.2 HA.out.2
            obtain ⟨x, hx⟩ : ∃ x, xadd m f fi = x := ⟨_, rfl⟩
            simp only [hx] at ha
            have HX : Hid (I64 x) := by
              have := xadd_bd (m := m) (x := f) (n := fi)
              rw [hx] at this
              exact I64.of (by omega) (by omega)
            clear hx
            go_wp2_with fail
            refine (ha _).mono ?_
            rintro e w' ⟨rfl, hw⟩; obtain rfl := hw.symm; clear hw ha d2
            by_cases hfz : Idd m x ∧ xgap m f x ≤ xgap m f n
            · have hf1 := freeze_good _ _ _ _ _ _ HS.out.fc hfz.1 hfz.2
              have HFZ := hide hfz
              clear hfz
              go_wp2_with fail
              refine hf1.mono ?_
              rintro e w5 ⟨rfl, hc5, ho5⟩
              have HS5 := hide (HS.out.first hc5 ho5)
              clear hf1 hc5 ho5
              have hf2 := xfreeze_good _ _ _ _ _ _ HS5.out.fd HFZ.out.1 HFZ.out.2
              go_wp2_with fail
              refine hf2.mono ?_
              rintro e w6 ⟨rfl, hc6, ho6⟩
              have HS9 := hide (HS5.out.then hc6 ho6)
              clear hf2 hc6 ho6 HS5 HFZ
              have d1 := HS9.out.fd.c1
              have d2 := HS9.out.fd.c2
              go_wp2_with fail
              go_quiet ((first
                | (go_at_call 22; exact Calls.quiet_of_same (next_any _ _ _ _ _ (HS9.out.fc.drew _)))
                | (go_at_call 23; exact Calls.quiet_of_same (frozen_any _ _ _ _ _ (HS9.out.fc.drew _)))
                | (go_at_call 24; exact Calls.quiet_of (left_any _ _ _ _ _ (HS9.out.fc.drew _)))
                | (go_at_call 25; exact Calls.quiet_of (xleft_any _ _ _ _ _ (HS9.out.fd.drew _)))))
              clear hca hcf hb1 d1 d2

              go_wp2_with fail
              go_roundw
              case rel => exact ⟨i + 1, _, _, by omega, by go_num, hide (HS9.out.drew _)⟩
              case measure => simp [intOf]; omega
            · have hf1 := freeze_bad _ _ _ _ _ _ HS.out.fc HX.out hfz
              have HFZ := hide hfz
              clear hfz
              go_wp2_with fail
              refine hf1.mono ?_
              rintro e w5 ⟨rfl, hk5⟩
              have HS5 := hide (quietN HS.out hk5)
              clear hf1 hk5
              have hf2 := xfreeze_bad _ _ _ _ _ _ HS5.out.fd HX.out HFZ.out
              go_wp2_with fail
              refine hf2.mono ?_
              rintro e w6 ⟨rfl, hk6⟩
              have HS9 := hide (quietN HS5.out hk6)
              clear hf2 hk6 HS5 HFZ
              have d1 := HS9.out.fd.c1
              have d2 := HS9.out.fd.c2
              go_wp2_with fail
              go_quiet ((first
                | (go_at_call 22; exact Calls.quiet_of_same (next_any _ _ _ _ _ (HS9.out.fc.drew _)))
                | (go_at_call 23; exact Calls.quiet_of_same (frozen_any _ _ _ _ _ (HS9.out.fc.drew _)))
                | (go_at_call 24; exact Calls.quiet_of (left_any _ _ _ _ _ (HS9.out.fc.drew _)))
                | (go_at_call 25; exact Calls.quiet_of (xleft_any _ _ _ _ _ (HS9.out.fd.drew _)))))
              clear hca hcf hb1 d1 d2

              go_wp2_with fail
              go_roundw
              case rel => exact ⟨i + 1, _, _, by omega, by go_num, hide (HS9.out.drew _)⟩
              case measure => simp [intOf]; omega
          · have h2b : (ai == 2) = false := by simpa using h2
            clear h2
            have HS9 := HS
            have d1 := HS9.out.fd.c1
            have d2 := HS9.out.fd.c2
            go_wp2_with fail
            go_quiet ((first
              | (go_at_call 22; exact Calls.quiet_of_same (next_any _ _ _ _ _ (HS9.out.fc.drew _)))
              | (go_at_call 23; exact Calls.quiet_of_same (frozen_any _ _ _ _ _ (HS9.out.fc.drew _)))
              | (go_at_call 24; exact Calls.quiet_of (left_any _ _ _ _ _ (HS9.out.fc.drew _)))
              | (go_at_call 25; exact Calls.quiet_of (xleft_any _ _ _ _ _ (HS9.out.fd.drew _)))))
            clear hca hcf hb1 d1 d2

            go_wp2_with fail
            go_roundw
            case rel => exact ⟨i + 1, _, _, by omega, by go_num, hide (HS9.out.drew _)⟩
            case measure => simp [intOf]; omega
    · go_wp2_with fail
      refine (awake_any _).mono ?_
      rintro e w3 ⟨rfl, ho⟩
      go_wp2_with fail
      go_ret
      exact ⟨rfl, (HS.out.only.trans ho (fun _ _ h => h)).low⟩
theorem counts_law (w : World) (m next z : Int) (B : Nat) (ao : Option Addr) (len cap : Nat) (A F : Nat → Int) (hm : I64 m) (hn : I64 next) (hz : I64 z) (hops : Cls w B ao len A F) :
    Calls Try.prog 4 #[.int .i64 m, .int .i64 next, .agg #[.int .i64 z, .slice ao len cap]] w fun e w' => e = .returned (.bool true) ∧ Below w.heap.size w w' := by
  by_cases h : Idd m next ∧ Idd m z ∧ xgap m z next ≤ m / 2 - 2
  · exact counts_good w m next z B ao len cap A F h.1 h.2.1 h.2.2 hops
  · have hn1 := fun W => new_bad W m next z hm hn hz h
    have hn2 := fun W => xnew_bad W m next z hm hn hz h
    have HO := hide (fun o => Only.alloc (fun _ => False) w o)
    clear hm hn hz h hops
    go_enter Try.func4, Try.ntmps4
    go_wp2_with fail
    refine (hn1 _).mono ?_
    rintro e w1 ⟨rfl, hw⟩; obtain rfl := hw.symm; clear hw
    go_wp2_with fail
    refine (hn2 _).mono ?_
    rintro e w2 ⟨rfl, hw⟩; obtain rfl := hw.symm; clear hw
    go_wp2_with fail
    refine (awake_any _).mono ?_
    rintro e w3 ⟨rfl, ho⟩
    go_wp2_with fail
    go_ret
    exact ⟨rfl, ((HO.out _).trans ho (fun _ _ h => h)).low⟩
end Go.Proofs.Ytpcdioneelfphaa
