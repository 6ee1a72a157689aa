/- What Crash does. -/
import Derived.Test.YtachbonlakbjmaaDCrash
namespace Go.Proofs.Ytachbonlakbjmaa
open Go.RowKit Go.Maps

/-- Numbers that a slice leads to, in block B. -/
structure Ints (w : World) (B : Nat) (ao : Option Addr) (l : List Int) : Prop where
  at_ : 0 < l.length → ∃ o, ao = some ⟨B, o, none⟩ ∧ ∀ j, j < l.length → w.cell? ⟨B, o + j, none⟩ = some (.int .i64 (l.getD j 0))
  wf : ∀ j, j < l.length → -9223372036854775808 ≤ l.getD j 0 ∧ l.getD j 0 < 9223372036854775808
  lt : 0 < l.length → B < w.heap.size
  len : l.length < 9223372036854775808
theorem Ints.kept {S : Nat → Prop} {w w' : World} {B : Nat} {ao : Option Addr} {l : List Int} (h : Ints w B ao l) (ho : Only S w w') (hS : 0 < l.length → ¬ S B) : Ints w' B ao l := by
  refine ⟨fun hl => ?_, h.wf, fun hl => Nat.lt_of_lt_of_le (h.lt hl) ho.size, h.len⟩
  obtain ⟨o, e, hc⟩ := h.at_ hl
  exact ⟨o, e, fun j hj => (ho.cell (p := ⟨B, o + j, none⟩) (h.lt hl) (hS hl)).trans (hc j hj)⟩
theorem crash_nil (w : World) (v : Value) : Calls Try.prog 10 #[.pointer none, v] w fun e w' => e = .returned (.tuple #[]) ∧ w' = w := by
  go_enter Try.func10, Try.ntmps10
  go_wp2
  refine bodyPost_ret (results_none rfl _ _ _) rfl ?_
  exact ⟨rfl, rfl⟩
theorem pend_get {D : Dk} (j : Nat) (hj : j < D.pend.length) : ∃ k, D.pend.getD j 0 = k ∧ k < D.old.length ∧ (∃ c, D.fresh k = some c) ∧ (icells D.pend)[j]? = some (.int .i64 (k : Int)) ∧ D.pend.drop j = k :: D.pend.drop (j + 1) := by
  have hm : D.pend[j] ∈ D.pend := List.getElem_mem hj
  obtain ⟨h1, h2⟩ := mem_pend.1 hm
  refine ⟨D.pend[j], by simp [List.getD_eq_getElem?_getD, hj], h1, Option.isSome_iff_exists.1 h2, ?_, List.drop_eq_getElem_cons hj⟩
  unfold icells
  simp [hj]
theorem sound_S {w : World} {d g m : Nat} {D : Dk} {o : List (List UInt8)} (h : Dsk w d g m (D.withOld o)) (hol : o.length = D.old.length) {k : Nat} (hk : k < D.old.length) {c : List UInt8} (hc : D.fresh k = some c) :
    w.cell? ⟨d, 0, none⟩ = some (.slice (some ⟨g, 0, none⟩) D.old.length D.old.length) ∧ w.cell? ⟨d, 1, none⟩ = some (.map (some m)) ∧ w.there g (k * 64) 64 ∧ (Instr.lookup 46 (.map (some m)) (.int .i64 (k : Int)) false).run Try.prog w = .ok (sec c) w := by
  have h0 := h.c0
  have hk' : k < (D.withOld o).old.length := by show k < o.length; omega
  have hl : (D.withOld o).old.length = D.old.length := hol
  have h4 := (h.map.look h.ok.hi hk').2
  have hfe : (D.withOld o).fresh k = some c := hc
  rw [hl] at h0
  rw [hfe] at h4
  exact ⟨h0, h.c1, h.old.there hk', h4⟩
set_option maxRecDepth 100000 in
set_option maxHeartbeats 3200000 in
theorem crash_any (w : World) (d g m : Nat) (D : Dk) (h : Dsk w d g m D) (B : Nat) (ao : Option Addr) (cp : Nat) (how : List Int) (hI : Ints w B ao how) (hB : 0 < how.length → ¬ own d g m B) :
    Calls Try.prog 10 #[.pointer (some ⟨d, 0, none⟩), .slice ao how.length cp] w fun e w' => e = .returned (.tuple #[]) ∧ Dsk w' d g m (D.crash how) ∧ Only (own d g m) w w' := by
  have hpe := pending_any w d g m D h
  have hlt := And.intro h.lt (And.intro h.old.lt h.map.lt)
  have h64 := h.ok.hi
  have H := hide h
  have HI := hide hI
  have HB := hide hB
  have hpl : D.pend.length ≤ 65536 := by
    have : D.pend.length ≤ D.old.length := by
      have := List.length_filter_le (fun k => (D.fresh k).isSome) (List.range D.old.length)
      simpa [Dk.pend] using this
    omega
  have hhl := hI.len
  clear h hI hB
  go_enter Try.func10, Try.ntmps10
  go_wp2_with fail
  refine hpe.mono ?_
  rintro e w1 ⟨gg, cap, rfl, hrow1, hO1⟩
  have hgg := hrow1.lt gg rfl
  have HW1 := hide hrow1
  have HO1 : Hid (Only (own d g m) w w1) := hO1.mono (fun _ _ h => h.elim)
  have HS1 := hide (H.out.same hO1)
  have HI1 := hide (HI.out.kept hO1 (fun _ h => h))
  obtain ⟨R, hR⟩ : ∃ R, falls D.fresh how D.pend 0 D.old = R := ⟨_, rfl⟩
  have HR := hide hR
  clear hrow1 hO1 hpe hR
  go_wp2_with fail
  go_loopw [12] (fun y wr => ∃ (j : Nat) (o : List (List UInt8)), j ≤ D.pend.length ∧ y = .int .i64 (j : Int) ∧ o.length = D.old.length ∧ Hid (Dsk wr d g m (D.withOld o)) ∧ Hid (falls D.fresh how (D.pend.drop j) j o = R) ∧ Hid (Only (own d g m) w wr) ∧ Hid (wr.ownsRow w.heap.size 3 1 (.slice (some ⟨gg, 0, none⟩) D.pend.length cap) D.pend.length (icells D.pend)) ∧ Hid (Ints wr B ao how)) (fun y _ => D.pend.length - (intOf y).toNat)
  case atStart => exact ⟨0, D.old, by omega, rfl, rfl, HS1, HR, HO1, HW1, HI1⟩
  case round =>
    obtain ⟨j, o, hj, rfl, hol, HS, HF, HO, HW, HJ⟩ := hrel
    by_cases hjl : j < D.pend.length
    · obtain ⟨k, -, hk, ⟨c, hc⟩, hic, hdr⟩ := pend_get j hjl
      have hcell : wr.cell? ⟨gg, j, none⟩ = some (.int .i64 (k : Int)) := (HW.out.cellAt j (by simpa using hjl)).trans hic
      have hj0 : (0 : Int) ≤ (j : Int) := by omega
      have hj1 : (j : Int) < (D.pend.length : Int) := by omega
      by_cases hjh : j < how.length
      · obtain ⟨of, hao, hcs⟩ := HJ.out.at_ (by omega)
        have hfc := hcs j hjh
        have hfw := HJ.out.wf j hjh
        obtain ⟨f, hf⟩ : ∃ f, how.getD j 0 = f := ⟨_, rfl⟩
        rw [hf] at hfc hfw
        have HFe := hide hf
        clear hf hcs
        subst hao
        go_wp2_with fail
        have hSr := HS.out
        have hc64 := (HS.out.ok.f64 k c hc).2
        have ho64 : (o.getD k []).length = 64 := HS.out.ok.o64 k (by show k < o.length; omega)
        obtain ⟨ff, hff⟩ : ∃ ff, fell (o.getD k []) c f = ff := ⟨_, rfl⟩
        have hfl : ff.length = 64 := by rw [← hff]; exact fell_len ho64 hc64
        have hSd := HS.out.same (Only.drew _ wr)
        have hcall : ∀ W, Calls Try.prog 31 #[.agg (cells (o.getD k [])).toArray, sec c, .int .i64 f] W fun e w' => e = .returned (.agg (cells ff).toArray) ∧ Only (fun _ => False) W w' := fun W => by
          have := fall_any W (o.getD k []) c f ho64 hc64 (by omega)
          rw [hff] at this
          exact this
        have hld : wr.drew.rangeAt g (k * 64) (cells (o.getD k [])) := hSd.old.range (by show k < o.length; omega)
        have hlq : (Try.prog.info? 65).map (·.size) = some (cells (o.getD k [])).length := by rw [cells_length, ho64]; exact Try.infoSec
        have HK : Hid (∀ w2, Only (fun _ => False) wr.drew w2 → w2.cell? ⟨d, 0, none⟩ = some (.slice (some ⟨g, 0, none⟩) D.old.length D.old.length) ∧ w2.cell? ⟨d, 1, none⟩ = some (.map (some m)) ∧ w2.there g (k * 64) 64 ∧ (Instr.lookup 46 (.map (some m)) (.int .i64 (k : Int)) false).run Try.prog w2 = .ok (sec c) w2) := fun w2 ho => sound_S (hSd.same ho) hol hk hc
        have HK2 : Hid (∀ w2, Only (fun _ => False) wr.drew w2 → (w2.setCells g (k * 64) (cells ff)).cell? ⟨d, 0, none⟩ = some (.slice (some ⟨g, 0, none⟩) D.old.length D.old.length) ∧ (w2.setCells g (k * 64) (cells ff)).cell? ⟨d, 1, none⟩ = some (.map (some m)) ∧ (w2.setCells g (k * 64) (cells ff)).there g (k * 64) 64 ∧ (Instr.lookup 46 (.map (some m)) (.int .i64 (k : Int)) false).run Try.prog (w2.setCells g (k * 64) (cells ff)) = .ok (sec c) (w2.setCells g (k * 64) (cells ff))) := fun w2 ho =>
          sound_S (D := D) (o := o.set k ff) ((hSd.same ho).setOld (k := k) (by show k < o.length; omega) hfl) (by simpa using hol) hk hc
        have hus := Try.underlying65
        have hk0 : (0 : Int) ≤ (k : Int) := by omega
        have hk1 : (k : Int) < (D.old.length : Int) := by omega
        have HSD := hide hSd
        have HFF := hide hff
        have HC := hide hc
        have HDR := hide hdr
        obtain ⟨q, hq⟩ : ∃ q, o.getD k [] = q := ⟨_, rfl⟩
        rw [hq] at hcall hld HFF hlq
        have HQ := hide hq
        clear hSr hSd hff hc hdr hq ho64 hic
        refine crash_region wr d g m D.old.length k f q c ff hfl hk0 hk1 hld hus hlq hcall HK HK2 (fun w2 hO2 => ?_)
        ·
          have hS3 := (HSD.out.same hO2).setOld (k := k) (b := ff) (by show k < o.length; omega) hfl
          have hOs : Only (fun i => i = g) w2 (w2.setCells g (k * 64) (cells ff)) := Only.setCells (S := fun i => i = g) g rfl _ _ _
          have hOd : Only (fun _ => False) wr w2 := (Only.drew _ wr).trans hO2 (fun _ _ h => h)
          have HX : Hid (Dsk (w2.setCells g (k * 64) (cells ff)) d g m (D.withOld (o.set k ff)) ∧ falls D.fresh how (D.pend.drop (j + 1)) (j + 1) (o.set k ff) = R ∧ Only (own d g m) w (w2.setCells g (k * 64) (cells ff))
              ∧ (w2.setCells g (k * 64) (cells ff)).ownsRow w.heap.size 3 1 (.slice (some ⟨gg, 0, none⟩) D.pend.length cap) D.pend.length (icells D.pend) ∧ Ints (w2.setCells g (k * 64) (cells ff)) B (some ⟨B, of, none⟩) how) := by
            refine ⟨hS3, ?_, (HO.out.trans hOd (fun _ _ h => h.elim)).trans hOs (fun i _ e => .inr (.inl e)), ?_, (HJ.out.kept hOd (fun _ h => h)).kept hOs (fun hl e => HB.out hl (.inr (.inl e)))⟩
            · rw [← HF.out, HDR.out]
              show _ = falls D.fresh how (D.pend.drop (j + 1)) (j + 1) (o.set k (fell (o.getD k []) ((D.fresh k).getD []) (how.getD j 0)))
              rw [HC.out, HQ.out, HFe.out, ← HFF.out]
              rfl
            · exact (HW.out.kept hOd.toGrown0 (.inr (by simp [Value.ownBlock]))).kept hOs.toGrown (.inr (by simp [Value.ownBlock]; omega))
          clear hS3 hOs hOd
          go_wp2_with fail
          go_roundw
          case rel => exact ⟨j + 1, o.set k ff, by omega, by go_num, by simpa using hol, hide HX.out.1, hide HX.out.2.1, hide HX.out.2.2.1, hide HX.out.2.2.2.1, hide HX.out.2.2.2.2⟩
          case measure => simp [intOf]; omega
      · have HFe : Hid (how.getD j 0 = 0) := by unfold Hid; simp [List.getD_eq_getElem?_getD, hjh]
        go_wp2_with fail
        have hSr := HS.out
        have hc64 := (HS.out.ok.f64 k c hc).2
        have ho64 : (o.getD k []).length = 64 := HS.out.ok.o64 k (by show k < o.length; omega)
        obtain ⟨ff, hff⟩ : ∃ ff, fell (o.getD k []) c 0 = ff := ⟨_, rfl⟩
        have hfl : ff.length = 64 := by rw [← hff]; exact fell_len ho64 hc64
        have hSd := HS.out.same (Only.drew _ wr)
        have hcall : ∀ W, Calls Try.prog 31 #[.agg (cells (o.getD k [])).toArray, sec c, .int .i64 0] W fun e w' => e = .returned (.agg (cells ff).toArray) ∧ Only (fun _ => False) W w' := fun W => by
          have := fall_any W (o.getD k []) c 0 ho64 hc64 (by omega)
          rw [hff] at this
          exact this
        have hld : wr.drew.rangeAt g (k * 64) (cells (o.getD k [])) := hSd.old.range (by show k < o.length; omega)
        have hlq : (Try.prog.info? 65).map (·.size) = some (cells (o.getD k [])).length := by rw [cells_length, ho64]; exact Try.infoSec
        have HK : Hid (∀ w2, Only (fun _ => False) wr.drew w2 → w2.cell? ⟨d, 0, none⟩ = some (.slice (some ⟨g, 0, none⟩) D.old.length D.old.length) ∧ w2.cell? ⟨d, 1, none⟩ = some (.map (some m)) ∧ w2.there g (k * 64) 64 ∧ (Instr.lookup 46 (.map (some m)) (.int .i64 (k : Int)) false).run Try.prog w2 = .ok (sec c) w2) := fun w2 ho => sound_S (hSd.same ho) hol hk hc
        have HK2 : Hid (∀ w2, Only (fun _ => False) wr.drew w2 → (w2.setCells g (k * 64) (cells ff)).cell? ⟨d, 0, none⟩ = some (.slice (some ⟨g, 0, none⟩) D.old.length D.old.length) ∧ (w2.setCells g (k * 64) (cells ff)).cell? ⟨d, 1, none⟩ = some (.map (some m)) ∧ (w2.setCells g (k * 64) (cells ff)).there g (k * 64) 64 ∧ (Instr.lookup 46 (.map (some m)) (.int .i64 (k : Int)) false).run Try.prog (w2.setCells g (k * 64) (cells ff)) = .ok (sec c) (w2.setCells g (k * 64) (cells ff))) := fun w2 ho =>
          sound_S (D := D) (o := o.set k ff) ((hSd.same ho).setOld (k := k) (by show k < o.length; omega) hfl) (by simpa using hol) hk hc
        have hus := Try.underlying65
        have hk0 : (0 : Int) ≤ (k : Int) := by omega
        have hk1 : (k : Int) < (D.old.length : Int) := by omega
        have HSD := hide hSd
        have HFF := hide hff
        have HC := hide hc
        have HDR := hide hdr
        obtain ⟨q, hq⟩ : ∃ q, o.getD k [] = q := ⟨_, rfl⟩
        rw [hq] at hcall hld HFF hlq
        have HQ := hide hq
        clear hSr hSd hff hc hdr hq ho64 hic
        refine crash_region wr d g m D.old.length k 0 q c ff hfl hk0 hk1 hld hus hlq hcall HK HK2 (fun w2 hO2 => ?_)
        ·
          have hS3 := (HSD.out.same hO2).setOld (k := k) (b := ff) (by show k < o.length; omega) hfl
          have hOs : Only (fun i => i = g) w2 (w2.setCells g (k * 64) (cells ff)) := Only.setCells (S := fun i => i = g) g rfl _ _ _
          have hOd : Only (fun _ => False) wr w2 := (Only.drew _ wr).trans hO2 (fun _ _ h => h)
          have HX : Hid (Dsk (w2.setCells g (k * 64) (cells ff)) d g m (D.withOld (o.set k ff)) ∧ falls D.fresh how (D.pend.drop (j + 1)) (j + 1) (o.set k ff) = R ∧ Only (own d g m) w (w2.setCells g (k * 64) (cells ff))
              ∧ (w2.setCells g (k * 64) (cells ff)).ownsRow w.heap.size 3 1 (.slice (some ⟨gg, 0, none⟩) D.pend.length cap) D.pend.length (icells D.pend) ∧ Ints (w2.setCells g (k * 64) (cells ff)) B ao how) := by
            refine ⟨hS3, ?_, (HO.out.trans hOd (fun _ _ h => h.elim)).trans hOs (fun i _ e => .inr (.inl e)), ?_, (HJ.out.kept hOd (fun _ h => h)).kept hOs (fun hl e => HB.out hl (.inr (.inl e)))⟩
            · rw [← HF.out, HDR.out]
              show _ = falls D.fresh how (D.pend.drop (j + 1)) (j + 1) (o.set k (fell (o.getD k []) ((D.fresh k).getD []) (how.getD j 0)))
              rw [HC.out, HQ.out, HFe.out, ← HFF.out]
              rfl
            · exact (HW.out.kept hOd.toGrown0 (.inr (by simp [Value.ownBlock]))).kept hOs.toGrown (.inr (by simp [Value.ownBlock]; omega))
          clear hS3 hOs hOd
          go_wp2_with fail
          go_roundw
          case rel => exact ⟨j + 1, o.set k ff, by omega, by go_num, by simpa using hol, hide HX.out.1, hide HX.out.2.1, hide HX.out.2.2.1, hide HX.out.2.2.2.1, hide HX.out.2.2.2.2⟩
          case measure => simp [intOf]; omega
    · have ej : j = D.pend.length := by omega
      obtain ⟨w2, hcl, hfr, hO2⟩ := HS.out.map.clear
      have hc1 := HS.out.c1
      have hS2 := HS.out.cleared hfr hO2
      obtain ⟨hS3, hO3⟩ := hS2.setDead false
      obtain ⟨hS4, hO4⟩ := hS3.setArmed 0 (by omega) (by omega)
      have eo : o = R := by rw [← HF.out, ej, List.drop_length]; rfl
      have HX := hide (And.intro hS4 (((HO.out.trans hO2 (fun i _ e => .inr (.inr e))).trans hO3 (fun _ _ h => h)).trans hO4 (fun _ _ h => h)))
      have c4 := hS2.c4
      have c3 := hS2.c3
      have f3 := hS2.fz 3
      have f4 := hS2.fz 4
      have HEO := hide eo
      clear hfr hO2 hS2 hS3 hO3 hS4 hO4 eo
      go_wp2
      go_end0
      refine ⟨rfl, ?_, HX.out.2⟩
      have e : D.crash how = { D with old := o, fresh := fun _ => none, dead := false, armed := 0 } := by unfold Dk.crash; rw [HR.out, HEO.out]
      rw [e]
      exact HX.out.1
end Go.Proofs.Ytachbonlakbjmaa
