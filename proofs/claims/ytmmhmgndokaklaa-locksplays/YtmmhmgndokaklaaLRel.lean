/- What Release does. -/
import Derived.Test.YtmmhmgndokaklaaLWaiting
namespace Go.Proofs.Ytmmhmgndokaklaa
open Go.RowKit Go.Maps Go.Sort

theorem Tb.Ok.lessW {T : Tb} (h : T.Ok) {f : Int → Option ByteArray} (hf : ∀ a k, f a = some k → T.wait a = some k) : ({ T with wait := f } : Tb).Ok := by
  obtain ⟨r, hr⟩ := h.rank
  refine ⟨fun a k e => h.held a k (hf a k e), ⟨r, fun a b e => ?_⟩, h.i64, fun a k e => h.w64 a k (hf a k e), h.h64⟩
  obtain ⟨k, h1, h2⟩ := e
  exact hr a b ⟨k, hf a k h1, h2⟩
theorem Tb.Ok.lessH {T : Tb} (h : T.Ok) {f : ByteArray → Option Int} (hf : ∀ k b, f k = some b → T.hold k = some b) (hw : ∀ a k, T.wait a = some k → f k = T.hold k) : ({ T with hold := f } : Tb).Ok := by
  obtain ⟨r, hr⟩ := h.rank
  refine ⟨fun a k e => ?_, ⟨r, fun a b e => ?_⟩, fun k b e => h.i64 k b (hf k b e), h.w64, fun k b e => h.h64 k b (hf k b e)⟩
  · show ∃ b, f k = some b
    rw [hw a k e]
    exact h.held a k e
  · obtain ⟨k, h1, h2⟩ := e
    exact hr a b ⟨k, h1, hf k b h2⟩
theorem IRow.form {w : World} {base : Nat} {v : Value} {L : List Int} (h : IRow w base v L) : ∃ ao cp, v = .slice ao L.length cp := by
  rcases h.2 with ⟨rfl, h0⟩ | ⟨g, cap, cur, rfl, _⟩
  · exact ⟨none, 0, by rw [h0]⟩
  · exact ⟨_, _, rfl⟩
theorem SRow.form {w : World} {base : Nat} {v : Value} {L : List ByteArray} (h : SRow w base v L) : ∃ ao cp, v = .slice ao L.length cp := by
  rcases h.2 with ⟨rfl, h0⟩ | ⟨g, cap, cur, rfl, _⟩
  · exact ⟨none, 0, by rw [h0]⟩
  · exact ⟨_, _, rfl⟩
theorem IRow.at_ {w : World} {base n cp : Nat} {ao : Option Addr} {L : List Int} (h : IRow w base (.slice ao n cp) L) {j : Nat} (hj : j < L.length) : ∃ g, ao = some ⟨g, 0, none⟩ ∧ base ≤ g ∧ g < w.heap.size ∧ w.cell? ⟨g, j, none⟩ = some (.int .i64 L[j]) := by
  have h' := h
  rcases h.2 with ⟨_, h0⟩ | ⟨g, cap, cur, e, hb, hh, _⟩
  · omega
  · injection e with e1 e2 e3
    subst e1
    subst e2
    have hc := World.ownsRow.cellAt h' j (by omega)
    refine ⟨g, rfl, hb, (Array.getElem?_eq_some_iff.1 hh).1, ?_⟩
    rw [hc]
    simp [iv, hj]
theorem SRow.at_ {w : World} {base n cp : Nat} {ao : Option Addr} {L : List ByteArray} (h : SRow w base (.slice ao n cp) L) {j : Nat} (hj : j < L.length) : ∃ g, ao = some ⟨g, 0, none⟩ ∧ base ≤ g ∧ g < w.heap.size ∧ w.cell? ⟨g, j, none⟩ = some (.string L[j]) := by
  have h' := h
  rcases h.2 with ⟨_, h0⟩ | ⟨g, cap, cur, e, hb, hh, _⟩
  · omega
  · injection e with e1 e2 e3
    subst e1
    subst e2
    have hc := World.ownsRow.cellAt h' j (by omega)
    refine ⟨g, rfl, hb, (Array.getElem?_eq_some_iff.1 hh).1, ?_⟩
    rw [hc]
    simp [sv, hj]
theorem IRow.low {w : World} {base : Nat} {v : Value} {L : List Int} (h : IRow w base v L) : ∀ k, v.ownBlock = some k → base ≤ k ∧ k < w.heap.size := fun k hk => World.ownsRow.lt h k hk
theorem SRow.low {w : World} {base : Nat} {v : Value} {L : List ByteArray} (h : SRow w base v L) : ∀ k, v.ownBlock = some k → base ≤ k ∧ k < w.heap.size := fun k hk => World.ownsRow.lt h k hk
theorem IRow.base {w : World} {b b' : Nat} {v : Value} {L : List Int} (h : IRow w b v L) (hb : b' ≤ b) : IRow w b' v L := ownsRow_base_a h hb
theorem SRow.base {w : World} {b b' : Nat} {v : Value} {L : List ByteArray} (h : SRow w b v L) (hb : b' ≤ b) : SRow w b' v L := ownsRow_base_a h hb
theorem mem_take_succ {α : Type} {L : List α} {j : Nat} (hj : j < L.length) (a : α) : a ∈ L.take (j + 1) ↔ (a = L[j] ∨ a ∈ L.take j) := by
  rw [List.take_succ_eq_append_getElem hj, List.mem_append]
  simp only [List.mem_singleton]
  exact Or.comm
theorem wait_step (L : List Int) (g : Int → Option ByteArray) {j : Nat} (hj : j < L.length) : (fun a => if a = L[j] then none else (fun a => if a ∈ L.take j then none else g a) a) = fun a => if a ∈ L.take (j + 1) then none else g a := by
  funext a
  by_cases e : a = L[j]
  · simp [e, mem_take_succ hj]
  · by_cases e2 : a ∈ L.take j
    · simp [e, e2, mem_take_succ hj]
    · simp [e, e2, mem_take_succ hj]
/-- Whose holders stand on a list: nobody holds them. -/
noncomputable def noHold (L : List ByteArray) (g : ByteArray → Option Int) (k : ByteArray) : Option Int := open Classical in if k ∈ L then none else g k
theorem hold_step (L : List ByteArray) (g : ByteArray → Option Int) {j : Nat} (hj : j < L.length) : (fun a => if a = L[j] then none else noHold (L.take j) g a) = noHold (L.take (j + 1)) g := by
  funext a
  unfold noHold
  by_cases e : a = L[j]
  · simp [e, mem_take_succ hj]
  · by_cases e2 : a ∈ L.take j
    · simp [e, e2, mem_take_succ hj]
    · simp [e, e2, mem_take_succ hj]
theorem noHold_nil (g : ByteArray → Option Int) : noHold [] g = g := by
  funext a
  simp [noHold]
theorem noHold_some {L : List ByteArray} {g : ByteArray → Option Int} {k : ByteArray} {b : Int} : noHold L g k = some b ↔ (k ∉ L ∧ g k = some b) := by
  unfold noHold
  by_cases e : k ∈ L
  · simp [e]
  · simp [e]
theorem lrelease_nil (w : World) (who : Int) : Calls Try.prog 10 #[.pointer none, .int .i64 who] w fun e w' => e = .returned (.slice none 0 0) ∧ w' = w := by
  go_enter Try.func10, Try.ntmps10
  go_wp2
  go_ret
  exact ⟨rfl, rfl⟩
set_option maxRecDepth 100000 in
set_option maxHeartbeats 1600000 in
theorem lrelease_any (w : World) (t h m n : Nat) (T : Tb) (H : Tab w t h m n T) (who : Int) (hw : N64 who) (hn : n ≤ 4398046511104) : Calls Try.prog 10 #[.pointer (some ⟨t, 0, none⟩), .int .i64 who] w fun e w' =>
    ∃ v L, e = .returned v ∧ FreeIs (T.quit who) who L ∧ IRow w' w.heap.size v L ∧ L.length ≤ n ∧ Tab w' t h m n (T.freed who) ∧ Only (tw h m) w w' := by
  obtain ⟨w1, hdel, hW1, hO1⟩ := H.wait.drop hw
  have H1 : Tab w1 t h m n (T.quit who) := H.setWait hO1 hW1 (Nat.le_refl _) (H.ok.quit who)
  have hwf := lwaiters_any w1 t h m n _ H1 who hn
  have c1 := H.c1
  have hs := H.sizes
  have HS1 : Hid (w.heap.size ≤ w1.heap.size) := hO1.size
  have HO1 : Hid (Only (tw h m) w w1) := hO1.mono (fun _ _ e => .inr e)
  have HT1 := hide H1
  obtain ⟨T1, hT1⟩ : ∃ T1, T.quit who = T1 := ⟨_, rfl⟩
  have HTE := hide hT1
  rw [hT1] at HT1 hwf
  clear H H1 hW1 hO1 hT1
  go_enter Try.func10, Try.ntmps10
  go_wp2_with (first | (go_at_call 24; refine hwf.mono ?_; rintro e w2 ⟨v, L, rfl, hL, hI, hLn, hO2⟩; obtain ⟨ao, cp, hv⟩ := hI.form; rw [hv] at hI; rw [hv]; have HL := hide hL; have HI := hide hI; have HO2 := hide hO2; clear hL hI hO2 hv))
  have HT2 : Hid (Tab w2 t h m n T1) := HT1.out.more HO2.out
  go_loopw [22] (fun y wr => ∃ j : Nat, j ≤ L.length ∧ y = .int .i64 (j : Int) ∧ Hid (Tab wr t h m n { T1 with wait := fun a => if a ∈ L.take j then none else T1.wait a }) ∧ Hid (IRow wr w.heap.size (.slice ao L.length cp) L) ∧ Hid (Only (tw h m) w wr))
    (fun y _ => L.length - (intOf y).toNat)
  case atStart =>
    refine ⟨0, by omega, rfl, ?_, hide (HI.out.base (by have := HS1.out; omega)), hide (HO1.out.trans HO2.out (fun _ _ e => e.elim))⟩
    simp only [List.take_zero, List.not_mem_nil, if_false]
    exact HT2
  case round =>
    obtain ⟨j, hj, rfl, HTr, HIr, HOr⟩ := hrel
    have c1r := HTr.out.c1
    by_cases hlt : j < L.length
    · obtain ⟨g, e1, hgb, hgl, hc⟩ := HIr.out.at_ hlt
      obtain ⟨z, hz⟩ : ∃ z, L[j] = z := ⟨_, rfl⟩
      rw [hz] at hc
      have hzm : z ∈ L := by rw [← hz]; exact List.getElem_mem hlt
      have hz64 : N64 z := by
        obtain ⟨k, hk, _⟩ := (HL.out.mem z).1 hzm
        exact (HT1.out.ok.w64 z k hk).1
      obtain ⟨w4, hd4, hW4, hO4⟩ := HTr.out.wait.drop hz64
      have hst := wait_step L T1.wait hlt
      rw [hz] at hst
      rw [show (fun j_1 => if j_1 = z then none else ({ T1 with wait := fun a => if a ∈ L.take j then none else T1.wait a } : Tb).wait j_1) = fun a => if a ∈ L.take (j + 1) then none else T1.wait a from hst] at hW4
      have HT4 : Hid (Tab w4 t h m n { T1 with wait := fun a => if a ∈ L.take (j + 1) then none else T1.wait a }) := HTr.out.setWait hO4 hW4 (Nat.le_refl _) (HT1.out.ok.lessW (fun a k e => by split at e; cases e; exact e))
      have HI4 : Hid (IRow w4 w.heap.size (.slice ao L.length cp) L) := HIr.out.kept hO4 (fun k hk e => by have := (HIr.out.low k hk).1; omega)
      have HO4 : Hid (Only (tw h m) w w4) := HOr.out.trans hO4 (fun _ _ e => .inr e)
      subst e1
      clear hst hW4 hO4 hz hzm hz64
      go_wp2_with fail
      go_roundw
      case rel => exact ⟨j + 1, by omega, by go_num, HT4, HI4, HO4⟩
      case measure => simp [intOf]; omega
    · have ej : L.take j = L := List.take_of_length_le (by omega)
      have HT5 : Hid (Tab wr t h m n (T1.loose who)) := by
        have := HTr.out
        rw [ej] at this
        have e : ({ T1 with wait := fun a => if a ∈ L then none else T1.wait a } : Tb) = T1.loose who := by
          unfold Tb.loose
          congr 1
          funext a
          by_cases ha : a ∈ L
          · obtain ⟨k, hk1, hk2⟩ := (HL.out.mem a).1 ha
            simp [ha, hk1, hk2]
          · simp only [ha, if_false]
            cases hk : T1.wait a with
            | none => rfl
            | some k =>
              have : ¬ T1.hold k = some who := fun e => ha ((HL.out.mem a).2 ⟨k, hk, e⟩)
              simp [this]
        rw [← e]
        exact this
      have hhe := lheld_any wr t h m n _ HT5.out who hn
      have hrs : w.heap.size ≤ wr.heap.size := HOr.out.size
      clear ej HTr
      go_wp2_with (first | (go_at_call 19; refine hhe.mono ?_; rintro e w5 ⟨v2, L2, rfl, hL2, hI2, hLn2, hO5⟩; obtain ⟨ao2, cp2, hv⟩ := hI2.form; rw [hv] at hI2; rw [hv]; have HL2 := hide hL2; have HI2 := hide hI2; have HO5 := hide hO5; clear hL2 hI2 hO5 hv))
      have HT6 : Hid (Tab w5 t h m n (T1.loose who)) := HT5.out.more HO5.out
      have HI5 : Hid (IRow w5 w.heap.size (.slice ao L.length cp) L) := HIr.out.kept HO5.out (fun k hk e => e)
      have HO6 : Hid (Only (tw h m) w w5) := HOr.out.trans HO5.out (fun _ _ e => e.elim)
      have HI2' : Hid (SRow w5 w.heap.size (.slice ao2 L2.length cp2) L2) := HI2.out.base (by omega)
      go_loopw [36] (fun y wq => ∃ j : Nat, j ≤ L2.length ∧ y = .int .i64 (j : Int) ∧ Hid (Tab wq t h m n { T1.loose who with hold := noHold (L2.take j) T1.hold }) ∧ Hid (IRow wq w.heap.size (.slice ao L.length cp) L) ∧ Hid (SRow wq w.heap.size (.slice ao2 L2.length cp2) L2) ∧ Hid (Only (tw h m) w wq))
        (fun y _ => L2.length - (intOf y).toNat)
      case atStart =>
        refine ⟨0, by omega, rfl, ?_, HI5, HI2', HO6⟩
        rw [List.take_zero, noHold_nil]
        exact HT6
      case round =>
        obtain ⟨j, hj, rfl, HTq, HIq, HSq, HOq⟩ := hrel
        have c0q := HTq.out.c0
        by_cases hlt : j < L2.length
        · obtain ⟨g, e1, hgb, hgl, hc⟩ := HSq.out.at_ hlt
          obtain ⟨z, hz⟩ : ∃ z, L2[j] = z := ⟨_, rfl⟩
          rw [hz] at hc
          have hzm : z ∈ L2 := by rw [← hz]; exact List.getElem_mem hlt
          have hzh : T1.hold z = some who := (HL2.out.mem z).1 hzm
          obtain ⟨w7, hd7, hW7, hO7⟩ := HTq.out.hold.drop (HT1.out.ok.h64 z who hzh)
          have hst := hold_step L2 T1.hold hlt
          rw [hz] at hst
          rw [show (fun j_1 => if j_1 = z then none else ({ T1.loose who with hold := noHold (L2.take j) T1.hold } : Tb).hold j_1) = noHold (L2.take (j + 1)) T1.hold from hst] at hW7
          have hok : ({ T1.loose who with hold := noHold (L2.take (j + 1)) T1.hold } : Tb).Ok := by
            refine (HT1.out.ok.loose who).lessH (fun k b e => (noHold_some.1 e).2) (fun a k e => ?_)
            have h1 := (Tb.loose_wait.1 e).2
            have h2 : k ∉ L2.take (j + 1) := fun e2 => h1 ((HL2.out.mem k).1 (List.mem_of_mem_take e2))
            show noHold (L2.take (j + 1)) T1.hold k = T1.hold k
            unfold noHold
            simp [h2]
          have HT7 : Hid (Tab w7 t h m n { T1.loose who with hold := noHold (L2.take (j + 1)) T1.hold }) := HTq.out.setHold hO7 hW7 (Nat.le_refl _) hok
          have HI7 : Hid (IRow w7 w.heap.size (.slice ao L.length cp) L) := HIq.out.kept hO7 (fun k hk e => by have := (HIq.out.low k hk).1; omega)
          have HS7 : Hid (SRow w7 w.heap.size (.slice ao2 L2.length cp2) L2) := HSq.out.kept hO7 (fun k hk e => by have := (HSq.out.low k hk).1; omega)
          have HO7 : Hid (Only (tw h m) w w7) := HOq.out.trans hO7 (fun _ _ e => .inl e)
          subst e1
          clear hst hW7 hO7 hz hzm hzh hok
          go_wp2_with fail
          go_roundw
          case rel => exact ⟨j + 1, by omega, by go_num, HT7, HI7, HS7, HO7⟩
          case measure => simp [intOf]; omega
        · have ej : L2.take j = L2 := List.take_of_length_le (by omega)
          have HT8 : Hid (Tab wr t h m n (T.freed who)) := by
            have := HTq.out
            rw [ej] at this
            have e : ({ T1.loose who with hold := noHold L2 T1.hold } : Tb) = T.freed who := by
              unfold Tb.freed
              rw [HTE.out]
              have hx : noHold L2 T1.hold = fun k => if (T1.loose who).hold k = some who then none else (T1.loose who).hold k := by
                funext k
                unfold noHold
                by_cases hk : k ∈ L2
                · have hk2 : (T1.loose who).hold k = some who := (HL2.out.mem k).1 hk
                  simp [hk, hk2]
                · have hk2 : ¬ (T1.loose who).hold k = some who := fun e => hk ((HL2.out.mem k).2 e)
                  simp only [hk, if_false, hk2]
                  rfl
              rw [hx]
              rfl
            rw [← e]
            exact this
          clear ej
          go_wp2_with fail
          go_ret
          exact ⟨_, rfl, L, by rw [HTE.out]; exact HL.out, HIq.out, hLn, HT8.out, HOq.out⟩
end Go.Proofs.Ytmmhmgndokaklaa
