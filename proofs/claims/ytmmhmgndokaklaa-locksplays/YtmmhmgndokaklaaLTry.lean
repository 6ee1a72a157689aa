/- What Try does. -/
import Derived.Test.YtmmhmgndokaklaaLTabA
namespace Go.Proofs.Ytmmhmgndokaklaa
open Go.RowKit Go.Maps

theorem ltry_nil (w : World) (who : Int) (k : ByteArray) : Calls Try.prog 12 #[.pointer none, .int .i64 who, .string k] w fun e w' => e = .returned (.tuple #[.bool false, .int .i64 2]) ∧ w' = w := by
  go_enter Try.func12, Try.ntmps12
  go_wp2
  go_ret2
  exact ⟨rfl, rfl⟩
set_option maxRecDepth 100000 in
set_option maxHeartbeats 800000 in
/-- The key is free, or his own. -/
theorem ltry_take (w : World) (t h m n : Nat) (T : Tb) (H : Tab w t h m n T) (who : Int) (k : ByteArray) (hw : N64 who) (hk : k.size ≤ maxLen) (hn : n < maxLen) (hf : T.hold k = none ∨ T.hold k = some who) :
    Calls Try.prog 12 #[.pointer (some ⟨t, 0, none⟩), .int .i64 who, .string k] w fun e w' =>
      e = .returned (.tuple #[.bool true, .int .i64 0]) ∧ Tab w' t h m (n + 1) ((T.quit who).grab who k) ∧ Only (tw h m) w w' := by
  have hlay := llay_any w t h m n T H
  obtain ⟨w1, hdel, hW1, hO1⟩ := H.wait.drop hw
  have H1 : Tab w1 t h m n (T.quit who) := H.setWait hO1 hW1 (Nat.le_refl _) (H.ok.quit who)
  have hl := (H1.hold.look hk).1
  obtain ⟨w2, hup, hW2, hO2⟩ := H1.hold.put hn hk who
  have HH : Hid (Tab w2 t h m (n + 1) ((T.quit who).grab who k)) := H1.setHold hO2 hW2 (by omega) (H1.ok.grab hw hk hf)
  have HO : Hid (Only (tw h m) w w2) := (hO1.mono (fun _ _ e => .inr e) : Only (tw h m) w w1).trans hO2 (fun _ _ e => .inl e)
  have c1 := H.c1
  have c0' := H1.c0
  have hf' : (T.quit who).hold k = none ∨ (T.quit who).hold k = some who := hf
  clear H H1 hW1 hW2 hO1 hO2 hn hk hw hf
  rcases hf' with hf | hf
  · rw [hf] at hl
    simp only [Option.getD_none, Option.isSome_none] at hl
    clear hf
    go_enter Try.func12, Try.ntmps12
    go_wp2_with (first | (go_at_call 26; refine hlay.mono ?_; rintro e w' ⟨rfl, hw'⟩; obtain rfl := hw'.symm))
    go_ret2
    exact ⟨rfl, HH.out, HO.out⟩
  · rw [hf] at hl
    simp only [Option.getD_some, Option.isSome_some] at hl
    clear hf
    go_enter Try.func12, Try.ntmps12
    go_wp2_with (first | (go_at_call 26; refine hlay.mono ?_; rintro e w' ⟨rfl, hw'⟩; obtain rfl := hw'.symm))
    go_ret2
    exact ⟨rfl, HH.out, HO.out⟩
set_option maxRecDepth 100000 in
set_option maxHeartbeats 800000 in
/-- Somebody else has it. -/
theorem ltry_held (w : World) (t h m n : Nat) (T : Tb) (H : Tab w t h m n T) (who ho : Int) (k : ByteArray) (hw : N64 who) (hk : k.size ≤ maxLen) (hn : n < maxLen) (hf : T.hold k = some ho) (hne : ho ≠ who) :
    Calls Try.prog 12 #[.pointer (some ⟨t, 0, none⟩), .int .i64 who, .string k] w fun e w' =>
      (((T.quit who).Rch ho who ∧ e = .returned (.tuple #[.bool false, .int .i64 181]) ∧ Tab w' t h m (n + 1) (T.quit who))
        ∨ (¬ (T.quit who).Rch ho who ∧ e = .returned (.tuple #[.bool false, .int .i64 0]) ∧ Tab w' t h m (n + 1) ((T.quit who).queue who k))) ∧ Only (tw h m) w w' := by
  have hlay := llay_any w t h m n T H
  obtain ⟨w1, hdel, hW1, hO1⟩ := H.wait.drop hw
  have H1 : Tab w1 t h m n (T.quit who) := H.setWait hO1 hW1 (Nat.le_refl _) (H.ok.quit who)
  have hl := (H1.hold.look hk).1
  have hf' : (T.quit who).hold k = some ho := hf
  rw [hf'] at hl
  simp only [Option.getD_some, Option.isSome_some] at hl
  have HF : Hid ((T.quit who).hold k = some ho) := hf'
  have hch := linchain_any w1 t h m n _ H1 who ho (H1.ok.i64 k ho hf')
  have HO : Hid (Only (tw h m) w w1) := hO1.mono (fun _ _ e => .inr e)
  have c1 := H.c1
  have c0' := H1.c0
  have HH1 := hide H1
  have HK := hide hk
  have HW := hide hw
  have HNE := hide hne
  have hb : (ho == who) = false := by simp [hne]
  clear H H1 hW1 hO1 hk hw hf hf' hne
  go_enter Try.func12, Try.ntmps12
  go_wp2_with (first | (go_at_call 26; refine hlay.mono ?_; rintro e w' ⟨rfl, hw'⟩; obtain rfl := hw'.symm) | (go_at_call 27; refine hch.mono ?_; rintro e w2 ⟨⟨b, rfl, hbR⟩, hO2⟩; have HB := hide hbR; have HO2 := hide hO2; have H2 := HH1.out.more hO2; obtain ⟨w3, hup, hW3, hO3⟩ := H2.wait.put hn HW.out k; have HO3 := hide hO3; have HW3 := hide hW3; have c1b := H2.c1; have HH2 := hide H2; clear hbR hO2 H2 hO3 hW3; cases b))
  · go_ret2
    have hR : ¬ (T.quit who).Rch ho who := fun e => by have := HB.out.2 e; cases this
    refine ⟨.inr ⟨hR, rfl, HH2.out.setWait HO3.out HW3.out (by omega) (HH1.out.ok.queue HW.out HK.out HF.out (T.quit_none who) HNE.out hR)⟩, ?_⟩
    exact (HO.out.trans HO2.out (fun _ _ e => e.elim)).trans HO3.out (fun _ _ e => .inr e)
  · go_ret2
    exact ⟨.inl ⟨HB.out.1 trivial, rfl, HH2.out.mono (by omega)⟩, HO.out.trans HO2.out (fun _ _ e => e.elim)⟩
theorem ltry_any (w : World) (t h m n : Nat) (T : Tb) (H : Tab w t h m n T) (who : Int) (k : ByteArray) (hw : N64 who) (hk : k.size ≤ maxLen) (hn : n < maxLen) :
    Calls Try.prog 12 #[.pointer (some ⟨t, 0, none⟩), .int .i64 who, .string k] w fun e w' =>
      e = .returned (.tuple #[.bool (T.tryR who k).1, .int .i64 (T.tryR who k).2.1]) ∧ Tab w' t h m (n + 1) (T.tryR who k).2.2 ∧ Only (tw h m) w w' := by
  have e0 : (T.quit who).hold k = T.hold k := rfl
  cases hf : T.hold k with
  | none =>
    have : T.tryR who k = (true, 0, (T.quit who).grab who k) := by
      unfold Tb.tryR
      rw [e0, hf]
    rw [this]
    exact ltry_take w t h m n T H who k hw hk hn (.inl hf)
  | some ho =>
    by_cases hne : ho = who
    · have : T.tryR who k = (true, 0, (T.quit who).grab who k) := by
        unfold Tb.tryR
        rw [e0, hf]
        simp [hne]
      rw [this]
      exact ltry_take w t h m n T H who k hw hk hn (.inr (by rw [hf, hne]))
    · refine (ltry_held w t h m n T H who ho k hw hk hn hf hne).mono ?_
      rintro e w' ⟨⟨hR, rfl, hT⟩ | ⟨hR, rfl, hT⟩, hO⟩
      · have : T.tryR who k = (false, 181, T.quit who) := by
          unfold Tb.tryR
          rw [e0, hf]
          simp [hne, hR]
        rw [this]
        exact ⟨rfl, hT, hO⟩
      · have : T.tryR who k = (false, 0, (T.quit who).queue who k) := by
          unfold Tb.tryR
          rw [e0, hf]
          simp [hne, hR]
        rw [this]
        exact ⟨rfl, hT, hO⟩
end Go.Proofs.Ytmmhmgndokaklaa
