/- The law's own example: a ring of two. -/
import Derived.Test.YtmmhmgndokaklaaLRel
namespace Go.Proofs.Ytmmhmgndokaklaa
open Go.RowKit Go.Maps

def kA : ByteArray := ⟨#[97]⟩
def kB : ByteArray := ⟨#[98]⟩
theorem kAB : kA ≠ kB := by decide
theorem kBA : kB ≠ kA := by decide
noncomputable def ex1 : Tb := (Tb.new.quit 1).grab 1 kA
noncomputable def ex2 : Tb := (ex1.quit 2).grab 2 kB
noncomputable def ex3 : Tb := (ex2.quit 2).queue 2 kA
theorem ex_one : Tb.new.tryR 1 kA = (true, 0, ex1) := rfl
theorem ex1_wait (a : Int) : ex1.wait a = none := by simp [ex1, Tb.grab, Tb.quit, Tb.new]
theorem ex1_hold (k : ByteArray) : ex1.hold k = if k = kA then some 1 else none := rfl
theorem ex2_wait (a : Int) : ex2.wait a = none := by
  show (if a = 2 then none else ex1.wait a) = none
  rw [ex1_wait]
  simp
theorem ex2_hold (k : ByteArray) : ex2.hold k = if k = kB then some 2 else if k = kA then some 1 else none := rfl
theorem ex_two : ex1.tryR 2 kB = (true, 0, ex2) := by
  unfold Tb.tryR
  have : (ex1.quit 2).hold kB = none := by
    show (if kB = kA then some (1 : Int) else none) = none
    simp [kBA]
  rw [this]
  rfl
theorem ex_three : ex2.tryR 2 kA = (false, 0, ex3) := by
  unfold Tb.tryR
  have h1 : (ex2.quit 2).hold kA = some 1 := by
    show ex2.hold kA = some 1
    rw [ex2_hold]
    simp [kAB]
  have h2 : ¬ (ex2.quit 2).Rch 1 2 := fun e => e.none (by show (if (1 : Int) = 2 then none else ex2.wait 1) = none; rw [ex2_wait]; simp)
  rw [h1]
  simp [h2, ex3]
theorem ex3_wait (a : Int) : ex3.wait a = if a = 2 then some kA else none := by
  show (if a = 2 then some kA else (if a = 2 then none else ex2.wait a)) = _
  rw [ex2_wait]
  split <;> simp_all
theorem ex_four : ex3.tryR 1 kB = (false, 181, ex3.quit 1) := by
  unfold Tb.tryR
  have h1 : (ex3.quit 1).hold kB = some 2 := by
    show ex2.hold kB = some 2
    rw [ex2_hold]
    simp
  have h2 : (ex3.quit 1).Rch 2 1 := by
    refine .one ⟨kA, ?_, ?_⟩
    · show (if (2 : Int) = 1 then none else ex3.wait 2) = some kA
      rw [ex3_wait]
      simp
    · show ex2.hold kA = some 1
      rw [ex2_hold]
      simp [kAB]
  rw [h1]
  simp [h2]
theorem ex_wait {L : List Int} (h : WaitIs (ex3.quit 1) L) : L.length = 1 := by
  have e : L = [2] := by
    refine ints_one h.up (List.pairwise_singleton _ _) (fun a => ?_)
    rw [h.mem a]
    show (∃ k, (if a = 1 then none else ex3.wait a) = some k) ↔ _
    rw [ex3_wait]
    by_cases e : a = 2
    · subst e
      simp
    · simp [e]
  rw [e]
  rfl
set_option maxRecDepth 100000 in
set_option maxHeartbeats 1600000 in
theorem lawake_any (w : World) : Calls Try.prog 23 #[] w fun e w' => e = .returned (.bool true) ∧ Only (fun _ => False) w w' := by
  have i1 : N64 1 := by unfold N64; omega
  have i2 : N64 2 := by unfold N64; omega
  have sA : kA.size ≤ maxLen := by decide
  have sB : kB.size ≤ maxLen := by decide
  have HC1 := hide (fun (W : World) t h m (H : Tab W t h m 0 Tb.new) => ltry_any W t h m 0 _ H 1 kA i1 sA (by decide))
  have HC2 := hide (fun (W : World) t h m (H : Tab W t h m (0 + 1) ex1) => ltry_any W t h m (0 + 1) _ H 2 kB i2 sB (by decide))
  have HC3 := hide (fun (W : World) t h m (H : Tab W t h m (0 + 1 + 1) ex2) => ltry_any W t h m (0 + 1 + 1) _ H 2 kA i2 sA (by decide))
  have HC4 := hide (fun (W : World) t h m (H : Tab W t h m (0 + 1 + 1 + 1) ex3) => ltry_any W t h m (0 + 1 + 1 + 1) _ H 1 kB i1 sB (by decide))
  have HC5 := hide (fun (W : World) t h m (H : Tab W t h m (0 + 1 + 1 + 1 + 1) (ex3.quit 1)) => lwaiting_any W t h m _ _ H (by decide))
  simp only [ex_one, ex_two, ex_three, ex_four] at HC1 HC2 HC3 HC4
  unfold kA at HC1 HC3
  unfold kB at HC2 HC4
  clear i1 i2 sA sB
  go_enter Try.func23, Try.ntmps23
  go_wp2_with fail
  refine (lnew_any w).mono ?_
  rintro e w1 ⟨t, h, m, rfl, b0, b1, b2, H1, O1⟩
  have HH := hide H1
  have HO : Hid (Only (fun _ => False) w w1) := O1
  clear H1 O1
  go_wp2_with fail
  refine (HC1.out _ _ _ _ HH.out).mono ?_
  clear HH
  rintro e w2 ⟨rfl, H1, O1⟩
  have HH := hide H1
  have HO : Hid (Only (fun _ => False) w w2) := HO.out.trans O1 (fun i hi e => by rcases e with e | e <;> omega)
  clear H1 O1
  go_wp2_with fail
  refine (HC2.out _ _ _ _ HH.out).mono ?_
  clear HH
  rintro e w3 ⟨rfl, H1, O1⟩
  have HH := hide H1
  have HO : Hid (Only (fun _ => False) w w3) := HO.out.trans O1 (fun i hi e => by rcases e with e | e <;> omega)
  clear H1 O1
  go_wp2_with fail
  refine (HC3.out _ _ _ _ HH.out).mono ?_
  clear HH
  rintro e w4 ⟨rfl, H1, O1⟩
  have HH := hide H1
  have HO : Hid (Only (fun _ => False) w w4) := HO.out.trans O1 (fun i hi e => by rcases e with e | e <;> omega)
  clear H1 O1
  go_wp2_with fail
  refine (HC4.out _ _ _ _ HH.out).mono ?_
  clear HH
  rintro e w5 ⟨rfl, H1, O1⟩
  have HH := hide H1
  have HO : Hid (Only (fun _ => False) w w5) := HO.out.trans O1 (fun i hi e => by rcases e with e | e <;> omega)
  clear H1 O1
  go_wp2_with fail
  refine (HC5.out _ _ _ _ HH.out).mono ?_
  rintro e w6 ⟨v, L, rfl, hL, hI, _, O1⟩
  obtain ⟨ao, cp, rfl⟩ := hI.form
  rw [ex_wait hL]
  have HO : Hid (Only (fun _ => False) w w6) := HO.out.trans O1 (fun _ _ h => h)
  clear hL hI O1
  go_wp2_with fail
  go_ret
  exact ⟨rfl, HO.out⟩
end Go.Proofs.Ytmmhmgndokaklaa
