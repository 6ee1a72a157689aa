/- The law's own examples. -/
import Derived.Test.YthcpmcpgbipgoaaUKey
namespace Go.Proofs.Ythcpmcpgbipgoaa
open Go.RowKit

/-- Only what is new has changed, and what was laid is there. -/
def exT : Tu := ⟨3, 0, false, ⟨#[107]⟩, ⟨#[118, 118]⟩⟩
theorem exT_enc : str exT.enc = ⟨#[1, 0, 3, 0, 0, 1, 107, 2, 118, 118]⟩ := rfl
theorem exT_ok : exT.ok = true := rfl
theorem exT_dead : str (dlay ⟨#[107]⟩) = ⟨#[4, 1, 107]⟩ := rfl
theorem st_enc {t : Tu} (h : t.ok = true) : stT t.enc = 3 := by unfold stT; rw [dec_encT h]; rfl
theorem st_dead {k : ByteArray} (h : okK k = true) : stT (dlay k) = 2 := by unfold stT; rw [dead_dec (dead_lay h), dead_lay h]; rfl
theorem st_five : stT [5] = 0 := rfl
set_option maxRecDepth 100000 in
set_option maxHeartbeats 1600000 in
theorem uawake_any (w : World) : Calls Try.prog 14 #[] w fun e w' => e = .returned (.bool true) ∧ Only (fun _ => False) w w' := by
  have HE : Hid (∀ W, Calls Try.prog 9 #[.agg #[.int .i64 3, .int .i64 0, .bool false, .string ⟨#[107]⟩, .string ⟨#[118, 118]⟩]] W fun e w' => e = .returned (.tuple #[.string ⟨#[1, 0, 3, 0, 0, 1, 107, 2, 118, 118]⟩, .int .i64 0]) ∧ Only (fun _ => False) W w') := fun W => by
    have := uencode_ok exT W exT_ok
    rw [exT_enc] at this
    exact this
  have HD : Hid (∀ W, Calls Try.prog 11 #[.string ⟨#[107]⟩] W fun e w' => e = .returned (.tuple #[.string ⟨#[4, 1, 107]⟩, .int .i64 0]) ∧ Only (fun _ => False) W w') := fun W => by
    have := udead_any ⟨#[107]⟩ W
    exact this
  have H1 : Hid (∀ W, Calls Try.prog 19 #[.string ⟨#[1, 0, 3, 0, 0, 1, 107, 2, 118, 118]⟩] W fun e w' => e = .returned (.int .u8 3) ∧ Only (fun _ => False) W w') := fun W => by
    have := ustate_any ⟨#[1, 0, 3, 0, 0, 1, 107, 2, 118, 118]⟩ W
    rw [show bl ⟨#[1, 0, 3, 0, 0, 1, 107, 2, 118, 118]⟩ = exT.enc from rfl, st_enc exT_ok] at this
    exact this
  have H2 : Hid (∀ W, Calls Try.prog 19 #[.string ⟨#[4, 1, 107]⟩] W fun e w' => e = .returned (.int .u8 2) ∧ Only (fun _ => False) W w') := fun W => by
    have := ustate_any ⟨#[4, 1, 107]⟩ W
    rw [show bl ⟨#[4, 1, 107]⟩ = dlay ⟨#[107]⟩ from rfl, st_dead rfl] at this
    exact this
  have H3 : Hid (∀ W, Calls Try.prog 19 #[.string ⟨#[5]⟩] W fun e w' => e = .returned (.int .u8 0) ∧ Only (fun _ => False) W w') := fun W => by
    have := ustate_any ⟨#[5]⟩ W
    rw [show bl ⟨#[5]⟩ = [5] from rfl, st_five] at this
    exact this
  have H4 : Hid (∀ W, Calls Try.prog 19 #[.string ⟨#[]⟩] W fun e w' => e = .returned (.int .u8 1) ∧ Only (fun _ => False) W w') := fun W => ustate_any ⟨#[]⟩ W
  go_enter Try.func14, Try.ntmps14
  go_wp2_with fail
  refine (HE.out _).mono ?_
  rintro e w1 ⟨rfl, ho⟩
  have HO := hide ho
  clear ho
  go_wp2_with fail
  refine (HD.out _).mono ?_
  rintro e w2 ⟨rfl, ho⟩
  have HO := hide (o2 HO.out ho)
  clear ho
  go_wp2_with fail
  refine (H1.out _).mono ?_
  rintro e w3 ⟨rfl, ho⟩
  have HO := hide (o2 HO.out ho)
  clear ho
  go_wp2_with fail
  refine (H2.out _).mono ?_
  rintro e w4 ⟨rfl, ho⟩
  have HO := hide (o2 HO.out ho)
  clear ho
  go_wp2_with fail
  refine (H3.out _).mono ?_
  rintro e w5 ⟨rfl, ho⟩
  have HO := hide (o2 HO.out ho)
  clear ho
  go_wp2_with fail
  refine (H4.out _).mono ?_
  rintro e w6 ⟨rfl, ho⟩
  have HO := hide (o2 HO.out ho)
  clear ho
  go_wp2_with fail
  go_ret
  exact ⟨rfl, HO.out⟩
end Go.Proofs.Ythcpmcpgbipgoaa
