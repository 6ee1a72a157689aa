/- What Decode does. -/
import Derived.Test.YtbfafijfhaejmaaGreatDoorPParts
import Derived.Deep.QuietTactic
import Derived.BigQuiet
namespace Go.Proofs.YtbfafijfhaejmaaGreatDoor
open Go.RowKit

theorem dw_nil (c : UInt8) (l : List UInt8) : l.dropWhile (· == c) = [] ↔ ∀ x ∈ l, x = c := by
  induction l with
  | nil => simp
  | cons a t ih =>
    by_cases h : a = c
    · subst h; simpa using ih
    · simp [h]
theorem dw_head (c : UInt8) (l : List UInt8) : l.dropWhile (· == c) = [] ∨ ∃ a t, l.dropWhile (· == c) = a :: t ∧ a ≠ c := by
  induction l with
  | nil => exact .inl rfl
  | cons a t ih =>
    by_cases h : a = c
    · subst h; simpa using ih
    · exact .inr ⟨a, t, by simp [h], h⟩
theorem trim_iff (l : List UInt8) : Lib.trimB l 0 = [] ↔ l = List.replicate l.length 0 := by
  unfold Lib.trimB Lib.trimLeftB Lib.trimRightB
  rw [dw_nil]
  constructor
  · intro h
    rcases dw_head 0 l.reverse with h1 | ⟨a, t, h1, h2⟩
    · rw [dw_nil] at h1
      exact List.eq_replicate_of_mem (fun x hx => h1 x (by simpa using hx))
    · exact absurd (h a (by rw [h1]; simp)) h2
  · intro h x hx
    have h1 : ∀ y ∈ l.reverse, y = 0 := fun y hy => by
      rw [h] at hy
      simp at hy
      exact hy.2
    have h2 := (dw_nil 0 l.reverse).2 h1
    rw [h2] at hx
    simp at hx
theorem idx {s : ByteArray} {i : Nat} (h : i < s.size) : s[i] = (bl s).getD i 0 := by
  have h' : i < (bl s).length := by rw [bl_len]; exact h
  rw [List.getD_eq_getElem?_getD, List.getElem?_eq_getElem h']
  rfl
/-- What parts answers. -/
structure PaQ (w w' : World) (e : Ending) (D : List UInt8) : Prop where
  only : Only (fun _ => False) w w'
  bad : (∀ p t, pre D = some (p, t) → ¬ ((D.getD 0 0).toNat ≤ 127 ∧ (1 ≤ p.kind ∧ p.kind ≤ 3))) → ∃ (u0 u1 u2 u3 : Int) (u4 s : ByteArray), e = .returned (.tuple #[.agg #[.int .i64 u0, .int .i64 u1, .int .i64 u2, .int .i64 u3, .string u4, .slice none 0 0], .string s, .bool false])
  good : ∀ p t, pre D = some (p, t) → (D.getD 0 0).toNat ≤ 127 ∧ (1 ≤ p.kind ∧ p.kind ≤ 3) → ∃ B ao cp, e = .returned (.tuple #[.agg #[.int .i64 p.lsn, .int .i64 p.kind, .int .i64 p.level, .int .i64 p.right, .string p.high, .slice ao p.items.length cp], .string (str t), .bool true]) ∧ Strs w' B ao p.items ∧ Fit ao p.items.length cp ∧ (0 < p.items.length → w.heap.size ≤ B)
theorem parts_list (w : World) (D : ByteArray) (hD : D.size = 508) : Calls Tryz.prog 85 #[.string D] w fun e w' => PaQ w w' e (bl D) := by
  have L : (bl D).length = 508 := by rw [bl_len]; exact hD
  obtain ⟨Dl, hDl⟩ : ∃ Dl, bl D = Dl := ⟨_, rfl⟩
  rw [hDl] at L ⊢
  have bA1 : bl (D.extract 0 8) = Dl.take 8 := by rw [ext_bl, hDl, List.drop_zero]
  have bD1 : bl (D.extract 8 D.size) = Dl.drop 8 := by rw [ext_bl, hDl, List.take_of_length_le (by omega)]
  obtain ⟨A1, hA1⟩ : ∃ A1, D.extract 0 8 = A1 := ⟨_, rfl⟩
  obtain ⟨D1, hD1⟩ : ∃ D1, D.extract 8 D.size = D1 := ⟨_, rfl⟩
  rw [hA1] at bA1
  rw [hD1] at bD1
  have sA1 : A1.size = 8 := by rw [← bl_len, bA1]; simp [L]
  have sD1 : D1.size = 500 := by rw [← bl_len, bD1]; simp [L]
  have bD2 : bl (D1.extract 2 D1.size) = Dl.drop 10 := by rw [ext_bl, List.take_of_length_le (by rw [bl_len]; exact Nat.le_refl _), bD1, List.drop_drop]
  obtain ⟨D2, hD2⟩ : ∃ D2, D1.extract 2 D1.size = D2 := ⟨_, rfl⟩
  rw [hD2] at bD2
  have sD2 : D2.size = 498 := by rw [← bl_len, bD2]; simp [L]
  have bA4 : bl (D2.extract 0 4) = (Dl.drop 10).take 4 := by rw [ext_bl, bD2, List.drop_zero]
  have bD3 : bl (D2.extract 4 D2.size) = Dl.drop 14 := by rw [ext_bl, List.take_of_length_le (by rw [bl_len]; exact Nat.le_refl _), bD2, List.drop_drop]
  obtain ⟨A4, hA4⟩ : ∃ A4, D2.extract 0 4 = A4 := ⟨_, rfl⟩
  obtain ⟨D3, hD3⟩ : ∃ D3, D2.extract 4 D2.size = D3 := ⟨_, rfl⟩
  rw [hA4] at bA4
  rw [hD3] at bD3
  have sA4 : A4.size = 4 := by rw [← bl_len, bA4]; simp [L]
  have sD3 : D3.size = 494 := by rw [← bl_len, bD3]; simp [L]
  have bD4 : bl (D3.extract 2 D3.size) = Dl.drop 16 := by rw [ext_bl, List.take_of_length_le (by rw [bl_len]; exact Nat.le_refl _), bD3, List.drop_drop]
  obtain ⟨D4, hD4⟩ : ∃ D4, D3.extract 2 D3.size = D4 := ⟨_, rfl⟩
  rw [hD4] at bD4
  have sD4 : D4.size = 492 := by rw [← bl_len, bD4]; simp [L]
  have x8 : D1[0]'(by omega) = Dl.getD 8 0 := by rw [idx, bD1]; simp [List.getD_eq_getElem?_getD]
  have x9 : D1[1]'(by omega) = Dl.getD 9 0 := by rw [idx, bD1]; simp [List.getD_eq_getElem?_getD]
  have x14 : D3[0]'(by omega) = Dl.getD 14 0 := by rw [idx, bD3]; simp [List.getD_eq_getElem?_getD]
  have x15 : D3[1]'(by omega) = Dl.getD 15 0 := by rw [idx, bD3]; simp [List.getD_eq_getElem?_getD]
  have x0 : A1[0]'(by omega) = Dl.getD 0 0 := by rw [idx, bA1]; simp [List.getD_eq_getElem?_getD]
  have hr := ofTo_small ((Dl.drop 10).take 4) (by simp; omega)
  have l4 : ((Dl.drop 10).take 4).length = 4 := by simp [L]
  rw [l4] at hr
  have h4 : (256 : Int) ^ 4 = 4294967296 := by decide
  have bH : bl (D4.extract 0 (Dl.getD 15 0).toNat) = (Dl.drop 16).take (Dl.getD 15 0).toNat := by rw [ext_bl, bD4, List.drop_zero]
  have bD5 : bl (D4.extract (Dl.getD 15 0).toNat D4.size) = (Dl.drop 16).drop (Dl.getD 15 0).toNat := by rw [ext_bl, List.take_of_length_le (by rw [bl_len]; exact Nat.le_refl _), bD4]
  have key := parts_any w D D1 D2 D3 D4 A1 A4 (Dl.getD 8 0) (Dl.getD 9 0) (Dl.getD 14 0) (Dl.getD 15 0) hD hA1 hD1 sD1 sA1 (by omega) (by omega) x8 x9 hD2 sD2 hA4 sA4 hD3 sD3 (by omega) (by omega) x14 x15 hD4 sD4
    (Dl.getD 0 0) (by omega) x0 (ofTo (Dl.take 8) % 9223372036854775808) (ofTo ((Dl.drop 10).take 4) % 9223372036854775808) (by rw [bA1]) (by rw [bA4]) (by omega)
    (D4.extract 0 (Dl.getD 15 0).toNat) (D4.extract (Dl.getD 15 0).toNat D4.size) rfl rfl (by rw [← bl_len, bD5]; simp [L]; omega)
  rw [bD5] at key
  have eH : D4.extract 0 (Dl.getD 15 0).toNat = str ((Dl.drop 16).take (Dl.getD 15 0).toNat) := by rw [← bH, str_bl]
  rw [eH] at key
  refine Calls.mono key ?_
  intro e w' h
  refine ⟨h.only, fun hb => h.bad ?_, fun p t hp hk => ?_⟩
  · cases ho : takeI (Dl.getD 14 0).toNat ((Dl.drop 16).drop (Dl.getD 15 0).toNat) with
    | none => exact .inr rfl
    | some q =>
      obtain ⟨l, t⟩ := q
      left
      intro hk
      refine hb _ t (by unfold pre; rw [ho]) ⟨hk.1, ?_, ?_⟩
      · show (1 : Int) ≤ ((Dl.getD 8 0).toNat : Int); omega
      · show ((Dl.getD 8 0).toNat : Int) ≤ 3; omega
  · unfold pre at hp
    cases ho : takeI (Dl.getD 14 0).toNat ((Dl.drop 16).drop (Dl.getD 15 0).toNat) with
    | none => rw [ho] at hp; cases hp
    | some q =>
      obtain ⟨l, t'⟩ := q
      rw [ho] at hp
      simp only [Option.some.injEq, Prod.mk.injEq] at hp
      obtain ⟨rfl, rfl⟩ := hp
      simp only at hk
      exact h.good ⟨hk.1, by omega, by omega⟩ l t' ho
end Go.Proofs.YtbfafijfhaejmaaGreatDoor
