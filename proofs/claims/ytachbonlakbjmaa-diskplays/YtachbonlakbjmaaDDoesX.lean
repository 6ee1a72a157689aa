/- Any act: both disks do the same. -/
import Derived.Test.YtachbonlakbjmaaDOpenA
namespace Go.Proofs.Ytachbonlakbjmaa
open Go.RowKit

theorem writes_len (D : Dk) (k : Nat) (l : List (List UInt8)) : (D.writes k l).1.old.length = D.old.length := by
  induction l generalizing D k with
  | nil => rfl
  | cons b r ih =>
    unfold Dk.writes
    split
    · rfl
    · rw [ih]; rfl
theorem write_len (D : Dk) (a : Int) (l : List UInt8) : (D.write a l).1.old.length = D.old.length := by
  unfold Dk.write
  split
  · rfl
  · split
    · exact writes_len D _ _
    · rfl
theorem sync_len (D : Dk) : D.sync.1.old.length = D.old.length := by
  unfold Dk.sync
  split
  · rfl
  · split
    · rfl
    · simp [Dk.synced, Dk.act]
theorem arm_len (D : Dk) (n : Int) : (D.arm n).1.old.length = D.old.length := by
  unfold Dk.arm
  split
  · rfl
  · split <;> rfl
theorem does_any (w : World) (d g m x a b c ka kb kc : Nat) (D : Dk) (h : Both w d g m x a b c ka kb kc D) (z : Ac) (hz : z.ok w) (hB : 0 < z.how.length → ¬ bown d g m x a b c z.B) :
    Calls Try.prog 8 #[.pointer (some ⟨d, 0, none⟩), .pointer (some ⟨x, 0, none⟩), .agg #[.int .u8 z.wh, .int .i64 z.at_, .int .i64 z.many, .int .i64 z.fill, .bool z.odd, .slice z.ao z.how.length z.cp]] w fun e w' => e = .returned (.bool true) ∧ (∃ D', Both w' d g m x a b c ka kb kc D' ∧ D'.old.length = D.old.length) ∧ Only (bown d g m x a b c) w w' := by
  obtain ⟨h0, h1⟩ := hz.wh
  have hc : z.wh % 6 = 0 ∨ z.wh % 6 = 1 ∨ z.wh % 6 = 2 ∨ z.wh % 6 = 3 ∨ z.wh % 6 = 4 ∨ z.wh % 6 = 5 := by omega
  rcases hc with hc | hc | hc | hc | hc | hc
  · refine (does_write w d g m x a b c ka kb kc D h z.wh z.at_ z.many z.fill z.odd _ ⟨_, _, _, rfl⟩ (by simp [hc]) h0 h1 hz.at_).mono ?_
    rintro e w' ⟨he, ⟨l, hb⟩, ho⟩
    exact ⟨he, ⟨_, hb, write_len D z.at_ l⟩, ho⟩
  · refine (does_sync w d g m x a b c ka kb kc D h z.wh z.at_ z.many z.fill z.odd _ (by simp [hc]) h0 h1).mono ?_
    rintro e w' ⟨he, hb, ho⟩
    exact ⟨he, ⟨_, hb, sync_len D⟩, ho⟩
  · refine (does_read w d g m x a b c ka kb kc D h z.wh z.at_ z.many z.fill z.odd _ (by simp [hc]) h0 h1 hz.at_).mono ?_
    rintro e w' ⟨he, hb, ho⟩
    exact ⟨he, ⟨_, hb, rfl⟩, ho⟩
  · refine (does_arm w d g m x a b c ka kb kc D h z.wh z.at_ z.many z.fill z.odd _ (by simp [hc]) h0 h1 hz.at_.2).mono ?_
    rintro e w' ⟨he, hb, ho⟩
    exact ⟨he, ⟨_, hb, arm_len D z.at_⟩, ho⟩
  · refine (does_crash w d g m x a b c ka kb kc D h z.wh z.at_ z.many z.fill z.odd z.B z.cp z.ao z.how hz.how hz.nil hz.len hB (by simp [hc]) h0 h1).mono ?_
    rintro e w' ⟨he, hb, ho⟩
    exact ⟨he, ⟨_, hb, by simp [Dk.crash, falls_len]⟩, ho⟩
  · refine (does_pend w d g m x a b c ka kb kc D h z.wh z.at_ z.many z.fill z.odd _ (by simp [hc]) h0 h1).mono ?_
    rintro e w' ⟨he, hb, ho⟩
    exact ⟨he, ⟨_, hb, rfl⟩, ho⟩
end Go.Proofs.Ytachbonlakbjmaa
