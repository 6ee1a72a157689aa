/- What logged and Logged do. -/
import Derived.Test.YtmcghpeamnmbpaaOFind
namespace Go.Proofs.Ytmcghpeamnmbpaa
open Go.RowKit Go.Maps

set_option maxRecDepth 100000 in
set_option maxHeartbeats 800000 in
theorem log_any (w : World) (b : Nat) (s : Sp) (x : Tx) (H : Txm w b s x) (hu : 0 ≤ x.und ∧ x.und < 9223372036854775807) (l : Int) (u : Bool) :
    Calls Try.prog 36 #[.pointer (some ⟨b, 0, none⟩), .int .i64 l, .bool u] w fun e w' => e = .returned (.tuple #[]) ∧ Txm w' b s (x.log l u) ∧ Only (fun i => i = b) w w' := by
  have c3 := H.c3
  have c4 := H.c4
  have c5 := H.c5
  have f3 := Cb.f H 3
  have f4 := Cb.f H 4
  have f5 := Cb.f H 5
  have HH := hide H
  have hu1 := hu.1
  have hu2 := hu.2
  clear H hu
  unfold Tx.log
  obtain ⟨nx, act, xi, fi, la, un⟩ := x
  simp only at c3 c4 c5 hu1 hu2 ⊢
  have hc : Cb w b [.int .i64 nx, .slice s.ao act.length s.cp, .int .i64 xi, .int .i64 fi, .int .i64 la, .int .i64 un] := HH.out
  have HC := hide hc
  clear hc HH
  by_cases h0 : fi = 0
  · subst h0
    cases u
    · go_enter Try.func36, Try.ntmps36
      go_wp2_with fail
      refine bodyPost_end (results_none rfl _ _ _) rfl ?_
      exact ⟨rfl, (HC.out.set 3 _).set 4 _, (Only.put _ _ _ _).puts _ _⟩
    · go_enter Try.func36, Try.ntmps36
      go_wp2_with fail
      refine bodyPost_end (results_none rfl _ _ _) rfl ?_
      exact ⟨rfl, ((HC.out.set 3 _).set 4 _).set 5 _, ((Only.put _ _ _ _).puts _ _).puts _ _⟩
  · have hb : (fi == 0) = false := by simp [h0]
    simp only [if_neg h0]
    have H0 := hide h0
    clear h0
    cases u
    · go_enter Try.func36, Try.ntmps36
      go_wp2_with fail
      refine bodyPost_end (results_none rfl _ _ _) rfl ?_
      exact ⟨rfl, HC.out.set 4 _, Only.put _ _ _ _⟩
    · go_enter Try.func36, Try.ntmps36
      go_wp2_with fail
      refine bodyPost_end (results_none rfl _ _ _) rfl ?_
      exact ⟨rfl, (HC.out.set 4 _).set 5 _, (Only.put _ _ _ _).puts _ _⟩
theorem logged_nil (w : World) (a l : Int) (u : Bool) : Calls Try.prog 14 #[.pointer none, .int .i64 a, .int .i64 l, .bool u] w fun e w' => e = .returned (.int .i64 2) ∧ w' = w := by
  go_enter Try.func14, Try.ntmps14
  go_wp2_with fail
  refine (find_nil _ a).mono ?_
  rintro e w1 ⟨rfl, rfl⟩
  go_wp2_with fail
  go_ret
  exact ⟨rfl, rfl⟩
set_option maxRecDepth 100000 in
set_option maxHeartbeats 800000 in
theorem logged_any (w : World) (Z : Nat → Prop) (t m n : Nat) (g : Gm) (f : Tt) (H : Tabg w Z t m n g f) (hn : n < 9223372036854775807) (a : Int) (ha : N64 a) (l : Int) (u : Bool) : Calls Try.prog 14 #[.pointer (some ⟨t, 0, none⟩), .int .i64 a, .int .i64 l, .bool u] w fun e w' =>
    e = .returned (.int .i64 (logE f a l)) ∧ Tab w' Z t m (n + 1) (logF f a l u) ∧ Only Z w w' := by
  unfold logE logF
  cases hf : f a with
  | none =>
    have HC := hide (find_no _ Z t m n g f H a ha hf)
    have HH := hide H
    clear H ha hf
    simp only
    go_enter Try.func14, Try.ntmps14
    go_wp2_with fail
    refine HC.out.mono ?_
    rintro e w1 ⟨rfl, rfl⟩
    go_wp2_with fail
    go_ret
    exact ⟨rfl, ⟨g, HH.out.mono (by omega)⟩, Only.refl _ _⟩
  | some x =>
    simp only
    obtain ⟨b, s, hg, hx, hnm, hz, hbt, hbm⟩ := H.yes hf
    have HC := hide (find_yes _ Z t m n g f H a ha b hg)
    have HX := hide (hasXid_any w b s x hx)
    have hund := H.ok.und a x hf
    have HL := hide (log_any w b s x hx ⟨hund.1, by omega⟩ l u)
    have c4 := hx.c4
    have HH := hide H
    have HK : Hid (¬ (x.xid = 0 ∨ l ≤ x.lst) → ∀ w', Txm w' b s (x.log l u) → Only (fun i => i = b) w w' → Tab w' Z t m (n + 1) (f.set a (x.log l u))) := fun hc w' hy ho => by
      refine ⟨g, H.mod (Nat.le_succ n) hf hg ho hy rfl hnm ?_⟩
      have := logF_ok H.ok a l u
      unfold logF at this
      rw [hf] at this
      simp only [if_neg hc] at this
      exact this
    have HZ := hide hz
    obtain ⟨la, hla⟩ : ∃ z, x.lst = z := ⟨_, rfl⟩
    rw [hla] at c4 HK ⊢
    clear H ha hf hg hx hnm hz hbt hbm hund hla
    by_cases h0 : x.xid = 0
    · have hb : (x.xid != 0) = false := by simp [h0]
      simp only [hb] at HX
      simp only [h0, true_or, if_true]
      clear hb h0 HK
      go_enter Try.func14, Try.ntmps14
      go_wp2_with fail
      refine HC.out.mono ?_
      rintro e w1 ⟨rfl, rfl⟩
      go_wp2_with fail
      refine HX.out.mono ?_
      rintro e w1 ⟨rfl, rfl⟩
      go_wp2_with fail
      go_ret
      exact ⟨rfl, ⟨g, HH.out.mono (by omega)⟩, Only.refl _ _⟩
    · have hb : (x.xid != 0) = true := by simp [h0]
      simp only [hb] at HX
      simp only [h0, false_or] at HK ⊢
      clear hb h0
      by_cases hl : l ≤ la
      · simp only [if_pos hl]
        go_enter Try.func14, Try.ntmps14
        go_wp2_with fail
        refine HC.out.mono ?_
        rintro e w1 ⟨rfl, rfl⟩
        go_wp2_with fail
        refine HX.out.mono ?_
        rintro e w1 ⟨rfl, rfl⟩
        go_wp2_with fail
        go_ret
        exact ⟨rfl, ⟨g, HH.out.mono (by omega)⟩, Only.refl _ _⟩
      · simp only [if_neg hl]
        go_enter Try.func14, Try.ntmps14
        go_wp2_with fail
        refine HC.out.mono ?_
        rintro e w1 ⟨rfl, rfl⟩
        go_wp2_with fail
        refine HX.out.mono ?_
        rintro e w1 ⟨rfl, rfl⟩
        go_wp2_with fail
        refine HL.out.mono ?_
        rintro e w1 ⟨rfl, hy, ho⟩
        have HY := hide hy
        have HO := hide ho
        clear hy ho
        go_wp2_with fail
        go_ret
        exact ⟨rfl, HK.out hl _ HY.out HO.out, HO.out.mono (fun i _ e => by rw [e]; exact HZ.out)⟩
end Go.Proofs.Ytmcghpeamnmbpaa
