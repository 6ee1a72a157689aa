/- A map that was made since the call began; the law's own example. -/
import Derived.Test.YtahmmhmahglonaaESort
import Derived.Test.YtahmmhmahglonaaEOpen
namespace Go.Proofs.Ytahmmhmahglonaa
open Go.RowKit Go.Maps

structure Sk (w W : World) (t m n : Nat) (f : Kn) : Prop where
  sp : Spm W t m n f
  only : Only (fun _ => False) w W
  lt0 : w.heap.size ≤ t
  lt1 : w.heap.size ≤ m
theorem Sk.more {w W W' : World} {t m n : Nat} {f : Kn} (H : Sk w W t m n f) (ho : Only (fun _ => False) W W') : Sk w W' t m n f :=
  ⟨H.sp.more ho, H.only.trans ho (fun _ _ h => h), H.lt0, H.lt1⟩
theorem Sk.mono {w W : World} {t m n n' : Nat} {f : Kn} (H : Sk w W t m n f) (hn : n ≤ n') : Sk w W t m n' f := ⟨H.sp.mono hn, H.only, H.lt0, H.lt1⟩
theorem Sk.did {w W W' : World} {t m n n' : Nat} {f g : Kn} (H : Sk w W t m n f) (hT : Spm W' t m n' g) (ho : Only (fun i => i = m) W W') : Sk w W' t m n' g :=
  ⟨hT, H.only.trans ho (fun i hi e => by subst e; exact absurd H.lt1 (by omega)), H.lt0, H.lt1⟩
theorem sk_new (w : World) : Calls Try.prog 7 #[] w fun e w' => ∃ t m, e = .returned (.pointer (some ⟨t, 0, none⟩)) ∧ Sk w w' t m 0 Kn.none := by
  refine (enew_any w).mono ?_
  rintro e w' ⟨t, m, rfl, h0, h1, hT, hO⟩
  exact ⟨t, m, rfl, hT, hO, h0, h1⟩
theorem sk_set {w W : World} {t m n : Nat} {f : Kn} (H : Sk w W t m n f) (p r : Int) (hp : N64 p) (hn : n < maxLen) : Calls Try.prog 11 #[.pointer (some ⟨t, 0, none⟩), .int .i64 p, .int .i64 r] W fun e w' =>
    e = .returned (.tuple #[]) ∧ Sk w w' t m (n + 1) (f.set p r) ∧ Only (fun i => i = m) W w' := by
  refine (eset_any W t m n f H.sp p r hp hn).mono ?_
  rintro e w' ⟨rfl, h1, h2⟩
  exact ⟨rfl, H.did h1 h2, h2⟩
theorem sk_drop {w W : World} {t m n : Nat} {f : Kn} (H : Sk w W t m n f) (p : Int) (hp : N64 p) : Calls Try.prog 9 #[.pointer (some ⟨t, 0, none⟩), .int .i64 p] W fun e w' =>
    e = .returned (.tuple #[]) ∧ Sk w w' t m (n + 1) (f.drop p) ∧ Only (fun i => i = m) W w' := by
  refine (edrop_any W t m n f H.sp p hp).mono ?_
  rintro e w' ⟨rfl, h1, h2⟩
  exact ⟨rfl, (H.did h1 h2).mono (by omega), h2⟩
theorem sk_room {w W : World} {t m n : Nat} {f : Kn} (H : Sk w W t m n f) (p : Int) (hp : N64 p) : Calls Try.prog 15 #[.pointer (some ⟨t, 0, none⟩), .int .i64 p] W fun e w' =>
    e = .returned (.tuple #[.int .i64 ((f p).getD 0), .bool (f p).isSome]) ∧ w' = W := eroom_any W t m n f H.sp p hp
theorem sk_find {w W : World} {t m n : Nat} {f : Kn} (H : Sk w W t m n f) (room : Int) : Calls Try.prog 13 #[.pointer (some ⟨t, 0, none⟩), .int .i64 room] W fun e w' =>
    ∃ p ok, e = .returned (.tuple #[.int .i64 p, .bool ok]) ∧ FdIs f room p ok ∧ Sk w w' t m n f ∧ Only (fun _ => False) W w' := by
  refine (efind_any W t m n f H.sp room).mono ?_
  rintro e w' ⟨p, ok, rfl, h1, h2⟩
  exact ⟨p, ok, rfl, h1, H.more h2, h2⟩
theorem sk_pages {w W : World} {t m n : Nat} {f : Kn} (H : Sk w W t m n f) (hn : n ≤ 5864062014700) : Calls Try.prog 17 #[.pointer (some ⟨t, 0, none⟩)] W fun e w' =>
    ∃ ao cp L, e = .returned (.slice ao L.length cp) ∧ PgIs f L ∧ IRow w' W.heap.size (.slice ao L.length cp) L ∧ L.length ≤ n ∧ Sk w w' t m n f ∧ Only (fun _ => False) W w' := by
  refine (epages_any W t m n f H.sp hn).mono ?_
  rintro e w' ⟨ao, cp, L, rfl, h1, h2, h3, h4⟩
  exact ⟨ao, cp, L, rfl, h1, h2, h3, H.more h4, h4⟩
def ex2 : Kn := (Kn.none.set 5 100).set 3 10
theorem ex_at {x b : Int} (h : ex2 x = some b) : (x = 3 ∧ b = 10) ∨ (x = 5 ∧ b = 100) := by
  unfold ex2 Kn.set Kn.none at h
  split at h
  · cases h; exact .inl ⟨by assumption, rfl⟩
  · split at h
    · cases h; exact .inr ⟨by assumption, rfl⟩
    · cases h
theorem ex_11 : FdIs ex2 11 5 true := ⟨(fun h => by cases h), fun _ => ⟨⟨100, by decide, by decide⟩, fun x b h1 h2 => by rcases ex_at h1 with ⟨h, k⟩ | ⟨h, k⟩ <;> omega⟩⟩
theorem ex_10 : FdIs ex2 10 3 true := ⟨(fun h => by cases h), fun _ => ⟨⟨10, by decide, by decide⟩, fun x b h1 h2 => by rcases ex_at h1 with ⟨h, k⟩ | ⟨h, k⟩ <;> omega⟩⟩
theorem ex_101 : FdIs ex2 101 0 false := ⟨fun _ => ⟨rfl, fun x b h1 => by rcases ex_at h1 with ⟨h, k⟩ | ⟨h, k⟩ <;> omega⟩, (fun h => by cases h)⟩
theorem ex_find {w W : World} {t m n : Nat} (H : Sk w W t m n ex2) {room p : Int} {ok : Bool} (h : FdIs ex2 room p ok) : Calls Try.prog 13 #[.pointer (some ⟨t, 0, none⟩), .int .i64 room] W fun e w' =>
    e = .returned (.tuple #[.int .i64 p, .bool ok]) ∧ Sk w w' t m n ex2 := by
  refine (sk_find H room).mono ?_
  rintro e w' ⟨q, also, rfl, h1, h2, _⟩
  obtain ⟨rfl, rfl⟩ := h.one h1
  exact ⟨rfl, h2⟩
set_option maxRecDepth 100000 in
set_option maxHeartbeats 1600000 in
theorem eawake_any (w : World) : Calls Try.prog 20 #[] w fun e w' => e = .returned (.bool true) ∧ Only (fun _ => False) w w' := by
  have HC1 := hide (fun (W : World) t m (H : Sk w W t m 0 Kn.none) => sk_set H 5 100 (by unfold N64; omega) (by unfold maxLen; omega))
  have HC2 := hide (fun (W : World) t m (H : Sk w W t m (0 + 1) (Kn.none.set 5 100)) => sk_set H 3 10 (by unfold N64; omega) (by unfold maxLen; omega))
  go_enter Try.func20, Try.ntmps20
  go_wp2_with fail
  refine (sk_new w).mono ?_
  rintro e w1 ⟨t, m, rfl, H1⟩
  have HH := hide H1
  clear H1
  go_wp2_with fail
  refine (HC1.out _ _ _ HH.out).mono ?_
  clear HH
  rintro e w2 ⟨rfl, H1, _⟩
  have HH := hide H1
  clear H1
  go_wp2_with fail
  refine (HC2.out _ _ _ HH.out).mono ?_
  clear HH
  rintro e w3 ⟨rfl, H1, _⟩
  have HH : Hid (Sk w w3 t m (0 + 1 + 1) ex2) := H1
  clear H1 HC1 HC2
  go_wp2_with fail
  refine (ex_find HH.out ex_11).mono ?_
  clear HH
  rintro e w4 ⟨rfl, H1⟩
  have HH := hide H1
  clear H1
  go_wp2_with fail
  refine (ex_find HH.out ex_10).mono ?_
  clear HH
  rintro e w5 ⟨rfl, H1⟩
  have HH := hide H1
  clear H1
  go_wp2_with fail
  refine (ex_find HH.out ex_101).mono ?_
  clear HH
  rintro e w6 ⟨rfl, H1⟩
  have HO := hide H1.only
  clear H1
  go_wp2_with fail
  go_ret
  exact ⟨rfl, HO.out⟩
end Go.Proofs.Ytahmmhmahglonaa
