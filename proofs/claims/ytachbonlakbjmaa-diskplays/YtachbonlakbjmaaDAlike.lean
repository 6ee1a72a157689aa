/- What two disks over one plain disk tell: the small contracts over a world that only grew. -/
import Derived.Test.YtachbonlakbjmaaDData
import Derived.Deep.DeepCutAuto
import Derived.Deep.RegionWith
namespace Go.Proofs.Ytachbonlakbjmaa
open Go.RowKit

theorem c_size {w W : World} {d g m : Nat} {D : Dk} (h : Dsk w d g m D) (HO : Hid (Only (fun _ => False) w W)) :
    Calls Try.prog 30 #[.pointer (some ⟨d, 0, none⟩)] W fun e w' => e = .returned (.int .i64 (D.old.length : Int)) ∧ Hid (Only (fun _ => False) w w') :=
  (size_any W d g m D (h.same HO.out)).mono (by rintro e w' ⟨rfl, rfl⟩; exact ⟨rfl, HO⟩)
theorem c_dead {w W : World} {d g m : Nat} {D : Dk} (h : Dsk w d g m D) (HO : Hid (Only (fun _ => False) w W)) :
    Calls Try.prog 29 #[.pointer (some ⟨d, 0, none⟩)] W fun e w' => e = .returned (.bool D.dead) ∧ Hid (Only (fun _ => False) w w') :=
  (dead_any W d g m D (h.same HO.out)).mono (by rintro e w' ⟨rfl, rfl⟩; exact ⟨rfl, HO⟩)
theorem c_acts {w W : World} {d g m : Nat} {D : Dk} (h : Dsk w d g m D) (HO : Hid (Only (fun _ => False) w W)) :
    Calls Try.prog 16 #[.pointer (some ⟨d, 0, none⟩)] W fun e w' => e = .returned (.int .i64 D.acts) ∧ Hid (Only (fun _ => False) w w') :=
  (acts_any W d g m D (h.same HO.out)).mono (by rintro e w' ⟨rfl, rfl⟩; exact ⟨rfl, HO⟩)
/-- Numbers behind a slice, whatever has come since. -/
def Nums (w : World) (v : Value) (l : List Int) : Prop := ∃ B ao cp, v = .slice ao l.length cp ∧ Ints w B ao l
theorem Nums.same {w w' : World} {v : Value} {l : List Int} (h : Nums w v l) (ho : Only (fun _ => False) w w') : Nums w' v l := by
  obtain ⟨B, ao, cp, rfl, hi⟩ := h
  exact ⟨B, ao, cp, rfl, hi.kept ho (fun _ h => h)⟩
def Dk.pints (D : Dk) : List Int := D.pend.map fun k : Nat => (k : Int)
theorem nums_of {w : World} {base : Nat} {v : Value} {D : Dk} (h : w.ownsRow base 3 1 v D.pend.length (icells D.pend)) (hl : ∀ k ∈ D.pend, k < 65536) (hn : D.pend.length ≤ 65536) : Nums w v D.pints := by
  obtain ⟨B, ao, cp, hv, hi, _⟩ := ints_of_owns h hl hn
  exact ⟨B, ao, cp, hv, hi⟩
theorem c_pending {w W : World} {d g m : Nat} {D : Dk} (h : Dsk w d g m D) (hl : ∀ k ∈ D.pend, k < 65536) (hn : D.pend.length ≤ 65536) (HO : Hid (Only (fun _ => False) w W)) :
    Calls Try.prog 25 #[.pointer (some ⟨d, 0, none⟩)] W fun e w' => ∃ v, e = .returned v ∧ Hid (Nums w' v D.pints) ∧ Hid (Only (fun _ => False) w w') :=
  (pending_any W d g m D (h.same HO.out)).mono (by rintro e w' ⟨gg, cap, rfl, ho, hO⟩; exact ⟨_, rfl, hide (nums_of ho hl hn), hide (HO.out.trans hO (fun _ _ h => h))⟩)
theorem c_xpending {w W : World} {x a b c ka kb kc : Nat} {D : Dk} {u : Value} (h : Xd w x a b c ka kb kc D) (hl : ∀ k ∈ D.pend, k < 65536) (hn : D.pend.length ≤ 65536) (HN : Hid (Nums W u D.pints)) (HO : Hid (Only (fun _ => False) w W)) :
    Calls Try.prog 27 #[.pointer (some ⟨x, 0, none⟩)] W fun e w' => ∃ v, e = .returned v ∧ Hid (Nums w' v D.pints) ∧ Hid (Nums w' u D.pints) ∧ Hid (Only (fun _ => False) w w') :=
  (xpending_any W x a b c ka kb kc D (h.same HO.out)).mono (by rintro e w' ⟨v, rfl, ho, hO⟩; exact ⟨_, rfl, hide (nums_of ho hl hn), hide (HN.out.same hO), hide (HO.out.trans hO (fun _ _ h => h))⟩)
theorem c_sameInts {w W : World} {u v : Value} {l : List Int} (h1 : Hid (Nums W u l)) (h2 : Hid (Nums W v l)) (HO : Hid (Only (fun _ => False) w W)) :
    Calls Try.prog 26 #[u, v] W fun e w' => e = .returned (.bool true) ∧ Hid (Only (fun _ => False) w w') := by
  obtain ⟨B1, a1, c1, rfl, i1⟩ := h1.out
  obtain ⟨B2, a2, c2, rfl, i2⟩ := h2.out
  exact (sameInts_true W B1 B2 c1 c2 a1 a2 l i1 i2).mono (by rintro e w' ⟨rfl, hO⟩; exact ⟨rfl, hide (HO.out.trans hO (fun _ _ h => h))⟩)
theorem pend_lt {D : Dk} (h : D.Ok) : (∀ k ∈ D.pend, k < 65536) ∧ D.pend.length ≤ 65536 := by
  have hh := h.hi
  refine ⟨fun k hk => ?_, ?_⟩
  · have := (List.mem_filter.1 hk).1
    have := List.mem_range.1 this
    omega
  · have := List.length_filter_le (fun k => (D.fresh k).isSome) (List.range D.old.length)
    unfold Dk.pend
    simp at this
    omega
end Go.Proofs.Ytachbonlakbjmaa
