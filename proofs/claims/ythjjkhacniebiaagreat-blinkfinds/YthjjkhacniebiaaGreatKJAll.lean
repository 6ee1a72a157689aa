/- The law's forest beside a list of the law's own. -/
import Derived.Test.YthjjkhacniebiaaGreatK50
namespace Go.Proofs.YthjjkhacniebiaaGreat
open Go.RowKit

/-- A list's own block is another one now. -/
theorem Fm.rek {w w' : World} {f g cap : Nat} {zs : List Pz} {v v' : Value} (h : Fm (fun k => v.ownBlock = some k) w f g cap zs) (ho : Only (fun k => v.ownBlock = some k) w w') (hv : ∀ k, v'.ownBlock = some k → (v.ownBlock = some k ∨ w.heap.size ≤ k) ∧ k < w'.heap.size) (hf : v.ownBlock ≠ some f) (hg : v.ownBlock ≠ some g) : Fm (fun k => v'.ownBlock = some k) w' f g cap zs := by
  refine ⟨(ho.cell (p := ⟨f, 0, none⟩) h.flt hf).trans h.cell, (ho.frozen (p := ⟨f, 0, none⟩) h.flt hf).trans h.fr, Nat.lt_of_lt_of_le h.flt ho.size, own_keptJ h.row ho (fun b hb => ?_), h.ne, fun z hz => ?_, fun k hk => (hv k hk).2⟩
  · have e : b = g := by
      have : some g = some b := hb
      exact (Option.some.inj this).symm
    rw [e]
    exact hg
  · obtain ⟨⟨B, h1, h2⟩, h3⟩ := h.each z hz
    refine ⟨⟨B, h1.kept ho (fun h0 => (h2 h0).2.2), fun h0 => ⟨(h2 h0).1, (h2 h0).2.1, fun q => ?_⟩⟩, h3⟩
    rcases (hv B q).1 with k | k
    · exact (h2 h0).2.2 k
    · have := h1.lt h0
      omega
structure Sa (w W : World) (f g cap : Nat) (zs : List Pz) (N : Nat) (F : Nat → Nd) (lo : Nat → En) (A : En → Prop) (v : Value) (L : List En) : Prop where
  sn : Sn (fun k => v.ownBlock = some k) w W f g cap zs N F lo A
  ets : Ets W w.heap.size v L
  nf : v.ownBlock ≠ some f
  ng : v.ownBlock ≠ some g
variable {w W : World} {f g cap : Nat} {zs : List Pz} {N : Nat} {F : Nat → Nd} {lo : Nat → En} {A : En → Prop} {v : Value} {L : List En}
theorem Sa.more (h : Sa w W f g cap zs N F lo A v L) {W' : World} (ho : Only (fun _ => False) W W') : Sa w W' f g cap zs N F lo A v L := ⟨h.sn.more ho, h.ets.more ho, h.nf, h.ng⟩
theorem Sa.lt (h : Sa w W f g cap zs N F lo A v L) : ∀ k, v.ownBlock = some k → k < W.heap.size := h.sn.fm.kk
/-- An entry comes in. -/
theorem sa_enters (h : Sa w W f g cap zs N F lo A v L) {i : Nat} (hb : Bd N F i) (hi : i ≤ 300) {e : En} (he : e.ok = true) (t : Bool) :
    Calls Tryz.prog 17 #[.pointer (some ⟨f, 0, none⟩), .int .i64 0, .agg #[.string e.key, .int .i64 e.page, .int .i64 e.slot], .string e.enc, .bool t] W fun x w' => x = .returned (.bool true) ∧ ∃ g' cap' zs' N' F' lo', Sa w w' f g' cap' zs' N' F' lo' (fun x => A x ∨ x = e) v L ∧ Bd N' F' (i + 1) ∧ Only (fun k => k = f ∨ k = g) W w' := by
  refine (sn_enters h.sn hb hi he t).mono ?_
  rintro x w' ⟨rfl, g', cap', zs', N', F', lo', q1, q2, q3, q4⟩
  refine ⟨rfl, g', cap', zs', N', F', lo', ⟨q1, h.ets.kept q3 (fun k hk => ?_), h.nf, ?_⟩, q2, q3⟩
  · rintro (rfl | rfl)
    · exact h.nf hk
    · exact h.ng hk
  · intro hk
    rcases q4 with k | k
    · rw [k] at hk
      exact h.ng hk
    · have := h.lt g' hk
      omega
/-- The law's list grows. -/
theorem Sa.app (h : Sa w W f g cap zs N F lo A v L) {W' : World} {v' : Value} {L' : List En} (ho : Only (fun k => v.ownBlock = some k) W W') (he : Ets W' w.heap.size v' L') (hv : v'.ownBlock = v.ownBlock ∨ v'.ownBlock = some W.heap.size) : Sa w W' f g cap zs N F lo A v' L' := by
  have hff := h.sn.fm.flt
  have hgg := (World.ownsRow.lt h.sn.fm.row g rfl).2
  have nw : ∀ k, k < W.heap.size → v.ownBlock ≠ some k → v'.ownBlock ≠ some k := by
    intro k hk hn q
    rcases hv with e | e
    · rw [e] at q; exact hn q
    · rw [e] at q
      injection q
      omega
  refine ⟨⟨h.sn.fm.rek ho (fun k hk => ⟨?_, (World.ownsRow.lt he k hk).2⟩) h.nf h.ng, h.sn.fz, h.sn.fs, h.sn.f0, h.sn.g0⟩, he, nw f hff h.nf, nw g hgg h.ng⟩
  rcases hv with e | e
  · rw [e] at hk
    exact .inl hk
  · rw [e] at hk
    injection hk with hk
    exact .inr (by omega)
end Go.Proofs.YthjjkhacniebiaaGreat
