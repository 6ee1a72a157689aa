/- A Writer that lays a record. -/
import Derived.Test.YtbfafijfhaejmaaGreatDoorRWalkC
namespace Go.Proofs.YtbfafijfhaejmaaGreatDoor
open Go.RowKit

/-- A Writer in block b, made since W0, has laid l, at most N bytes. -/
structure Lw (W0 w : World) (b : Nat) (l : List UInt8) (N : Nat) : Prop where
  ex : ∃ row, Wr w b row l ∧ (∀ k, row = some k → W0.heap.size ≤ k)
  only : Only (fun _ => False) W0 w
  ge : W0.heap.size ≤ b
  len : l.length ≤ N
theorem Lw.more {W0 w w' : World} {b : Nat} {l : List UInt8} {N : Nat} (h : Lw W0 w b l N) (ho : Only (fun _ => False) w w') : Lw W0 w' b l N := by
  obtain ⟨row, hw, hr⟩ := h.ex
  exact ⟨⟨row, hw.kept ho (fun h => h) (fun _ _ h => h), hr⟩, o2 h.only ho, h.ge, h.len⟩
theorem Lw.grow {W0 w w' : World} {b : Nat} {l' : List UInt8} {N' : Nat} {row row' : Option Nat} (ho : Only (fun _ => False) W0 w) (hge : W0.heap.size ≤ b) (hr : ∀ k, row = some k → W0.heap.size ≤ k) (hW : Wr w' b row' l') (hg : WGro w w' b row row') (hN : l'.length ≤ N') : Lw W0 w' b l' N' := by
  refine ⟨⟨row', hW, ?_⟩, ho.trans hg.only ?_, hge, hN⟩
  · intro k hk
    rcases hg.new with e | ⟨g, e, h2⟩
    · exact hr k (e.symm.trans hk)
    · rw [e] at hk; injection hk with hk; have := ho.size; omega
  · rintro i hi (e | e)
    · omega
    · have := hr i e.symm; omega
theorem Lw.le {W0 w : World} {b : Nat} {l : List UInt8} {N N' : Nat} (h : Lw W0 w b l N) (hN : N ≤ N') : Lw W0 w b l N' := ⟨h.ex, h.only, h.ge, Nat.le_trans h.len hN⟩
theorem Lw.new (w : World) : Lw w (w.alloc (.cells #[.slice none 0 0] 227)) w.heap.size [] 0 :=
  ⟨⟨none, Wr.new w, fun k hk => by cases hk⟩, onlyA _ _, Nat.le_refl _, Nat.le_refl _⟩
theorem sev_len (n : Nat) : (sev n).length ≤ 10 := sevF_len 9 n
/-- Num of numbers that lie in a block that was there, or in a new one. -/
theorem lw_nums (W0 w : World) (b : Nat) (l : List UInt8) (N : Nat) (h : Lw W0 w b l N) (B cp : Nat) (ao : Option Addr) (zs : List Int) (hz : Zs w B ao zs) (hb : ∀ z ∈ zs, z ≤ top) (hB : 0 < zs.length → B ≠ b ∧ ∀ row, Wr w b row l → some B ≠ row) (hN : N + 10 * zs.length ≤ 1000000000) :
    Calls Tryz.prog 160 #[.pointer (some ⟨b, 0, none⟩), .slice ao zs.length cp] w fun e w' => e = .returned (.tuple #[]) ∧ Lw W0 w' b (l ++ nums zs) (N + 10 * zs.length) := by
  obtain ⟨row, hW, hr⟩ := h.ex
  have hl := h.len
  by_cases h0 : zs.length = 0
  · have e : zs = [] := List.eq_nil_of_length_eq_zero h0
    subst e
    refine (wnum_none w b ao cp).mono ?_
    rintro e w' ⟨rfl, rfl⟩
    refine ⟨rfl, ?_⟩
    simpa [nums] using h
  · obtain ⟨o, rfl, hc⟩ := hz.at_ (by omega)
    obtain ⟨h1, h2⟩ := hB (by omega)
    have hg : ∀ k, k < zs.length → zs.getD k 0 = zs[k]?.getD 0 := fun k _ => by rw [List.getD_eq_getElem?_getD]
    refine (wnum_any w b row l zs B o cp hW (fun k hk => by rw [hc k hk, hg k hk, List.getElem?_eq_getElem hk]; rfl) (fun k hk => by
      rw [hg k hk, List.getElem?_eq_getElem hk]
      have := hb zs[k] (List.getElem_mem hk)
      unfold top at this
      simp only [Option.getD_some]
      omega) h1 (h2 row hW) (hz.lt (by omega)) (by omega)).mono ?_
    rintro e w' ⟨rfl, row', hW', hg'⟩
    refine ⟨rfl, Lw.grow h.only h.ge hr hW' hg' ?_⟩
    have := nums_len zs
    rw [List.length_append]; omega
/-- Num of numbers that lie in a block that was there ahead of the Writer. -/
theorem lw_old (W0 w : World) (b : Nat) (l : List UInt8) (N : Nat) (h : Lw W0 w b l N) (B cp : Nat) (ao : Option Addr) (zs : List Int) (hz : Zs W0 B ao zs) (hb : ∀ z ∈ zs, z ≤ top) (hN : N + 10 * zs.length ≤ 1000000000) :
    Calls Tryz.prog 160 #[.pointer (some ⟨b, 0, none⟩), .slice ao zs.length cp] w fun e w' => e = .returned (.tuple #[]) ∧ Lw W0 w' b (l ++ nums zs) (N + 10 * zs.length) := by
  obtain ⟨row, hW, hr⟩ := h.ex
  refine lw_nums W0 w b l N h B cp ao zs (hz.more h.only) hb (fun h0 => ?_) hN
  have h1 := hz.lt h0
  have h2 := h.ge
  refine ⟨by omega, fun row' hW' e => ?_⟩
  obtain ⟨v, hc, hrow⟩ := hW'.ex
  have := hrow.lt B e.symm
  omega
/-- Num of numbers in a block that was just made. -/
theorem lw_new (W0 w : World) (b : Nat) (l : List UInt8) (N : Nat) (h : Lw W0 w b l N) (zs : List Int) (n : Nat) (hn : n = zs.length) (hz : Zs (w.alloc (.cells (zs.map (Value.int .i64)).toArray 3)) w.heap.size (some ⟨w.heap.size, 0, none⟩) zs) (hb : ∀ z ∈ zs, z ≤ top) (hN : N + 10 * zs.length ≤ 1000000000) :
    Calls Tryz.prog 160 #[.pointer (some ⟨b, 0, none⟩), .slice (some ⟨w.heap.size, 0, none⟩) n n] (w.alloc (.cells (zs.map (Value.int .i64)).toArray 3)) fun e w' => e = .returned (.tuple #[]) ∧ Lw W0 w' b (l ++ nums zs) (N + 10 * zs.length) := by
  subst hn
  have hg := h.ge
  obtain ⟨row, hW, hr⟩ := h.ex
  have hlt := hW.lt
  refine lw_nums W0 _ b l N (h.more (onlyA _ _)) _ _ _ zs hz hb (fun h0 => ⟨by omega, fun row' hW' e => ?_⟩) hN
  obtain ⟨v, hc, hrow⟩ := hW.ex
  obtain ⟨v', hc', hrow'⟩ := hW'.ex
  have hcc : (w.alloc (.cells (zs.map (Value.int .i64)).toArray 3)).cell? ⟨b, 0, none⟩ = some v := ((onlyA w _).cell (p := ⟨b, 0, none⟩) hlt (fun h => h)).trans hc
  rw [hcc] at hc'
  injection hc' with hc'
  subst hc'
  have e1 := hrow'.at_
  have e2 := hrow.at_
  rw [e1, ← e] at e2
  have := hrow.lt w.heap.size e2.symm
  omega
theorem lw_one (W0 w : World) (b : Nat) (l : List UInt8) (N : Nat) (h : Lw W0 w b l N) (z : Int) (hb : z ≤ top) (hN : N + 10 ≤ 1000000000) :
    Calls Tryz.prog 160 #[.pointer (some ⟨b, 0, none⟩), .slice (some ⟨w.heap.size, 0, none⟩) 1 1] (w.alloc (.cells #[.int .i64 z] 3)) fun e w' => e = .returned (.tuple #[]) ∧ Lw W0 w' b (l ++ sev z.toNat) (N + 10) := by
  have h1 := lw_new W0 w b l N h [z] 1 rfl (Zs.one w z) (by intro y hy; simp at hy; subst hy; exact hb) (by simpa using hN)
  simpa [nums] using h1
theorem lw_two (W0 w : World) (b : Nat) (l : List UInt8) (N : Nat) (h : Lw W0 w b l N) (y z : Int) (hy : y ≤ top) (hb : z ≤ top) (hN : N + 20 ≤ 1000000000) :
    Calls Tryz.prog 160 #[.pointer (some ⟨b, 0, none⟩), .slice (some ⟨w.heap.size, 0, none⟩) 2 2] (w.alloc (.cells #[.int .i64 y, .int .i64 z] 3)) fun e w' => e = .returned (.tuple #[]) ∧ Lw W0 w' b (l ++ prL (y, z)) (N + 20) := by
  have h1 := lw_new W0 w b l N h [y, z] 2 rfl (Zs.two w y z) (by intro x hx; simp at hx; rcases hx with rfl | rfl <;> assumption) (by simpa using hN)
  simpa [nums, prL] using h1
theorem Zs.ten (w : World) (a b c d e f g h i j : Int) : Zs (w.alloc (.cells #[.int .i64 a, .int .i64 b, .int .i64 c, .int .i64 d, .int .i64 e, .int .i64 f, .int .i64 g, .int .i64 h, .int .i64 i, .int .i64 j] 3)) w.heap.size (some ⟨w.heap.size, 0, none⟩) [a, b, c, d, e, f, g, h, i, j] :=
  ⟨fun _ => ⟨0, rfl, fun k hk => by
    match k, hk with
    | 0, _ => simp
    | 1, _ => simp
    | 2, _ => simp
    | 3, _ => simp
    | 4, _ => simp
    | 5, _ => simp
    | 6, _ => simp
    | 7, _ => simp
    | 8, _ => simp
    | 9, _ => simp⟩, fun _ => by simp, by simp⟩
theorem lw_ten (W0 w : World) (b : Nat) (h : Lw W0 w b [] 0) (a0 a1 a2 a3 a4 a5 a6 a7 a8 a9 : Int) (hb : ∀ z ∈ [a0, a1, a2, a3, a4, a5, a6, a7, a8, a9], z ≤ top) :
    Calls Tryz.prog 160 #[.pointer (some ⟨b, 0, none⟩), .slice (some ⟨w.heap.size, 0, none⟩) 10 10] (w.alloc (.cells #[.int .i64 a0, .int .i64 a1, .int .i64 a2, .int .i64 a3, .int .i64 a4, .int .i64 a5, .int .i64 a6, .int .i64 a7, .int .i64 a8, .int .i64 a9] 3)) fun e w' => e = .returned (.tuple #[]) ∧ Lw W0 w' b (nums [a0, a1, a2, a3, a4, a5, a6, a7, a8, a9]) 100 :=
  lw_new W0 w b [] 0 h [a0, a1, a2, a3, a4, a5, a6, a7, a8, a9] 10 rfl (Zs.ten w a0 a1 a2 a3 a4 a5 a6 a7 a8 a9) hb (by simp)
theorem lw_text (W0 w : World) (b : Nat) (l : List UInt8) (N : Nat) (h : Lw W0 w b l N) (s : ByteArray) (hs : s.size ≤ 512) (hN : N + 522 ≤ 1000000000) :
    Calls Tryz.prog 161 #[.pointer (some ⟨b, 0, none⟩), .string s] w fun e w' => e = .returned (.tuple #[]) ∧ Lw W0 w' b (l ++ textL s) (N + 522) := by
  obtain ⟨row, hW, hr⟩ := h.ex
  have hl := h.len
  refine (wtext_any w b row l s hW (by omega)).mono ?_
  rintro e w' ⟨rfl, row', hW', hg'⟩
  refine ⟨rfl, Lw.grow h.only h.ge hr hW' hg' ?_⟩
  have := sev_len s.size
  unfold textL
  rw [List.length_append, List.length_append, bl_len]; omega
theorem lw_bytes (W0 w : World) (b : Nat) (l : List UInt8) (N : Nat) (h : Lw W0 w b l N) :
    Calls Tryz.prog 162 #[.pointer (some ⟨b, 0, none⟩)] w fun e w' => e = .returned (.string (str l)) ∧ w' = w := by
  obtain ⟨row, hW, hr⟩ := h.ex
  exact wbytes_any w b row l hW

end Go.Proofs.YtbfafijfhaejmaaGreatDoor
