/- What block does. -/
import Derived.Test.YtfkcbdiffmacgaaGreatDoorPEnc
import Derived.Lib.LazyBuf
import Derived.Laws.IdiomCopy
import Derived.Deep.RegionHeld3
import Derived.Test.YtfkcbdiffmacgaaGreatDoorPDecX
namespace Go.Proofs.YtfkcbdiffmacgaaGreatDoor
open Go.RowKit

/-- What stands at both ends of the sector that holds block k. -/
def numL (k : Nat) : List UInt8 := bigF 4 (k + 1)
/-- The sector that holds block k with these bytes. -/
def holdL (k : Nat) (held : List UInt8) : List UInt8 :=
  if held = [] then List.replicate 64 0 else numL k ++ (UInt8.ofNat held.length :: (held ++ (List.replicate (54 - held.length) 0 ++ (UInt8.ofNat held.length :: numL k))))
/-- The bytes of block k that a sector tells. -/
def tellsL (s : List UInt8) (k : Nat) : List UInt8 :=
  if s.take 4 = numL k ∧ s.drop 60 = numL k then (s.drop 5).take (min (min (s.getD 4 0).toNat (s.getD 59 0).toNat) 54) else []
theorem numL_len (k : Nat) : (numL k).length = 4 := bigF_len 4 (k + 1)
theorem numL_zero {k : Nat} (hk : k < 4294967295) : numL k ≠ [0, 0, 0, 0] := by
  intro h
  have h1 := ofTo_big 4 (k + 1) (by omega) (by omega)
  have h2 : bigF 4 (k + 1) = [0, 0, 0, 0] := h
  rw [h2] at h1
  have h3 : ofTo [0, 0, 0, 0] = 0 := by decide
  omega
theorem hold_len (k : Nat) (held : List UInt8) (h : held.length ≤ 54) : (holdL k held).length = 64 := by
  unfold holdL
  split
  · simp
  · simp only [List.length_append, List.length_cons, numL_len, List.length_replicate]; omega
/-- What is held is told. -/
theorem tells_hold (k : Nat) (held : List UInt8) (hk : k < 4294967295) (h : held.length ≤ 54) : tellsL (holdL k held) k = held := by
  unfold tellsL
  by_cases h0 : held = []
  · have e : holdL k held = List.replicate 64 0 := by unfold holdL; rw [if_pos h0]
    rw [e, if_neg, h0]
    intro hc
    exact numL_zero hk (by rw [← hc.1]; decide)
  · have e : holdL k held = numL k ++ (UInt8.ofNat held.length :: (held ++ (List.replicate (54 - held.length) 0 ++ (UInt8.ofNat held.length :: numL k)))) := by unfold holdL; rw [if_neg h0]
    have e5 : (numL k ++ [UInt8.ofNat held.length]).length = 5 := by rw [List.length_append, numL_len]; rfl
    have a1 : (holdL k held).take 4 = numL k := by rw [e]; exact List.take_left' (numL_len k)
    have a2 : (holdL k held).drop 60 = numL k := by
      rw [e]
      rw [show numL k ++ (UInt8.ofNat held.length :: (held ++ (List.replicate (54 - held.length) 0 ++ (UInt8.ofNat held.length :: numL k)))) = (numL k ++ (UInt8.ofNat held.length :: (held ++ (List.replicate (54 - held.length) 0 ++ [UInt8.ofNat held.length])))) ++ numL k from by simp]
      exact List.drop_left' (by simp only [List.length_append, List.length_cons, numL_len, List.length_replicate, List.length_nil]; omega)
    have a3 : (holdL k held).drop 5 = held ++ (List.replicate (54 - held.length) 0 ++ (UInt8.ofNat held.length :: numL k)) := by
      rw [e, show numL k ++ (UInt8.ofNat held.length :: (held ++ (List.replicate (54 - held.length) 0 ++ (UInt8.ofNat held.length :: numL k)))) = (numL k ++ [UInt8.ofNat held.length]) ++ (held ++ (List.replicate (54 - held.length) 0 ++ (UInt8.ofNat held.length :: numL k))) from by simp]
      exact List.drop_left' e5
    have a4 : (holdL k held).getD 4 0 = UInt8.ofNat held.length := by
      rw [e, List.getD_eq_getElem?_getD, List.getElem?_append_right (by rw [numL_len]; omega), numL_len]
      rfl
    have a5 : (holdL k held).getD 59 0 = UInt8.ofNat held.length := by
      rw [e, show numL k ++ (UInt8.ofNat held.length :: (held ++ (List.replicate (54 - held.length) 0 ++ (UInt8.ofNat held.length :: numL k)))) = (numL k ++ (UInt8.ofNat held.length :: (held ++ List.replicate (54 - held.length) 0))) ++ (UInt8.ofNat held.length :: numL k) from by simp]
      have hl : (numL k ++ (UInt8.ofNat held.length :: (held ++ List.replicate (54 - held.length) 0))).length = 59 := by simp only [List.length_append, List.length_cons, numL_len, List.length_replicate]; omega
      rw [List.getD_eq_getElem?_getD, List.getElem?_append_right (by omega), hl]
      rfl
    have a6 : (UInt8.ofNat held.length).toNat = held.length := UInt8.toNat_ofNat_of_lt' (by show held.length < 256; omega)
    rw [if_pos ⟨a1, a2⟩, a3, a4, a5, a6, Nat.min_self, Nat.min_eq_left h]
    exact List.take_left' rfl
end Go.Proofs.YtfkcbdiffmacgaaGreatDoor

namespace Go.Proofs.YtfkcbdiffmacgaaGreatDoor
open Go.RowKit

theorem blockOf_any (p : Nat) (w : World) (h1 : 1 ≤ p) (h2 : p < 4611686018427387904) : Calls Tryz.prog 30 #[.int .i64 (p : Int)] w fun e w' => e = .returned (.int .i64 (((p - 1) / 54 : Nat) : Int)) ∧ w' = w := by
  obtain ⟨q, hq⟩ : ∃ q : Nat, p = q + 1 := ⟨p - 1, by omega⟩
  subst hq
  have e1 : ((q + 1 : Nat) : Int) - 1 = (q : Int) := by omega
  have e2 : ((q : Int)) / 54 = ((q / 54 : Nat) : Int) := by omega
  have e3 : q + 1 - 1 = q := by omega
  rw [e3]
  obtain ⟨r, hr⟩ : ∃ r : Nat, q / 54 = r := ⟨_, rfl⟩
  rw [hr] at e2
  rw [hr]
  obtain ⟨p, hp⟩ : ∃ p : Nat, q + 1 = p := ⟨_, rfl⟩
  rw [hp] at e1 h2
  rw [hp]
  have hp1 : (p : Int) < 4611686018427387904 := by omega
  have hp2 : (1 : Int) ≤ (p : Int) := by omega
  have hq2 : (0 : Int) ≤ (q : Int) := by omega
  clear hr hp e3 h1
  go_enter Tryz.func30, Tryz.ntmps30
  go_wp2
  go_ret
  exact ⟨rfl, rfl⟩
theorem ahead_any (p : Nat) (w : World) (h1 : 1 ≤ p) (h2 : p < 4611686018427387904) : Calls Tryz.prog 57 #[.int .i64 (p : Int)] w fun e w' => e = .returned (.int .i64 (((p - 1) % 54 : Nat) : Int)) ∧ w' = w := by
  obtain ⟨q, hq⟩ : ∃ q : Nat, p = q + 1 := ⟨p - 1, by omega⟩
  subst hq
  have e1 : ((q + 1 : Nat) : Int) - 1 = (q : Int) := by omega
  have e2 : ((q : Int)) % 54 = ((q % 54 : Nat) : Int) := by omega
  have e3 : q + 1 - 1 = q := by omega
  rw [e3]
  obtain ⟨r, hr⟩ : ∃ r : Nat, q % 54 = r := ⟨_, rfl⟩
  rw [hr] at e2
  rw [hr]
  obtain ⟨p, hp⟩ : ∃ p : Nat, q + 1 = p := ⟨_, rfl⟩
  rw [hp] at e1 h2
  rw [hp]
  have hp1 : (p : Int) < 4611686018427387904 := by omega
  have hp2 : (1 : Int) ≤ (p : Int) := by omega
  have hq2 : (0 : Int) ≤ (q : Int) := by omega
  have HE := hide e2
  clear hr hp e3 h1 e2
  go_enter Tryz.func57, Tryz.ntmps57
  go_wp2
  go_ret
  exact ⟨ret_int HE.out, rfl⟩
theorem conv4 (w : World) (a b c d : Nat) (ha : a < 256) (hb : b < 256) (hc : c < 256) (hd : d < 256) :
    (convert 60 9 (.slice (some ⟨w.heap.size, 0, none⟩) 4 4)).run Tryz.prog (w.alloc (.cells #[.int .u8 (a : Int), .int .u8 (b : Int), .int .u8 (c : Int), .int .u8 (d : Int)] 5)) =
      .ok (.string (str [UInt8.ofNat a, UInt8.ofNat b, UInt8.ofNat c, UInt8.ofNat d])) (w.alloc (.cells #[.int .u8 (a : Int), .int .u8 (b : Int), .int .u8 (c : Int), .int .u8 (d : Int)] 5)) := by
  have hrow : Row (w.alloc (.cells #[.int .u8 (a : Int), .int .u8 (b : Int), .int .u8 (c : Int), .int .u8 (d : Int)] 5)) w.heap.size (.slice (some ⟨w.heap.size, 0, none⟩) 4 4) (some w.heap.size) [UInt8.ofNat a, UInt8.ofNat b, UInt8.ofNat c, UInt8.ofNat d] := by
    refine ⟨⟨rfl, .inr ⟨w.heap.size, 4, _, rfl, Nat.le_refl _, heap_alloc_new w _, Nat.le_refl 4, by unfold maxLen; omega, rfl, ?_⟩⟩, rfl⟩
    simp only [cells, List.map_cons, List.map_nil, byte_nat ha, byte_nat hb, byte_nat hc, byte_nat hd]
    rfl
  exact bytes_back _ _ _ _ _ hrow
theorem numL_four (k : Nat) (hk : k < 4294967295) : numL k = [UInt8.ofNat ((k + 1) / 16777216), UInt8.ofNat ((k + 1) / 65536 % 256), UInt8.ofNat ((k + 1) / 256 % 256), UInt8.ofNat ((k + 1) % 256)] := by
  unfold numL
  simp only [bigF, List.nil_append, List.cons_append, Nat.div_div_eq_div_mul]
  rw [Nat.mod_eq_of_lt (show (k + 1) / (256 * 256 * 256) < 256 by omega)]
set_option maxRecDepth 100000 in
theorem number_any (k : Nat) (w : World) (hk : k < 4294967295) : Calls Tryz.prog 86 #[.int .i64 (k : Int)] w fun e w' => e = .returned (.string (str (numL k))) ∧ Only (fun _ => False) w w' := by
  have hcv := conv4 w ((k + 1) / 16777216) ((k + 1) / 65536 % 256) ((k + 1) / 256 % 256) ((k + 1) % 256) (by omega) (by omega) (by omega) (by omega)
  rw [← numL_four k hk] at hcv
  have e1 : (((k + 1) / 16777216 : Nat) : Int) = ((k : Int) + 1) / 16777216 := by omega
  have e2 : (((k + 1) / 65536 % 256 : Nat) : Int) = ((k : Int) + 1) / 65536 % 256 := by omega
  have e3 : (((k + 1) / 256 % 256 : Nat) : Int) = ((k : Int) + 1) / 256 % 256 := by omega
  have e4 : (((k + 1) % 256 : Nat) : Int) = ((k : Int) + 1) % 256 := by omega
  rw [e1, e2, e3, e4] at hcv
  have HO := hide (onlyA w (.cells #[.int .u8 (((k : Int) + 1) / 16777216), .int .u8 (((k : Int) + 1) / 65536 % 256), .int .u8 (((k : Int) + 1) / 256 % 256), .int .u8 (((k : Int) + 1) % 256)] 5))
  obtain ⟨X, hX⟩ : ∃ X, str (numL k) = X := ⟨_, rfl⟩
  rw [hX] at hcv
  rw [hX]
  have hk1 : (k : Int) + 1 < 4294967296 := by omega
  have hk0 : (0 : Int) ≤ (k : Int) := by omega
  clear e1 e2 e3 e4 hX hk
  go_enter Tryz.func86, Tryz.ntmps86
  go_wp2_with fail
  go_ret
  exact ⟨rfl, HO.out⟩
end Go.Proofs.YtfkcbdiffmacgaaGreatDoor

namespace Go.Proofs.YtfkcbdiffmacgaaGreatDoor
open Go.RowKit

/-- Bytes laid over others from a place on. -/
def splice (l : List UInt8) (o : Nat) (t : List UInt8) : List UInt8 := l.take o ++ (t ++ l.drop (o + t.length))
theorem splice_nil (l : List UInt8) (o : Nat) : splice l o [] = l := by simp [splice]
theorem splice_cons (l : List UInt8) (o : Nat) (b : UInt8) (t : List UInt8) (h : o < l.length) : splice l o (b :: t) = splice (l.set o b) (o + 1) t := by
  unfold splice
  have e1 : (l.set o b).take (o + 1) = l.take o ++ [b] := by
    rw [List.take_succ_eq_append_getElem (by simpa using h), List.take_set_of_le (Nat.le_refl o)]
    simp
  have e2 : (l.set o b).drop (o + 1 + t.length) = l.drop (o + (b :: t).length) := by
    rw [List.drop_set_of_lt (by omega)]
    congr 1
    simp
    omega
  rw [e1, e2]
  simp
theorem splice_len (l : List UInt8) (o : Nat) (t : List UInt8) (h : o + t.length ≤ l.length) : (splice l o t).length = l.length := by
  unfold splice
  simp only [List.length_append, List.length_take, List.length_drop]
  omega
/-- A buffer of 64 bytes in block g. -/
def Bf (W : World) (base g : Nat) (l : List UInt8) : Prop := Row W base (.slice (some ⟨g, 0, none⟩) 64 64) (some g) l ∧ l.length = 64
theorem Bf.kept {S : Nat → Prop} {W W' : World} {base g : Nat} {l : List UInt8} (h : Bf W base g l) (ho : Only S W W') (hS : ¬ S g) : Bf W' base g l :=
  ⟨h.1.kept ho (fun k hk => by injection hk with hk; rw [← hk]; exact hS), h.2⟩
theorem Bf.set {W : World} {base g : Nat} {l : List UInt8} (h : Bf W base g l) (j : Nat) (u : UInt8) : Bf (W.setCell ⟨g, j, none⟩ (.int .u8 (u.toNat : Int))) base g (l.set j u) ∧ Only (fun k => k = g) W (W.setCell ⟨g, j, none⟩ (.int .u8 (u.toNat : Int))) := by
  obtain ⟨h1, h2⟩ := h.1.store j u
  exact ⟨⟨h1, by rw [List.length_set]; exact h.2⟩, h2⟩
theorem Bf.sets {base g : Nat} : ∀ (t : List UInt8) (o : Nat) (l : List UInt8) (W : World), Bf W base g l → o + t.length ≤ 64 → Bf (W.setCells g o (cells t)) base g (splice l o t) ∧ Only (fun k => k = g) W (W.setCells g o (cells t))
  | [], o, l, W, h, _ => by rw [splice_nil]; exact ⟨h, Only.refl _ _⟩
  | b :: t, o, l, W, h, ho => by
    have hl := h.2
    simp only [List.length_cons] at ho
    obtain ⟨h1, h2⟩ := h.set o b
    obtain ⟨h3, h4⟩ := Bf.sets t (o + 1) (l.set o b) _ h1 (by omega)
    rw [splice_cons l o b t (by omega)]
    exact ⟨h3, h2.trans h4 (fun _ _ h => h)⟩
theorem Bf.there {W : World} {base g : Nat} {l : List UInt8} (h : Bf W base g l) {j : Nat} (hj : j < 64) : (W.cell? ⟨g, j, none⟩).isSome = true ∧ W.frozen? ⟨g, j, none⟩ = false := by
  obtain ⟨⟨v, hv⟩, hf⟩ := h.1.at0 hj
  exact ⟨by rw [hv]; rfl, hf⟩
theorem sizeU8 (w : World) : (Go.sizeOf 5).run Tryz.prog w = .ok 1 w := by
  obtain ⟨i0, hi, hz0, hz1, hz2⟩ := info_parts Tryz.infoByte
  simp [Go.sizeOf, typeInfo, hi, hz1]
/-- A text copied into the buffer. -/
theorem Bf.text {W : World} {base g : Nat} {l : List UInt8} (h : Bf W base g l) (o dLen dCap : Nat) (t : List UInt8) (hle : t.length ≤ dLen) (ho : o + t.length ≤ 64) (ty : TypeId) :
    (Builtin.copy_ #[60, 9] ty #[.slice (some ⟨g, o, none⟩) dLen dCap, .string (str t)]).run Tryz.prog W = .ok (goInt t.length) (W.setCells g o (cells t)) := by
  have hs : (str t).size = t.length := str_size t
  have hr := run_copy_string (P := Tryz.prog) W 60 9 ty 5 g o dLen dCap (str t) Tryz.underlying60 sizeU8 (by omega) (fun j hj => (h.there (by omega)).1) (fun j hj => (h.there (by omega)).2)
  rw [hs] at hr
  have e : (str t).data.toList = t := by show t.toArray.toList = t; simp
  rw [e] at hr
  exact hr
/-- Bytes that a slice at ao leads to, in block B. -/
structure Bys (w : World) (B : Nat) (ao : Option Addr) (l : List UInt8) : Prop where
  at_ : 0 < l.length → ∃ o, ao = some ⟨B, o, none⟩ ∧ ∀ j (h : j < l.length), w.cell? ⟨B, o + j, none⟩ = some (.int .u8 (l[j].toNat : Int))
  lt : 0 < l.length → B < w.heap.size
theorem Bys.kept {S : Nat → Prop} {w w' : World} {B : Nat} {ao : Option Addr} {l : List UInt8} (h : Bys w B ao l) (ho : Only S w w') (hS : 0 < l.length → ¬ S B) : Bys w' B ao l :=
  ⟨fun h0 => by
    obtain ⟨o, e, hc⟩ := h.at_ h0
    exact ⟨o, e, fun j hj => (ho.cell (p := ⟨B, o + j, none⟩) (h.lt h0) (hS h0)).trans (hc j hj)⟩, fun h0 => Nat.lt_of_lt_of_le (h.lt h0) ho.size⟩
/-- Bytes of a slice copied into the buffer. -/
theorem Bf.bytes {W : World} {base g : Nat} {l : List UInt8} (h : Bf W base g l) (o dLen dCap : Nat) (B : Nat) (ao : Option Addr) (t : List UInt8) (cp : Nat) (hb : Bys W B ao t) (h0 : 0 < t.length) (hle : t.length ≤ dLen) (ho : o + t.length ≤ 64) (ty : TypeId) :
    (Builtin.copy_ #[60, 60] ty #[.slice (some ⟨g, o, none⟩) dLen dCap, .slice ao t.length cp]).run Tryz.prog W = .ok (goInt t.length) (W.setCells g o (cells t)) := by
  obtain ⟨o2, rfl, hc⟩ := hb.at_ h0
  have hr := run_copy_cells (P := Tryz.prog) W 60 60 ty 5 g o dLen dCap ⟨B, o2, none⟩ t.length cp (cells t) Tryz.underlying60 (by
      obtain ⟨i0, hi, hz0, hz1, hz2⟩ := info_parts Tryz.infoByte
      rw [hi]; simp [hz1]) (by rw [cells_length]; exact (Nat.min_eq_left hle).symm) (fun j v hv => by
      have hj : j < t.length := by have := (List.getElem?_eq_some_iff.1 hv).1; rwa [cells_length] at this
      rw [add_at, hc j hj, ← hv]
      simp [cells, hj]) (fun j hj => by rw [cells_length] at hj; exact (h.there (by omega)).1) (fun j hj => by rw [cells_length] at hj; exact (h.there (by omega)).2) (fun v hv => by
      obtain ⟨x, _, rfl⟩ := List.mem_map.1 hv
      rfl)
  rw [cells_length] at hr
  exact hr
/-- The buffer's bytes, laid one part behind the other. -/
theorem hold_is (k : Nat) (held : List UInt8) (h0 : held ≠ []) (h : held.length ≤ 54) :
    splice ((splice ((splice (List.replicate 64 0) 0 (numL k)).set 4 (UInt8.ofNat held.length)) 5 held).set 59 (UInt8.ofNat held.length)) 60 (numL k) = holdL k held := by
  have hn := numL_len k
  obtain ⟨a, b, c, d, hk⟩ : ∃ a b c d, numL k = [a, b, c, d] := by
    match hq : numL k, hn with
    | [a, b, c, d], _ => exact ⟨a, b, c, d, rfl⟩
  unfold holdL
  rw [if_neg h0, hk]
  generalize UInt8.ofNat held.length = x
  have e1 : splice (List.replicate 64 0) 0 [a, b, c, d] = [a, b, c, d] ++ List.replicate 60 0 := by simp [splice]
  rw [e1]
  have e2 : ([a, b, c, d] ++ List.replicate 60 (0 : UInt8)).set 4 x = [a, b, c, d, x] ++ List.replicate 59 0 := by
    rw [show List.replicate 60 (0 : UInt8) = 0 :: List.replicate 59 0 from rfl]
    simp
  rw [e2]
  have e3 : splice ([a, b, c, d, x] ++ List.replicate 59 0) 5 held = ([a, b, c, d, x] ++ held) ++ List.replicate (59 - held.length) 0 := by
    unfold splice
    have t5 : List.take 5 ([a, b, c, d, x] ++ List.replicate 59 (0 : UInt8)) = [a, b, c, d, x] := List.take_left' rfl
    have d5 : List.drop 5 ([a, b, c, d, x] ++ List.replicate 59 (0 : UInt8)) = List.replicate 59 0 := List.drop_left' rfl
    rw [t5, ← List.drop_drop, d5, List.drop_replicate, List.append_assoc]
  rw [e3]
  have e4 : (([a, b, c, d, x] ++ held) ++ List.replicate (59 - held.length) 0).set 59 x = ([a, b, c, d, x] ++ held ++ List.replicate (54 - held.length) 0) ++ (x :: List.replicate 4 0) := by
    rw [show List.replicate (59 - held.length) (0 : UInt8) = List.replicate (54 - held.length) 0 ++ (0 :: List.replicate 4 0) from by
      rw [show (0 : UInt8) :: List.replicate 4 0 = List.replicate 5 0 from rfl, List.replicate_append_replicate]
      congr 1
      omega]
    rw [← List.append_assoc, List.set_append_right _ _ (by simp; omega)]
    congr 1
    simp only [List.length_append, List.length_cons, List.length_nil, List.length_replicate]
    rw [show 59 - (0 + 1 + 1 + 1 + 1 + 1 + held.length + (54 - held.length)) = 0 from by omega]
    rfl
  rw [e4]
  unfold splice
  have hl : (([a, b, c, d, x] ++ held ++ List.replicate (54 - held.length) 0) ++ [x]).length = 60 := by
    simp only [List.length_append, List.length_cons, List.length_nil, List.length_replicate]; omega
  rw [show ([a, b, c, d, x] ++ held ++ List.replicate (54 - held.length) 0) ++ (x :: List.replicate 4 0) = (([a, b, c, d, x] ++ held ++ List.replicate (54 - held.length) 0) ++ [x]) ++ List.replicate 4 0 from by simp]
  rw [List.take_left' hl, show 60 + [a, b, c, d].length = 60 + 4 from rfl, ← List.drop_drop, List.drop_left' hl]
  simp
end Go.Proofs.YtfkcbdiffmacgaaGreatDoor

namespace Go.Proofs.YtfkcbdiffmacgaaGreatDoor
open Go.RowKit

theorem buf_made (w : World) : ∃ w1, (Instr.makeSlice 60 (.int .i64 64) (.int .i64 64)).run Tryz.prog w = .ok (.slice (some ⟨w.heap.size, 0, none⟩) 64 64) w1 ∧ Bf w1 w.heap.size w.heap.size (List.replicate 64 0) ∧ Only (fun _ => False) w w1 := by
  obtain ⟨i0, hi, hz0, hz1, hz2⟩ := info_parts Tryz.infoByte
  obtain ⟨w1, hmk, hown, hgr⟩ := run_make_full (P := Tryz.prog) w w.heap.size 60 5 i0 (.int .u8 0) 1 Tryz.underlying60 hi hz0 hz1 .i64 .i64 64 (by rw [hz2]; omega) (by unfold maxLen; omega) (Nat.le_refl _)
  have e2 : (madeCells (Value.int .u8 0).cells (64 * 1)).toList = cells (List.replicate 64 0) := by
    have : (Value.int IntKind.u8 0).cells = #[.int .u8 0] := rfl
    rw [this, toList_madeCells_one]; simp [cells]
  rw [e2] at hown
  exact ⟨w1, hmk, ⟨⟨by rw [List.length_replicate]; exact hown, rfl⟩, by simp⟩, Only.grown hgr (fun k hk => by cases hk)⟩
set_option maxRecDepth 100000 in
set_option maxHeartbeats 1600000 in
theorem hold_any (w : World) (k : Nat) (B cp : Nat) (ao : Option Addr) (held : List UInt8) (hb : Bys w B ao held) (hk : k < 4294967295) (hl : held.length ≤ 54) :
    Calls Tryz.prog 58 #[.int .i64 (k : Int), .slice ao held.length cp] w fun e w' => e = .returned (.string (str (holdL k held))) ∧ Only (fun _ => False) w w' := by
  obtain ⟨w1, hmk, hB1, hO1⟩ := buf_made w
  obtain ⟨g, hg⟩ : ∃ g, w.heap.size = g := ⟨_, rfl⟩
  rw [hg] at hmk hB1
  have HB1 := hide hB1
  have HO1 := hide hO1
  have HBY := hide hb
  have HG := hide hg
  clear hB1 hO1 hb hg
  by_cases h0 : held = []
  · have hcv := bytes_back w1 g _ _ _ HB1.out.1
    have e : holdL k held = List.replicate 64 0 := by unfold holdL; rw [if_pos h0]
    have hcv2 : (convert 60 9 (.slice (some ⟨g, 0, none⟩) 64 64)).run Tryz.prog w1 = .ok (.string (str (holdL k held))) w1 := by rw [e]; exact hcv
    obtain ⟨X, hX⟩ : ∃ X, str (holdL k held) = X := ⟨_, rfl⟩
    rw [hX] at hcv2
    rw [hX]
    have h00 : held.length = 0 := by rw [h0]; rfl
    rw [h00]
    clear hcv e hX h0 h00 hl hk
    go_enter Tryz.func58, Tryz.ntmps58
    go_wp2_with fail
    go_ret
    exact ⟨rfl, HO1.out⟩
  · have hpos : 0 < held.length := List.length_pos_iff.2 h0
    have HIS := hide (hold_is k held h0 hl)
    obtain ⟨len, hlen⟩ : ∃ len, held.length = len := ⟨_, rfl⟩
    have HLEN := hide hlen
    have hlp : (0 : Int) < (len : Int) := by omega
    have hl54 : len ≤ 54 := by omega
    have hl256 : (len : Int) % 256 = (len : Int) := by omega
    rw [hlen]
    have HK := hide hk
    clear h0 hk hl hlen
    have q1 := number_any k w1 HK.out
    obtain ⟨N, hN⟩ : ∃ N, str (numL k) = N := ⟨_, rfl⟩
    obtain ⟨X, hX⟩ : ∃ X, str (holdL k held) = X := ⟨_, rfl⟩
    have HXX := hide hX
    rw [hX]
    clear hX
    rw [hN] at q1
    go_enter Tryz.func58, Tryz.ntmps58
    go_wp2_with fail
    refine q1.mono ?_
    clear q1
    rintro e w2 ⟨rfl, ho2⟩
    have HB2 := hide (HB1.out.kept ho2 (fun h => h))
    have HO2 := hide (o2 HO1.out ho2)
    clear ho2
    have hcp := HB2.out.text 0 64 64 (numL k) (by rw [numL_len]; omega) (by rw [numL_len]; omega) 3
    obtain ⟨hB3, hO3⟩ := Bf.sets (numL k) 0 _ w2 HB2.out (by rw [numL_len]; omega)
    rw [hN, numL_len] at hcp
    obtain ⟨w3, hw3⟩ : ∃ w3, w2.setCells g 0 (cells (numL k)) = w3 := ⟨_, rfl⟩
    rw [hw3] at hcp hB3 hO3
    have HB3 := hide hB3
    have HO3 := hide hO3
    clear hw3 hB3 hO3
    obtain ⟨v4, c4⟩ := Option.isSome_iff_exists.1 (HB3.out.there (j := 4) (by omega)).1
    have f4 := (HB3.out.there (j := 4) (by omega)).2
    obtain ⟨x, hx⟩ : ∃ x, UInt8.ofNat held.length = x := ⟨_, rfl⟩
    have hxn : (x.toNat : Int) = (len : Int) := by rw [← hx, HLEN.out]; exact byte_nat (by omega)
    obtain ⟨hB4, hO4⟩ := HB3.out.set 4 x
    rw [hxn] at hB4 hO4
    obtain ⟨w4, hw4⟩ : ∃ w4, w3.setCell ⟨g, 4, none⟩ (.int .u8 (len : Int)) = w4 := ⟨_, rfl⟩
    rw [hw4] at hB4 hO4
    have HB4 := hide hB4
    have HO4 := hide (HO3.out.trans hO4 (fun _ _ h => h))
    have HX := hide hx
    have HXN := hide hxn
    have HW4 := hide hw4
    clear hB4 hO4 hx hxn hw4
    go_upto_region 5 with fail
    rw [HW4.out]
    clear c4 f4 hcp
    have HBY4 : Hid (Bys w4 B ao held) := (HBY.out.kept HO2.out (fun _ h => h)).kept HO4.out (fun h0 e => by have h1 := HBY.out.lt h0; have h2 := HG.out; omega)
    have hcp := HB4.out.bytes 5 59 59 B ao held cp HBY4.out hpos (by have := HLEN.out; omega) (by have := HLEN.out; omega) 3
    obtain ⟨hB5, hO5⟩ := Bf.sets held 5 _ w4 HB4.out (by have := HLEN.out; omega)
    rw [HLEN.out] at hcp
    obtain ⟨w5, hw5⟩ : ∃ w5, w4.setCells g 5 (cells held) = w5 := ⟨_, rfl⟩
    rw [hw5] at hcp hB5 hO5
    have HB5 := hide hB5
    have HO5 := hide (HO4.out.trans hO5 (fun _ _ h => h))
    clear hw5 hB5 hO5
    obtain ⟨v5, c5⟩ := Option.isSome_iff_exists.1 (HB5.out.there (j := 59) (by omega)).1
    have f5 := (HB5.out.there (j := 59) (by omega)).2
    obtain ⟨hB6, hO6⟩ := HB5.out.set 59 x
    rw [HXN.out] at hB6 hO6
    obtain ⟨w6, hw6⟩ : ∃ w6, w5.setCell ⟨g, 59, none⟩ (.int .u8 (len : Int)) = w6 := ⟨_, rfl⟩
    rw [hw6] at hB6 hO6
    have HB6 := hide hB6
    have HO6 := hide (HO5.out.trans hO6 (fun _ _ h => h))
    have HW6 := hide hw6
    clear hB6 hO6 hw6
    go_upto_region 7 with fail
    rw [HW6.out]
    clear c5 f5 hcp
    have q7 := number_any k w6.drew HK.out
    rw [hN] at q7
    have Q7 := hide q7
    clear q7
    refine wp_region_noPanic ?_
    refine wp_region_held_drew (S := fun _ => True) (by kernel_rfl) (trivial) (fun hHeld => ?_)
    refine wpAnyH_take (i := 0) (oi := { dst := some 28, op := Op.move (Operand.tmp 5), type := 60, pos := "block.go:37", after := #[], guard := none }) (v := .slice (some ⟨g, 0, none⟩) 64 64) rfl (by kernel_rfl) (by kernel_rfl) (by kernel_rfl) (fun _ _ _ h => h) (Or.inl ⟨by rfl, fun w' hSw => by clear hSw; go_simp⟩) (by assumption) ?_
    simp only [Act.put, List.setIfInBounds_toArray, List.set_cons_zero, List.set_cons_succ]
    refine wpAnyH_take (i := 2) (oi := { dst := some 30, op := Op.move (Operand.tmp 0), type := 3, pos := "block.go:37", after := #[], guard := none }) (v := .int .i64 (k : Int)) rfl (by kernel_rfl) (by kernel_rfl) (by kernel_rfl) (fun _ _ _ h => h) (Or.inl ⟨by rfl, fun w' hSw => by clear hSw; go_simp⟩) (by assumption) ?_
    simp only [Act.put, List.setIfInBounds_toArray, List.set_cons_zero, List.set_cons_succ]
    refine wpAnyH_take (i := 1) (oi := { dst := some 29, op := Op.slice 60 (Operand.tmp 28) (some (Operand.const (Value.int IntKind.i64 60))) none none, type := 60, pos := "block.go:37", after := #[{ on := 0, ground := Ground.data }], guard := none }) (v := .slice (some ⟨g, 60, none⟩) 4 4) rfl (by kernel_rfl) (by kernel_rfl) (by kernel_rfl) (fun _ _ _ h => h) (Or.inl ⟨by rfl, fun w' hSw => by clear hSw; go_simp⟩) (by assumption) ?_
    simp only [Act.put, List.setIfInBounds_toArray, List.set_cons_zero, List.set_cons_succ]
    refine wpAnyH_ready (rs := [3]) (by kernel_rfl) (by simp) ?_
    refine AllReadyH.cons (o := { dst := some 31, op := Op.call { callee := Callee.value (Operand.func 86), args := #[Operand.tmp 30], argTypes := #[3] }, type := 9, pos := "block.go:37", after := #[{ on := 2, ground := Ground.data }], guard := none }) rfl (fun K hK => ?_) (AllReadyH.nil)
    go_simp
    refine Q7.out.mono ?_
    rintro e x7 ⟨rfl, ho7⟩
    have HB7 := hide ((HB6.out.kept (Only.drew (fun _ => False) w6) (fun h => h)).kept ho7 (fun h => h))
    have HO7 := hide (o2 (Only.drew (fun _ => False) w6) ho7)
    clear ho7
    refine hK.out _ _ (trivial) (fun hHeld => ?_)
    clear hK K
    try simp only [Act.put, List.setIfInBounds_toArray, List.set_cons_zero, List.set_cons_succ]
    refine wpAnyH_ready (rs := [4]) (by kernel_rfl) (by simp) ?_
    refine AllReadyH.cons (o := { dst := some 32, op := Op.call { callee := Callee.builtin Builtin.copy, args := #[Operand.tmp 29, Operand.tmp 31], argTypes := #[60, 9] }, type := 3, pos := "block.go:37", after := #[{ on := 1, ground := Ground.data }, { on := 3, ground := Ground.data }, { on := 3, ground := Ground.chain }], guard := none }) rfl (fun K hK => ?_) (AllReadyH.nil)
    have hcp := HB7.out.text 60 4 4 (numL k) (by rw [numL_len]; omega) (by rw [numL_len]; omega) 3
    obtain ⟨hB8, hO8⟩ := Bf.sets (numL k) 60 _ x7 HB7.out (by rw [numL_len]; omega)
    rw [hN, numL_len] at hcp
    obtain ⟨w8, hw8⟩ : ∃ w8, x7.setCells g 60 (cells (numL k)) = w8 := ⟨_, rfl⟩
    rw [hw8] at hcp hB8 hO8
    have HB8 := hide hB8
    have HO8 := hide hO8
    clear hw8 hB8 hO8
    go_simp
    clear hcp
    refine hK.out _ _ (trivial) (fun hHeld => ?_)
    clear hK K
    try simp only [Act.put, List.setIfInBounds_toArray, List.set_cons_zero, List.set_cons_succ]
    refine wpAnyH_done (by kernel_rfl) ?_ _
    refine NoPanic.normal ?_
    have hcv := bytes_back w8 g _ _ _ HB8.out.1
    have HIS2 := HIS.out
    rw [HX.out] at HIS2
    rw [HIS2] at hcv
    have hcv2 : (convert 60 9 (.slice (some ⟨g, 0, none⟩) 64 64)).run Tryz.prog w8 = .ok (.string (str (holdL k held))) w8 := hcv
    rw [HXX.out] at hcv2
    clear hcv HIS2
    go_wp2_with fail
    go_ret
    have h1 := HG.out
    exact ⟨rfl, ((HO2.out.trans HO6.out (fun i hi e => by omega)).trans HO7.out (fun _ _ h => h)).trans HO8.out (fun i hi e => by omega)⟩
end Go.Proofs.YtfkcbdiffmacgaaGreatDoor

namespace Go.Proofs.YtfkcbdiffmacgaaGreatDoor
open Go.RowKit

/-- The sector of a ring in which block k stands. -/
def secL (ring : List UInt8) (n k : Nat) : List UInt8 := (ring.drop (k % n * 64)).take 64
theorem sectorOf_any (w : World) (ring : ByteArray) (n k : Nat) (hr : ring.size = n * 64) (hn0 : 0 < n) (hn : n ≤ 65536) (hk : k < 4611686018427387904) :
    Calls Tryz.prog 72 #[.string ring, .int .i64 (k : Int)] w fun e w' => e = .returned (.string (str (secL (bl ring) n k))) ∧ w' = w := by
  have hq : ((ring.size : Int)) / 64 = (n : Int) := by omega
  obtain ⟨q, hqq⟩ : ∃ q, k % n = q := ⟨_, rfl⟩
  have hqn : q < n := by rw [← hqq]; exact Nat.mod_lt _ hn0
  have hm : (k : Int).tmod (n : Int) = (q : Int) := by rw [← hqq]; exact (Int.ofNat_tmod k n).symm
  have hm2 : (k : Int) % (n : Int) = (q : Int) := by rw [← hqq]; rfl
  obtain ⟨a, ha⟩ : ∃ a, q * 64 = a := ⟨_, rfl⟩
  have ha1 : (q : Int) * 64 = (a : Int) := by omega
  obtain ⟨b, hb⟩ : ∃ b, a + 64 = b := ⟨_, rfl⟩
  have hb1 : (a : Int) + 64 = (b : Int) := by omega
  have hb2 : (b : Int) ≤ (ring.size : Int) := by omega
  have hab : (a : Int) ≤ (b : Int) := by omega
  obtain ⟨X, hX⟩ : ∃ X, ring.extract a b = X := ⟨_, rfl⟩
  have HX : Hid (str (secL (bl ring) n k) = X) := by
    unfold Hid secL
    rw [← hX, hqq, ha]
    have e : bl (ring.extract a b) = ((bl ring).drop a).take 64 := by rw [ext_bl, List.drop_take, show b - a = 64 from by omega]
    rw [← e, str_bl]
  rw [HX.out]
  have hn1 : (0 : Int) < (n : Int) := by omega
  have hq1 : (q : Int) * 64 ≤ 4194304 := by omega
  have hk1 : (k : Int) < 4611686018427387904 := by omega
  have hsz : (ring.size : Int) ≤ 4194304 := by omega
  clear hr hqq ha hb
  go_enter Tryz.func72, Tryz.ntmps72
  go_wp2_with fail
  go_ret
  exact ⟨rfl, rfl⟩
theorem blk_get (S : ByteArray) (i : Nat) (h : i < S.size) : (bl S)[i]? = some S[i] := by
  have h' : i < S.data.toList.length := by rw [Array.length_toList]; exact h
  show S.data.toList[i]? = _
  rw [List.getElem?_eq_getElem h']
  rfl
set_option maxRecDepth 100000 in
set_option maxHeartbeats 1600000 in
theorem tells_any (w : World) (s : ByteArray) (k : Nat) (hs : s.size = 64) (hk : k < 4294967295) :
    Calls Tryz.prog 71 #[.string s, .int .i64 (k : Int)] w fun e w' => e = .returned (.string (str (tellsL (bl s) k))) ∧ Only (fun _ => False) w w' := by
  have HN0 := hide (fun W => number_any k W hk)
  obtain ⟨N, hN⟩ : ∃ N, str (numL k) = N := ⟨_, rfl⟩
  have HN1 : Hid (∀ W, Calls Tryz.prog 86 #[.int .i64 (k : Int)] W fun e w' => e = .returned (.string N) ∧ Only (fun _ => False) W w') := by
    intro W; rw [← hN]; exact HN0.out W
  obtain ⟨A, hA⟩ : ∃ A, s.extract 0 4 = A := ⟨_, rfl⟩
  obtain ⟨C, hC⟩ : ∃ C, s.extract 60 64 = C := ⟨_, rfl⟩
  have bA : bl A = (bl s).take 4 := by rw [← hA, ext_bl, List.drop_zero]
  have bC : bl C = (bl s).drop 60 := by rw [← hC, ext_bl, List.take_of_length_le (by rw [bl_len]; omega)]
  have hsz : (s.size : Int) = 64 := by omega
  have HSZ := hide hs
  have eqv : ∀ (Y : ByteArray) (l : List UInt8), bl Y = l → ((Y.toList == N.toList) = true ↔ l = numL k) := fun Y l hl => by
    constructor
    · intro h
      have h1 : Y.toList = N.toList := by simpa using h
      have h2 := ba_toList h1
      rw [← hl, h2, ← hN, bl_str]
    · intro h
      have : Y = N := by rw [← str_bl Y, hl, h, hN]
      rw [this]; simp
  have HA := hide (eqv A _ bA)
  have HC := hide (eqv C _ bC)
  have h4 : (4 : Int) ≤ (s.size : Int) := by omega
  have h60 : (60 : Int) ≤ (s.size : Int) := by omega
  clear eqv bA bC hN HN0
  by_cases c1 : (bl s).take 4 = numL k
  · have cA : (A.toList == N.toList) = true := HA.out.2 c1
    by_cases c2 : (bl s).drop 60 = numL k
    · have cC : (C.toList == N.toList) = true := HC.out.2 c2
      have h4' : 4 < s.size := by omega
      have h59' : 59 < s.size := by omega
      obtain ⟨x4, hx4⟩ : ∃ x, s[4] = x := ⟨_, rfl⟩
      obtain ⟨x59, hx59⟩ : ∃ x, s[59] = x := ⟨_, rfl⟩
      have g4 : (bl s).getD 4 0 = x4 := by rw [List.getD_eq_getElem?_getD, blk_get s 4 h4', hx4]; rfl
      have g59 : (bl s).getD 59 0 = x59 := by rw [List.getD_eq_getElem?_getD, blk_get s 59 h59', hx59]; rfl
      obtain ⟨p, hp⟩ : ∃ p, x4.toNat = p := ⟨_, rfl⟩
      obtain ⟨q, hq⟩ : ∃ q, x59.toNat = q := ⟨_, rfl⟩
      have hpb : p < 256 := by rw [← hp]; exact UInt8.toNat_lt x4
      have hqb : q < 256 := by rw [← hq]; exact UInt8.toNat_lt x59
      have hw4 : wrap64 (x4.toNat : Int) = (p : Int) := by rw [hp]; unfold wrap64; omega
      have hw59 : wrap64 (x59.toNat : Int) = (q : Int) := by rw [hq]; unfold wrap64; omega
      obtain ⟨c, hc⟩ : ∃ c : Nat, min (min p q) 54 = c := ⟨_, rfl⟩
      have hmin : (if (54 : Int) < (if (q : Int) < (p : Int) then (q : Int) else (p : Int)) then (54 : Int) else (if (q : Int) < (p : Int) then (q : Int) else (p : Int))) = (c : Int) := by
        split <;> split <;> omega
      obtain ⟨e5, he5⟩ : ∃ e : Nat, 5 + c = e := ⟨_, rfl⟩
      have he5i : (5 : Int) + (c : Int) = (e5 : Int) := by omega
      have he51 : (5 : Int) ≤ (e5 : Int) := by omega
      have he52 : (e5 : Int) ≤ (s.size : Int) := by omega
      obtain ⟨R, hR⟩ : ∃ R, s.extract 5 e5 = R := ⟨_, rfl⟩
      have HR : Hid (str (tellsL (bl s) k) = R) := by
        unfold Hid tellsL
        rw [if_pos ⟨c1, c2⟩, g4, g59, hp, hq, hc, ← hR]
        have e : bl (s.extract 5 e5) = ((bl s).drop 5).take c := by rw [ext_bl, List.drop_take, show e5 - 5 = c from by omega]
        rw [← e, str_bl]
      rw [HR.out]
      have HW4 := hide hw4
      have HW59 := hide hw59
      have HMIN := hide hmin
      clear g4 g59 hp hq hpb hqb hc he5 c1 c2 HA HC hw4 hw59 hmin hk
      have h4i : (4 : Int) < (s.size : Int) := by omega
      have h59i : (59 : Int) < (s.size : Int) := by omega
      go_enter Tryz.func71, Tryz.ntmps71
      go_upto_region 1 with fail
      refine wp_region_noPanic ?_
      refine wp_region_held_drew (S := fun _ => True) (by kernel_rfl) (trivial) (fun hHeld => ?_)
      refine wpAnyH_take (i := 0) (oi := { dst := some 6, op := Op.move (Operand.tmp 0), type := 9, pos := "block.go:44", after := #[], guard := none }) (v := .string s) rfl (by kernel_rfl) (by kernel_rfl) (by kernel_rfl) (fun _ _ _ h => h) (Or.inl ⟨by rfl, fun w' hSw => by clear hSw; go_simp⟩) (by assumption) ?_
      simp only [Act.put, List.setIfInBounds_toArray, List.set_cons_zero, List.set_cons_succ]
      refine wpAnyH_take (i := 2) (oi := { dst := some 8, op := Op.move (Operand.tmp 1), type := 3, pos := "block.go:44", after := #[], guard := none }) (v := .int .i64 (k : Int)) rfl (by kernel_rfl) (by kernel_rfl) (by kernel_rfl) (fun _ _ _ h => h) (Or.inl ⟨by rfl, fun w' hSw => by clear hSw; go_simp⟩) (by assumption) ?_
      simp only [Act.put, List.setIfInBounds_toArray, List.set_cons_zero, List.set_cons_succ]
      refine wpAnyH_take (i := 1) (oi := { dst := some 7, op := Op.slice 9 (Operand.tmp 6) none (some (Operand.const (Value.int IntKind.i64 4))) none, type := 9, pos := "block.go:44", after := #[{ on := 0, ground := Ground.data }], guard := none }) (v := .string A) rfl (by kernel_rfl) (by kernel_rfl) (by kernel_rfl) (fun _ _ _ h => h) (Or.inl ⟨by rfl, fun w' hSw => by clear hSw; go_simp⟩) (by assumption) ?_
      simp only [Act.put, List.setIfInBounds_toArray, List.set_cons_zero, List.set_cons_succ]
      refine wpAnyH_ready (rs := [3]) (by kernel_rfl) (by simp) ?_
      refine AllReadyH.cons (o := { dst := some 9, op := Op.call { callee := Callee.value (Operand.func 86), args := #[Operand.tmp 8], argTypes := #[3] }, type := 9, pos := "block.go:44", after := #[{ on := 2, ground := Ground.data }], guard := none }) rfl (fun K hK => ?_) (AllReadyH.nil)
      go_simp
      refine (HN1.out _).mono ?_
      rintro e x1 ⟨rfl, hx1⟩
      have X1 := hide (o2 (Only.drew (fun _ => False) w) hx1)
      clear hx1
      refine hK.out _ _ (trivial) (fun hHeld => ?_)
      clear hK K
      try simp only [Act.put, List.setIfInBounds_toArray, List.set_cons_zero, List.set_cons_succ]
      refine wpAnyH_take (i := 4) (oi := { dst := some 10, op := Op.binOp BinOp.neq 9 (Operand.tmp 7) (Operand.tmp 9) 9, type := 4, pos := "block.go:44", after := #[{ on := 1, ground := Ground.data }, { on := 3, ground := Ground.data }], guard := none }) (v := .bool false) rfl (by kernel_rfl) (by kernel_rfl) (by kernel_rfl) (fun _ _ _ h => h) (Or.inl ⟨by rfl, fun w' hSw => by clear hSw; go_simp⟩) (by assumption) ?_
      simp only [Act.put, List.setIfInBounds_toArray, List.set_cons_zero, List.set_cons_succ]
      refine wpAnyH_take (i := 5) (oi := { dst := some 11, op := Op.move (Operand.tmp 10), type := 4, pos := "block.go:44", after := #[{ on := 4, ground := Ground.data }, { on := 3, ground := Ground.chain }], guard := none }) (v := .bool false) rfl (by kernel_rfl) (by kernel_rfl) (by kernel_rfl) (fun _ _ _ h => h) (Or.inl ⟨by rfl, fun w' hSw => by clear hSw; go_simp⟩) (by assumption) ?_
      simp only [Act.put, List.setIfInBounds_toArray, List.set_cons_zero, List.set_cons_succ]
      refine wpAnyH_take (i := 6) (oi := { dst := some 12, op := Op.move (Operand.tmp 0), type := 9, pos := "block.go:44", after := #[{ on := 5, ground := Ground.guard }], guard := some (5, false) }) (v := .string s) rfl (by kernel_rfl) (by kernel_rfl) (by kernel_rfl) (fun _ _ _ h => h) (Or.inl ⟨by rfl, fun w' hSw => by clear hSw; go_simp⟩) (by assumption) ?_
      simp only [Act.put, List.setIfInBounds_toArray, List.set_cons_zero, List.set_cons_succ]
      refine wpAnyH_take (i := 8) (oi := { dst := some 14, op := Op.move (Operand.tmp 1), type := 3, pos := "block.go:44", after := #[{ on := 5, ground := Ground.guard }], guard := some (5, false) }) (v := .int .i64 (k : Int)) rfl (by kernel_rfl) (by kernel_rfl) (by kernel_rfl) (fun _ _ _ h => h) (Or.inl ⟨by rfl, fun w' hSw => by clear hSw; go_simp⟩) (by assumption) ?_
      simp only [Act.put, List.setIfInBounds_toArray, List.set_cons_zero, List.set_cons_succ]
      refine wpAnyH_take (i := 7) (oi := { dst := some 13, op := Op.slice 9 (Operand.tmp 12) (some (Operand.const (Value.int IntKind.i64 60))) none none, type := 9, pos := "block.go:44", after := #[{ on := 6, ground := Ground.data }, { on := 5, ground := Ground.guard }], guard := some (5, false) }) (v := .string C) rfl (by kernel_rfl) (by kernel_rfl) (by kernel_rfl) (fun _ _ _ h => h) (Or.inl ⟨by rfl, fun w' hSw => by clear hSw; go_simp⟩) (by assumption) ?_
      simp only [Act.put, List.setIfInBounds_toArray, List.set_cons_zero, List.set_cons_succ]
      refine wpAnyH_ready (rs := [9]) (by kernel_rfl) (by simp) ?_
      refine AllReadyH.cons (o := { dst := some 15, op := Op.call { callee := Callee.value (Operand.func 86), args := #[Operand.tmp 14], argTypes := #[3] }, type := 9, pos := "block.go:44", after := #[{ on := 8, ground := Ground.data }, { on := 5, ground := Ground.chain }, { on := 5, ground := Ground.guard }], guard := some (5, false) }) rfl (fun K hK => ?_) (AllReadyH.nil)
      go_simp
      refine (HN1.out _).mono ?_
      rintro e x2 ⟨rfl, hx2⟩
      have X2 := hide (o2 X1.out hx2)
      clear hx2
      refine hK.out _ _ (trivial) (fun hHeld => ?_)
      clear hK K
      try simp only [Act.put, List.setIfInBounds_toArray, List.set_cons_zero, List.set_cons_succ]
      refine wpAnyH_take (i := 10) (oi := { dst := some 16, op := Op.binOp BinOp.neq 9 (Operand.tmp 13) (Operand.tmp 15) 9, type := 4, pos := "block.go:44", after := #[{ on := 7, ground := Ground.data }, { on := 9, ground := Ground.data }, { on := 5, ground := Ground.guard }], guard := some (5, false) }) (v := .bool false) rfl (by kernel_rfl) (by kernel_rfl) (by kernel_rfl) (fun _ _ _ h => h) (Or.inl ⟨by rfl, fun w' hSw => by clear hSw; go_simp⟩) (by assumption) ?_
      simp only [Act.put, List.setIfInBounds_toArray, List.set_cons_zero, List.set_cons_succ]
      refine wpAnyH_take (i := 11) (oi := { dst := some 17, op := Op.pick (Operand.tmp 11) (Operand.const (Value.bool true)) (Operand.tmp 16), type := 4, pos := "block.go:44", after := #[{ on := 5, ground := Ground.data }, { on := 10, ground := Ground.data }], guard := none }) (v := .bool false) rfl (by kernel_rfl) (by kernel_rfl) (by kernel_rfl) (fun _ _ _ h => h) (Or.inl ⟨by rfl, fun w' hSw => by clear hSw; go_simp⟩) (by assumption) ?_
      simp only [Act.put, List.setIfInBounds_toArray, List.set_cons_zero, List.set_cons_succ]
      refine wpAnyH_done (by kernel_rfl) ?_ _
      refine NoPanic.normal ?_
      go_upto_region 3 with fail
      go_region
      simp only [HW4.out, HW59.out, HMIN.out]
      go_wp2_with fail
      go_ret
      exact ⟨rfl, o2 X2.out (Only.drew _ _)⟩
    · have e : tellsL (bl s) k = [] := by unfold tellsL; rw [if_neg (fun h => c2 h.2)]
      have cC : (C.toList == N.toList) = false := by
        cases hq : (C.toList == N.toList)
        · rfl
        · exact absurd (HC.out.1 hq) c2
      rw [e]
      clear e c1 c2 HA HC
      go_enter Tryz.func71, Tryz.ntmps71
      go_upto_region 1 with fail
      refine wp_region_noPanic ?_
      refine wp_region_held_drew (S := fun _ => True) (by kernel_rfl) (trivial) (fun hHeld => ?_)
      refine wpAnyH_take (i := 0) (oi := { dst := some 6, op := Op.move (Operand.tmp 0), type := 9, pos := "block.go:44", after := #[], guard := none }) (v := .string s) rfl (by kernel_rfl) (by kernel_rfl) (by kernel_rfl) (fun _ _ _ h => h) (Or.inl ⟨by rfl, fun w' hSw => by clear hSw; go_simp⟩) (by assumption) ?_
      simp only [Act.put, List.setIfInBounds_toArray, List.set_cons_zero, List.set_cons_succ]
      refine wpAnyH_take (i := 2) (oi := { dst := some 8, op := Op.move (Operand.tmp 1), type := 3, pos := "block.go:44", after := #[], guard := none }) (v := .int .i64 (k : Int)) rfl (by kernel_rfl) (by kernel_rfl) (by kernel_rfl) (fun _ _ _ h => h) (Or.inl ⟨by rfl, fun w' hSw => by clear hSw; go_simp⟩) (by assumption) ?_
      simp only [Act.put, List.setIfInBounds_toArray, List.set_cons_zero, List.set_cons_succ]
      refine wpAnyH_take (i := 1) (oi := { dst := some 7, op := Op.slice 9 (Operand.tmp 6) none (some (Operand.const (Value.int IntKind.i64 4))) none, type := 9, pos := "block.go:44", after := #[{ on := 0, ground := Ground.data }], guard := none }) (v := .string A) rfl (by kernel_rfl) (by kernel_rfl) (by kernel_rfl) (fun _ _ _ h => h) (Or.inl ⟨by rfl, fun w' hSw => by clear hSw; go_simp⟩) (by assumption) ?_
      simp only [Act.put, List.setIfInBounds_toArray, List.set_cons_zero, List.set_cons_succ]
      refine wpAnyH_ready (rs := [3]) (by kernel_rfl) (by simp) ?_
      refine AllReadyH.cons (o := { dst := some 9, op := Op.call { callee := Callee.value (Operand.func 86), args := #[Operand.tmp 8], argTypes := #[3] }, type := 9, pos := "block.go:44", after := #[{ on := 2, ground := Ground.data }], guard := none }) rfl (fun K hK => ?_) (AllReadyH.nil)
      go_simp
      refine (HN1.out _).mono ?_
      rintro e x1 ⟨rfl, hx1⟩
      have X1 := hide (o2 (Only.drew (fun _ => False) w) hx1)
      clear hx1
      refine hK.out _ _ (trivial) (fun hHeld => ?_)
      clear hK K
      try simp only [Act.put, List.setIfInBounds_toArray, List.set_cons_zero, List.set_cons_succ]
      refine wpAnyH_take (i := 4) (oi := { dst := some 10, op := Op.binOp BinOp.neq 9 (Operand.tmp 7) (Operand.tmp 9) 9, type := 4, pos := "block.go:44", after := #[{ on := 1, ground := Ground.data }, { on := 3, ground := Ground.data }], guard := none }) (v := .bool false) rfl (by kernel_rfl) (by kernel_rfl) (by kernel_rfl) (fun _ _ _ h => h) (Or.inl ⟨by rfl, fun w' hSw => by clear hSw; go_simp⟩) (by assumption) ?_
      simp only [Act.put, List.setIfInBounds_toArray, List.set_cons_zero, List.set_cons_succ]
      refine wpAnyH_take (i := 5) (oi := { dst := some 11, op := Op.move (Operand.tmp 10), type := 4, pos := "block.go:44", after := #[{ on := 4, ground := Ground.data }, { on := 3, ground := Ground.chain }], guard := none }) (v := .bool false) rfl (by kernel_rfl) (by kernel_rfl) (by kernel_rfl) (fun _ _ _ h => h) (Or.inl ⟨by rfl, fun w' hSw => by clear hSw; go_simp⟩) (by assumption) ?_
      simp only [Act.put, List.setIfInBounds_toArray, List.set_cons_zero, List.set_cons_succ]
      refine wpAnyH_take (i := 6) (oi := { dst := some 12, op := Op.move (Operand.tmp 0), type := 9, pos := "block.go:44", after := #[{ on := 5, ground := Ground.guard }], guard := some (5, false) }) (v := .string s) rfl (by kernel_rfl) (by kernel_rfl) (by kernel_rfl) (fun _ _ _ h => h) (Or.inl ⟨by rfl, fun w' hSw => by clear hSw; go_simp⟩) (by assumption) ?_
      simp only [Act.put, List.setIfInBounds_toArray, List.set_cons_zero, List.set_cons_succ]
      refine wpAnyH_take (i := 8) (oi := { dst := some 14, op := Op.move (Operand.tmp 1), type := 3, pos := "block.go:44", after := #[{ on := 5, ground := Ground.guard }], guard := some (5, false) }) (v := .int .i64 (k : Int)) rfl (by kernel_rfl) (by kernel_rfl) (by kernel_rfl) (fun _ _ _ h => h) (Or.inl ⟨by rfl, fun w' hSw => by clear hSw; go_simp⟩) (by assumption) ?_
      simp only [Act.put, List.setIfInBounds_toArray, List.set_cons_zero, List.set_cons_succ]
      refine wpAnyH_take (i := 7) (oi := { dst := some 13, op := Op.slice 9 (Operand.tmp 12) (some (Operand.const (Value.int IntKind.i64 60))) none none, type := 9, pos := "block.go:44", after := #[{ on := 6, ground := Ground.data }, { on := 5, ground := Ground.guard }], guard := some (5, false) }) (v := .string C) rfl (by kernel_rfl) (by kernel_rfl) (by kernel_rfl) (fun _ _ _ h => h) (Or.inl ⟨by rfl, fun w' hSw => by clear hSw; go_simp⟩) (by assumption) ?_
      simp only [Act.put, List.setIfInBounds_toArray, List.set_cons_zero, List.set_cons_succ]
      refine wpAnyH_ready (rs := [9]) (by kernel_rfl) (by simp) ?_
      refine AllReadyH.cons (o := { dst := some 15, op := Op.call { callee := Callee.value (Operand.func 86), args := #[Operand.tmp 14], argTypes := #[3] }, type := 9, pos := "block.go:44", after := #[{ on := 8, ground := Ground.data }, { on := 5, ground := Ground.chain }, { on := 5, ground := Ground.guard }], guard := some (5, false) }) rfl (fun K hK => ?_) (AllReadyH.nil)
      go_simp
      refine (HN1.out _).mono ?_
      rintro e x2 ⟨rfl, hx2⟩
      have X2 := hide (o2 X1.out hx2)
      clear hx2
      refine hK.out _ _ (trivial) (fun hHeld => ?_)
      clear hK K
      try simp only [Act.put, List.setIfInBounds_toArray, List.set_cons_zero, List.set_cons_succ]
      refine wpAnyH_take (i := 10) (oi := { dst := some 16, op := Op.binOp BinOp.neq 9 (Operand.tmp 13) (Operand.tmp 15) 9, type := 4, pos := "block.go:44", after := #[{ on := 7, ground := Ground.data }, { on := 9, ground := Ground.data }, { on := 5, ground := Ground.guard }], guard := some (5, false) }) (v := .bool true) rfl (by kernel_rfl) (by kernel_rfl) (by kernel_rfl) (fun _ _ _ h => h) (Or.inl ⟨by rfl, fun w' hSw => by clear hSw; go_simp⟩) (by assumption) ?_
      simp only [Act.put, List.setIfInBounds_toArray, List.set_cons_zero, List.set_cons_succ]
      refine wpAnyH_take (i := 11) (oi := { dst := some 17, op := Op.pick (Operand.tmp 11) (Operand.const (Value.bool true)) (Operand.tmp 16), type := 4, pos := "block.go:44", after := #[{ on := 5, ground := Ground.data }, { on := 10, ground := Ground.data }], guard := none }) (v := .bool true) rfl (by kernel_rfl) (by kernel_rfl) (by kernel_rfl) (fun _ _ _ h => h) (Or.inl ⟨by rfl, fun w' hSw => by clear hSw; go_simp⟩) (by assumption) ?_
      simp only [Act.put, List.setIfInBounds_toArray, List.set_cons_zero, List.set_cons_succ]
      refine wpAnyH_done (by kernel_rfl) ?_ _
      refine NoPanic.normal ?_
      go_wp2_with fail
      go_ret
      exact ⟨rfl, X2.out⟩
  · have e : tellsL (bl s) k = [] := by unfold tellsL; rw [if_neg (fun h => c1 h.1)]
    have cA : (A.toList == N.toList) = false := by
      cases hq : (A.toList == N.toList)
      · rfl
      · exact absurd (HA.out.1 hq) c1
    rw [e]
    clear e c1 HA HC
    go_enter Tryz.func71, Tryz.ntmps71
    go_upto_region 1 with fail
    refine wp_region_noPanic ?_
    refine wp_region_held_drew (S := fun _ => True) (by kernel_rfl) (trivial) (fun hHeld => ?_)
    refine wpAnyH_take (i := 0) (oi := { dst := some 6, op := Op.move (Operand.tmp 0), type := 9, pos := "block.go:44", after := #[], guard := none }) (v := .string s) rfl (by kernel_rfl) (by kernel_rfl) (by kernel_rfl) (fun _ _ _ h => h) (Or.inl ⟨by rfl, fun w' hSw => by clear hSw; go_simp⟩) (by assumption) ?_
    simp only [Act.put, List.setIfInBounds_toArray, List.set_cons_zero, List.set_cons_succ]
    refine wpAnyH_take (i := 2) (oi := { dst := some 8, op := Op.move (Operand.tmp 1), type := 3, pos := "block.go:44", after := #[], guard := none }) (v := .int .i64 (k : Int)) rfl (by kernel_rfl) (by kernel_rfl) (by kernel_rfl) (fun _ _ _ h => h) (Or.inl ⟨by rfl, fun w' hSw => by clear hSw; go_simp⟩) (by assumption) ?_
    simp only [Act.put, List.setIfInBounds_toArray, List.set_cons_zero, List.set_cons_succ]
    refine wpAnyH_take (i := 1) (oi := { dst := some 7, op := Op.slice 9 (Operand.tmp 6) none (some (Operand.const (Value.int IntKind.i64 4))) none, type := 9, pos := "block.go:44", after := #[{ on := 0, ground := Ground.data }], guard := none }) (v := .string A) rfl (by kernel_rfl) (by kernel_rfl) (by kernel_rfl) (fun _ _ _ h => h) (Or.inl ⟨by rfl, fun w' hSw => by clear hSw; go_simp⟩) (by assumption) ?_
    simp only [Act.put, List.setIfInBounds_toArray, List.set_cons_zero, List.set_cons_succ]
    refine wpAnyH_ready (rs := [3]) (by kernel_rfl) (by simp) ?_
    refine AllReadyH.cons (o := { dst := some 9, op := Op.call { callee := Callee.value (Operand.func 86), args := #[Operand.tmp 8], argTypes := #[3] }, type := 9, pos := "block.go:44", after := #[{ on := 2, ground := Ground.data }], guard := none }) rfl (fun K hK => ?_) (AllReadyH.nil)
    go_simp
    refine (HN1.out _).mono ?_
    rintro e x1 ⟨rfl, hx1⟩
    have X1 := hide (o2 (Only.drew (fun _ => False) w) hx1)
    clear hx1
    refine hK.out _ _ (trivial) (fun hHeld => ?_)
    clear hK K
    try simp only [Act.put, List.setIfInBounds_toArray, List.set_cons_zero, List.set_cons_succ]
    refine wpAnyH_take (i := 4) (oi := { dst := some 10, op := Op.binOp BinOp.neq 9 (Operand.tmp 7) (Operand.tmp 9) 9, type := 4, pos := "block.go:44", after := #[{ on := 1, ground := Ground.data }, { on := 3, ground := Ground.data }], guard := none }) (v := .bool true) rfl (by kernel_rfl) (by kernel_rfl) (by kernel_rfl) (fun _ _ _ h => h) (Or.inl ⟨by rfl, fun w' hSw => by clear hSw; go_simp⟩) (by assumption) ?_
    simp only [Act.put, List.setIfInBounds_toArray, List.set_cons_zero, List.set_cons_succ]
    refine wpAnyH_take (i := 5) (oi := { dst := some 11, op := Op.move (Operand.tmp 10), type := 4, pos := "block.go:44", after := #[{ on := 4, ground := Ground.data }, { on := 3, ground := Ground.chain }], guard := none }) (v := .bool true) rfl (by kernel_rfl) (by kernel_rfl) (by kernel_rfl) (fun _ _ _ h => h) (Or.inl ⟨by rfl, fun w' hSw => by clear hSw; go_simp⟩) (by assumption) ?_
    simp only [Act.put, List.setIfInBounds_toArray, List.set_cons_zero, List.set_cons_succ]
    refine wpAnyH_take (i := 6) (oi := { dst := some 12, op := Op.move (Operand.tmp 0), type := 9, pos := "block.go:44", after := #[{ on := 5, ground := Ground.guard }], guard := some (5, false) }) (v := undef) rfl (by kernel_rfl) (by kernel_rfl) (by kernel_rfl) (fun _ _ _ h => h) (Or.inr ⟨by rfl, rfl⟩) (by assumption) ?_
    simp only [Act.put, List.setIfInBounds_toArray, List.set_cons_zero, List.set_cons_succ]
    refine wpAnyH_take (i := 8) (oi := { dst := some 14, op := Op.move (Operand.tmp 1), type := 3, pos := "block.go:44", after := #[{ on := 5, ground := Ground.guard }], guard := some (5, false) }) (v := undef) rfl (by kernel_rfl) (by kernel_rfl) (by kernel_rfl) (fun _ _ _ h => h) (Or.inr ⟨by rfl, rfl⟩) (by assumption) ?_
    simp only [Act.put, List.setIfInBounds_toArray, List.set_cons_zero, List.set_cons_succ]
    refine wpAnyH_take (i := 7) (oi := { dst := some 13, op := Op.slice 9 (Operand.tmp 12) (some (Operand.const (Value.int IntKind.i64 60))) none none, type := 9, pos := "block.go:44", after := #[{ on := 6, ground := Ground.data }, { on := 5, ground := Ground.guard }], guard := some (5, false) }) (v := undef) rfl (by kernel_rfl) (by kernel_rfl) (by kernel_rfl) (fun _ _ _ h => h) (Or.inr ⟨by rfl, rfl⟩) (by assumption) ?_
    simp only [Act.put, List.setIfInBounds_toArray, List.set_cons_zero, List.set_cons_succ]
    refine wpAnyH_take (i := 9) (oi := { dst := some 15, op := Op.call { callee := Callee.value (Operand.func 86), args := #[Operand.tmp 14], argTypes := #[3] }, type := 9, pos := "block.go:44", after := #[{ on := 8, ground := Ground.data }, { on := 5, ground := Ground.chain }, { on := 5, ground := Ground.guard }], guard := some (5, false) }) (v := undef) rfl (by kernel_rfl) (by kernel_rfl) (by kernel_rfl) (fun _ _ _ h => h) (Or.inr ⟨by rfl, rfl⟩) (by assumption) ?_
    simp only [Act.put, List.setIfInBounds_toArray, List.set_cons_zero, List.set_cons_succ]
    refine wpAnyH_take (i := 10) (oi := { dst := some 16, op := Op.binOp BinOp.neq 9 (Operand.tmp 13) (Operand.tmp 15) 9, type := 4, pos := "block.go:44", after := #[{ on := 7, ground := Ground.data }, { on := 9, ground := Ground.data }, { on := 5, ground := Ground.guard }], guard := some (5, false) }) (v := undef) rfl (by kernel_rfl) (by kernel_rfl) (by kernel_rfl) (fun _ _ _ h => h) (Or.inr ⟨by rfl, rfl⟩) (by assumption) ?_
    simp only [Act.put, List.setIfInBounds_toArray, List.set_cons_zero, List.set_cons_succ]
    refine wpAnyH_take (i := 11) (oi := { dst := some 17, op := Op.pick (Operand.tmp 11) (Operand.const (Value.bool true)) (Operand.tmp 16), type := 4, pos := "block.go:44", after := #[{ on := 5, ground := Ground.data }, { on := 10, ground := Ground.data }], guard := none }) (v := .bool true) rfl (by kernel_rfl) (by kernel_rfl) (by kernel_rfl) (fun _ _ _ h => h) (Or.inl ⟨by rfl, fun w' hSw => by clear hSw; go_simp⟩) (by assumption) ?_
    simp only [Act.put, List.setIfInBounds_toArray, List.set_cons_zero, List.set_cons_succ]
    refine wpAnyH_done (by kernel_rfl) ?_ _
    refine NoPanic.normal ?_
    go_wp2_with fail
    go_ret
    exact ⟨rfl, X1.out⟩
end Go.Proofs.YtfkcbdiffmacgaaGreatDoor

namespace Go.Proofs.YtfkcbdiffmacgaaGreatDoor
open Go.RowKit

/-- A log as plain data. -/
structure Lg where
  frm : Nat
  n : Nat
  start : Nat
  tail : Nat
  flushed : Nat
  reserved : Nat
  stream : List UInt8
  places : List Int
/-- The first block of a log. -/
def Lg.b0 (G : Lg) : Nat := (G.start - 1) / 54
/-- The bytes of block k ahead of the tail. -/
def Lg.block (G : Lg) (k : Nat) : List UInt8 := (G.stream.drop ((k - G.b0) * 54)).take 54
structure Lg.Ok (G : Lg) : Prop where
  st : 1 ≤ G.start
  tl : G.start ≤ G.tail
  big : G.tail < 1099511627776
  fl : G.flushed ≤ G.tail
  n4 : 4 ≤ G.n
  nb : G.n ≤ 65536
  fb : G.frm ≤ 65536
  rs : G.reserved ≤ 1099511627776
  ln : G.stream.length < 1099511627776
/-- A log in block l, on the disk in block d; its stream in block B. -/
structure LogAt (W : World) (l d : Nat) (G : Lg) (B : Nat) (ao : Option Addr) (cp : Nat) (v8 : Value) : Prop where
  c0 : W.cell? ⟨l, 0, none⟩ = some (.pointer (some ⟨d, 0, none⟩))
  c1 : W.cell? ⟨l, 1, none⟩ = some (.int .i64 (G.frm : Int))
  c2 : W.cell? ⟨l, 2, none⟩ = some (.int .i64 (G.n : Int))
  c3 : W.cell? ⟨l, 3, none⟩ = some (.int .i64 (G.start : Int))
  c4 : W.cell? ⟨l, 4, none⟩ = some (.int .i64 (G.tail : Int))
  c5 : W.cell? ⟨l, 5, none⟩ = some (.int .i64 (G.flushed : Int))
  c6 : W.cell? ⟨l, 6, none⟩ = some (.int .i64 (G.reserved : Int))
  c7 : W.cell? ⟨l, 7, none⟩ = some (.slice ao G.stream.length cp)
  c8 : W.cell? ⟨l, 8, none⟩ = some v8
  fz : ∀ k, W.frozen? ⟨l, k, none⟩ = false
  lt : l < W.heap.size
  by_ : Bys W B ao G.stream
  nil : ao = none → cp = 0
  at_ : ∀ a, ao = some a → a = ⟨a.block, a.off, none⟩
  le : G.stream.length ≤ cp
  big : cp ≤ maxLen
theorem LogAt.kept {S : Nat → Prop} {W W' : World} {l d : Nat} {G : Lg} {B : Nat} {ao : Option Addr} {cp : Nat} {v8 : Value} (h : LogAt W l d G B ao cp v8) (ho : Only S W W') (h1 : ¬ S l) (h2 : 0 < G.stream.length → ¬ S B) : LogAt W' l d G B ao cp v8 := by
  have k : ∀ (j : Nat) (v : Value), W.cell? ⟨l, j, none⟩ = some v → W'.cell? ⟨l, j, none⟩ = some v := fun j v hj => (ho.cell (p := ⟨l, j, none⟩) h.lt h1).trans hj
  exact ⟨k _ _ h.c0, k _ _ h.c1, k _ _ h.c2, k _ _ h.c3, k _ _ h.c4, k _ _ h.c5, k _ _ h.c6, k _ _ h.c7, k _ _ h.c8, fun j => (ho.frozen (p := ⟨l, j, none⟩) h.lt h1).trans (h.fz j), Nat.lt_of_lt_of_le h.lt ho.size, h.by_.kept ho h2, h.nil, h.at_, h.le, h.big⟩
theorem LogAt.more {W W' : World} {l d : Nat} {G : Lg} {B : Nat} {ao : Option Addr} {cp : Nat} {v8 : Value} (h : LogAt W l d G B ao cp v8) (ho : Only (fun _ => False) W W') : LogAt W' l d G B ao cp v8 := h.kept ho (fun h => h) (fun _ h => h)
theorem tail_any (w : World) (l d : Nat) (G : Lg) (B : Nat) (ao : Option Addr) (cp : Nat) (v8 : Value) (h : LogAt w l d G B ao cp v8) : Calls Tryz.prog 9 #[.pointer (some ⟨l, 0, none⟩)] w fun e w' => e = .returned (.int .i64 (G.tail : Int)) ∧ w' = w := by
  have h4 := h.c4
  go_enter Tryz.func9, Tryz.ntmps9
  go_wp2
  go_ret
  exact ⟨rfl, rfl⟩
theorem tail_nil (w : World) : Calls Tryz.prog 9 #[.pointer none] w fun e w' => e = .returned (.int .i64 0) ∧ w' = w := by
  go_enter Tryz.func9, Tryz.ntmps9
  go_wp2
  go_ret
  exact ⟨rfl, rfl⟩
theorem flushed_nil (w : World) : Calls Tryz.prog 19 #[.pointer none] w fun e w' => e = .returned (.int .i64 0) ∧ w' = w := by
  go_enter Tryz.func19, Tryz.ntmps19
  go_wp2
  go_ret
  exact ⟨rfl, rfl⟩
theorem start_nil (w : World) : Calls Tryz.prog 13 #[.pointer none] w fun e w' => e = .returned (.int .i64 0) ∧ w' = w := by
  go_enter Tryz.func13, Tryz.ntmps13
  go_wp2
  go_ret
  exact ⟨rfl, rfl⟩
theorem room_nil (w : World) : Calls Tryz.prog 8 #[.pointer none] w fun e w' => e = .returned (.int .i64 0) ∧ w' = w := by
  go_enter Tryz.func8, Tryz.ntmps8
  go_wp2
  go_ret
  exact ⟨rfl, rfl⟩
theorem reserve_nil (w : World) (n : Int) : Calls Tryz.prog 11 #[.pointer none, .int .i64 n] w fun e w' => e = .returned (.int .i64 2) ∧ w' = w := by
  go_enter Tryz.func11, Tryz.ntmps11
  go_wp2
  go_ret
  exact ⟨rfl, rfl⟩
theorem release_nil (w : World) (n : Int) : Calls Tryz.prog 12 #[.pointer none, .int .i64 n] w fun e w' => e = .returned (.int .i64 2) ∧ w' = w := by
  go_enter Tryz.func12, Tryz.ntmps12
  go_wp2
  go_ret
  exact ⟨rfl, rfl⟩
theorem flush_nil (w : World) (n : Int) : Calls Tryz.prog 17 #[.pointer none, .int .i64 n] w fun e w' => e = .returned (.int .i64 2) ∧ w' = w := by
  go_enter Tryz.func17, Tryz.ntmps17
  go_wp2
  go_ret
  exact ⟨rfl, rfl⟩
theorem recycle_nil (w : World) (n : Int) : Calls Tryz.prog 18 #[.pointer none, .int .i64 n] w fun e w' => e = .returned (.int .i64 2) ∧ w' = w := by
  go_enter Tryz.func18, Tryz.ntmps18
  go_wp2
  go_ret
  exact ⟨rfl, rfl⟩
end Go.Proofs.YtfkcbdiffmacgaaGreatDoor

namespace Go.Proofs.YtfkcbdiffmacgaaGreatDoor
open Go.RowKit

theorem Bys.sub {w : World} {B : Nat} {b o : Nat} {l : List UInt8} (h : Bys w B (some ⟨b, o, none⟩) l) (s e cp : Nat) (hse : s ≤ e) (he : e ≤ l.length) (hc : l.length ≤ cp) :
    Bys w B (if cp = s then some ⟨b, o, none⟩ else some ⟨b, o + s, none⟩) ((l.drop s).take (e - s)) := by
  have hl : ((l.drop s).take (e - s)).length = e - s := by rw [List.length_take, List.length_drop]; omega
  refine ⟨fun h0 => ?_, fun h0 => h.lt (by omega)⟩
  rw [hl] at h0
  obtain ⟨o', e1, hcl⟩ := h.at_ (by omega)
  injection e1 with e1
  injection e1 with e1 e2 _
  subst e1
  subst e2
  rw [if_neg (by omega)]
  refine ⟨o + s, rfl, fun j hj => ?_⟩
  rw [hl] at hj
  have := hcl (s + j) (by omega)
  rw [← Nat.add_assoc] at this
  rw [this]
  congr 3
  simp
set_option maxRecDepth 100000 in
theorem block_any (w : World) (l d : Nat) (G : Lg) (B : Nat) (ao : Option Addr) (cp : Nat) (v8 : Value) (h : LogAt w l d G B ao cp v8) (ok : G.Ok) (k : Nat) (hk0 : G.b0 ≤ k) (hk : k < 1099511627776) :
    Calls Tryz.prog 59 #[.pointer (some ⟨l, 0, none⟩), .int .i64 (k : Int)] w fun e w' => (∃ A2 c2, e = .returned (.slice A2 (G.block k).length c2) ∧ Bys w B A2 (G.block k)) ∧ w' = w := by
  have c3 := h.c3
  have c7 := h.c7
  have q := fun W => blockOf_any G.start W ok.st (by have := ok.tl; have := ok.big; omega)
  have hb0 : (G.start - 1) / 54 = G.b0 := rfl
  rw [hb0] at q
  have HQ := hide q
  have HB := hide h.by_
  have HNIL := hide h.nil
  have HAT := hide h.at_
  have hle := h.le
  have hbig := h.big
  unfold maxLen at hbig
  have hln := ok.ln
  obtain ⟨len, hlen⟩ : ∃ len, G.stream.length = len := ⟨_, rfl⟩
  obtain ⟨bs, hbs⟩ : ∃ b, G.b0 = b := ⟨_, rfl⟩
  obtain ⟨at_, hat⟩ : ∃ a, (k - bs) * 54 = a := ⟨_, rfl⟩
  obtain ⟨en, hen⟩ : ∃ e, min (at_ + 54) len = e := ⟨_, rfl⟩
  obtain ⟨s0, hs0⟩ : ∃ s, min at_ en = s := ⟨_, rfl⟩
  have hblk : G.block k = (G.stream.drop s0).take (en - s0) := by
    unfold Lg.block
    rw [hbs, hat]
    by_cases hc : at_ ≤ len
    · have e1 : s0 = at_ := by omega
      rw [e1]
      by_cases hd : at_ + 54 ≤ len
      · rw [show en - at_ = 54 from by omega]
      · rw [show en - at_ = len - at_ from by omega, List.take_of_length_le (by rw [List.length_drop]; omega), List.take_of_length_le (by rw [List.length_drop]; omega)]
    · rw [show en - s0 = 0 from by omega, List.take_zero, List.drop_of_length_le (by omega)]
      rfl
  have hbl : (G.block k).length = en - s0 := by rw [hblk, List.length_take, List.length_drop]; omega
  rw [hbl]
  rw [hlen] at c7 hle hln
  rw [hbs] at HQ hk0
  have e1 : ((k : Int) - (bs : Int)) * 54 = (at_ : Int) := by omega
  have e2 : min ((at_ : Int) + 54) (len : Int) = (en : Int) := by omega
  have e3 : min (at_ : Int) (en : Int) = (s0 : Int) := by omega
  have hse : s0 ≤ en := by omega
  have hel : en ≤ len := by omega
  have i1 : (s0 : Int) ≤ (en : Int) := by omega
  have i2 : (en : Int) ≤ (cp : Int) := by omega
  have i3 : (k : Int) < 1099511627776 := by omega
  have i4 : (bs : Int) ≤ (k : Int) := by omega
  have i5 : (at_ : Int) < 60000000000000 := by omega
  have i6 : (0 : Int) ≤ (s0 : Int) := by omega
  have HBLK := hide hblk
  have HLEN := hide hlen
  clear h ok hk0 hk hb0 q hbs hat hen hs0 hblk hbl hlen
  cases ao with
  | none =>
    have hc0 := HNIL.out rfl
    subst hc0
    have z1 : len = 0 := by omega
    have z2 : en = 0 := by omega
    have z3 : s0 = 0 := by omega
    have e4 : min ((at_ : Int) + 54) 0 = 0 := by omega
    have e5 : min (at_ : Int) 0 = 0 := by omega
    subst z1
    subst z2
    subst z3
    have HFIN : Hid (Bys w B none (G.block k)) := by
      unfold Hid
      rw [HBLK.out]
      exact ⟨fun h0 => absurd h0 (by simp), fun h0 => absurd h0 (by simp)⟩
    go_enter Tryz.func59, Tryz.ntmps59
    go_wp2_with (first
      | (go_at_call 30; refine (HQ.out _).mono ?_; rintro e w' ⟨rfl, hw⟩; obtain rfl := hw.symm; clear hw))
    go_ret
    exact ⟨⟨_, _, rfl, HFIN.out⟩, rfl⟩
  | some a =>
    have ha := HAT.out a rfl
    obtain ⟨b, o, sp⟩ := a
    simp at ha
    subst ha
    obtain ⟨A2, hA2⟩ : ∃ A2, (if cp = s0 then some (⟨b, o, none⟩ : Addr) else some ⟨b, o + s0, none⟩) = A2 := ⟨_, rfl⟩
    have hfin := HB.out.sub s0 en cp hse (by rw [HLEN.out]; exact hel) (by rw [HLEN.out]; exact hle)
    rw [hA2, ← HBLK.out] at hfin
    have HFIN := hide hfin
    clear hfin
    go_enter Tryz.func59, Tryz.ntmps59
    go_wp2_with (first
      | (go_at_call 30; refine (HQ.out _).mono ?_; rintro e w' ⟨rfl, hw⟩; obtain rfl := hw.symm; clear hw))
    go_ret
    exact ⟨⟨A2, _, rfl, HFIN.out⟩, rfl⟩
end Go.Proofs.YtfkcbdiffmacgaaGreatDoor
