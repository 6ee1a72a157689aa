/- What hold does. -/
import Derived.Test.YtebijheonkagfaaGreatDoorKPc
import Derived.Lib.LazyBuf
import Derived.Laws.IdiomCopy
import Derived.Deep.RegionHeld3
import Derived.Test.YtebijheonkagfaaGreatDoorKPd
import Derived.Test.YtebijheonkagfaaGreatDoorKTk
namespace Go.Proofs.YtebijheonkagfaaGreatDoor
open Go.RowKit
def numL (k : Nat) : List UInt8 := bigF 4 (k + 1)
def holdL (k : Nat) (held : List UInt8) : List UInt8 :=
  if held = [] then List.replicate 64 0 else numL k ++ (UInt8.ofNat held.length :: (held ++ (List.replicate (54 - held.length) 0 ++ (UInt8.ofNat held.length :: numL k))))
theorem numL_len (k : Nat) : (numL k).length = 4 := bigF_len 4 (k + 1)
theorem hold_len (k : Nat) (held : List UInt8) (h : held.length ≤ 54) : (holdL k held).length = 64 := by
  unfold holdL
  split
  · simp
  · simp only [List.length_append, List.length_cons, numL_len, List.length_replicate]; omega
theorem blockOf_any (p : Nat) (w : World) (h1 : 1 ≤ p) (h2 : p < 4611686018427387904) : Calls Tryz.prog 121 #[.int .i64 (p : Int)] w fun e w' => e = .returned (.int .i64 (((p - 1) / 54 : Nat) : Int)) ∧ w' = w := by
  obtain ⟨q, hq⟩ : ∃ q : Nat, p = q + 1 := ⟨p - 1, by omega⟩; subst hq
  have e1 : ((q + 1 : Nat) : Int) - 1 = (q : Int) := by omega
  have e2 : ((q : Int)) / 54 = ((q / 54 : Nat) : Int) := by omega
  have e3 : q + 1 - 1 = q := by omega
  rw [e3]; obtain ⟨r, hr⟩ : ∃ r : Nat, q / 54 = r := ⟨_, rfl⟩; rw [hr] at e2; rw [hr]; obtain ⟨p, hp⟩ : ∃ p : Nat, q + 1 = p := ⟨_, rfl⟩; rw [hp] at e1 h2; rw [hp]
  have hp1 : (p : Int) < 4611686018427387904 := by omega
  have hp2 : (1 : Int) ≤ (p : Int) := by omega
  have hq2 : (0 : Int) ≤ (q : Int) := by omega
  clear hr hp e3 h1
  go_enter Tryz.func121, Tryz.ntmps121
  go_wp2
  go_ret
  exact ⟨rfl, rfl⟩
theorem conv4 (w : World) (a b c d : Nat) (ha : a < 256) (hb : b < 256) (hc : c < 256) (hd : d < 256) :
    (convert 80 9 (.slice (some ⟨w.heap.size, 0, none⟩) 4 4)).run Tryz.prog (w.alloc (.cells #[.int .u8 (a : Int), .int .u8 (b : Int), .int .u8 (c : Int), .int .u8 (d : Int)] 5)) =
      .ok (.string (str [UInt8.ofNat a, UInt8.ofNat b, UInt8.ofNat c, UInt8.ofNat d])) (w.alloc (.cells #[.int .u8 (a : Int), .int .u8 (b : Int), .int .u8 (c : Int), .int .u8 (d : Int)] 5)) := by
  have hrow : Row (w.alloc (.cells #[.int .u8 (a : Int), .int .u8 (b : Int), .int .u8 (c : Int), .int .u8 (d : Int)] 5)) w.heap.size (.slice (some ⟨w.heap.size, 0, none⟩) 4 4) (some w.heap.size) [UInt8.ofNat a, UInt8.ofNat b, UInt8.ofNat c, UInt8.ofNat d] := by
    refine ⟨⟨rfl, .inr ⟨w.heap.size, 4, _, rfl, Nat.le_refl _, heap_alloc_new w _, Nat.le_refl 4, by unfold maxLen; omega, rfl, ?_⟩⟩, rfl⟩; simp only [cells, List.map_cons, List.map_nil, byte_nat ha, byte_nat hb, byte_nat hc, byte_nat hd]
    rfl
  exact bytes_back _ _ _ _ _ hrow
theorem numL_four (k : Nat) (hk : k < 4294967295) : numL k = [UInt8.ofNat ((k + 1) / 16777216), UInt8.ofNat ((k + 1) / 65536 % 256), UInt8.ofNat ((k + 1) / 256 % 256), UInt8.ofNat ((k + 1) % 256)] := by
  unfold numL; simp only [bigF, List.nil_append, List.cons_append, Nat.div_div_eq_div_mul]; rw [Nat.mod_eq_of_lt (show (k + 1) / (256 * 256 * 256) < 256 by omega)]
set_option maxRecDepth 100000 in
theorem number_any (k : Nat) (w : World) (hk : k < 4294967295) : Calls Tryz.prog 175 #[.int .i64 (k : Int)] w fun e w' => e = .returned (.string (str (numL k))) ∧ Only (fun _ => False) w w' := by
  have hcv := conv4 w ((k + 1) / 16777216) ((k + 1) / 65536 % 256) ((k + 1) / 256 % 256) ((k + 1) % 256) (by omega) (by omega) (by omega) (by omega); rw [← numL_four k hk] at hcv
  have e1 : (((k + 1) / 16777216 : Nat) : Int) = ((k : Int) + 1) / 16777216 := by omega
  have e2 : (((k + 1) / 65536 % 256 : Nat) : Int) = ((k : Int) + 1) / 65536 % 256 := by omega
  have e3 : (((k + 1) / 256 % 256 : Nat) : Int) = ((k : Int) + 1) / 256 % 256 := by omega
  have e4 : (((k + 1) % 256 : Nat) : Int) = ((k : Int) + 1) % 256 := by omega
  rw [e1, e2, e3, e4] at hcv; have HO := hide (onlyA w (.cells #[.int .u8 (((k : Int) + 1) / 16777216), .int .u8 (((k : Int) + 1) / 65536 % 256), .int .u8 (((k : Int) + 1) / 256 % 256), .int .u8 (((k : Int) + 1) % 256)] 5)); obtain ⟨X, hX⟩ : ∃ X, str (numL k) = X := ⟨_, rfl⟩; rw [hX] at hcv; rw [hX]
  have hk1 : (k : Int) + 1 < 4294967296 := by omega
  have hk0 : (0 : Int) ≤ (k : Int) := by omega
  clear e1 e2 e3 e4 hX hk
  go_enter Tryz.func175, Tryz.ntmps175
  go_wp2_with fail
  go_ret
  exact ⟨rfl, HO.out⟩
def splice (l : List UInt8) (o : Nat) (t : List UInt8) : List UInt8 := l.take o ++ (t ++ l.drop (o + t.length))
theorem splice_nil (l : List UInt8) (o : Nat) : splice l o [] = l := by simp [splice]
theorem splice_cons (l : List UInt8) (o : Nat) (b : UInt8) (t : List UInt8) (h : o < l.length) : splice l o (b :: t) = splice (l.set o b) (o + 1) t := by
  unfold splice
  have e1 : (l.set o b).take (o + 1) = l.take o ++ [b] := by
    rw [List.take_succ_eq_append_getElem (by simpa using h), List.take_set_of_le (Nat.le_refl o)]
    simp
  have e2 : (l.set o b).drop (o + 1 + t.length) = l.drop (o + (b :: t).length) := by
    rw [List.drop_set_of_lt (by omega)]
    congr 1
    simp
    omega
  rw [e1, e2]
  simp
def Bf (W : World) (base g : Nat) (l : List UInt8) : Prop := Row W base (.slice (some ⟨g, 0, none⟩) 64 64) (some g) l ∧ l.length = 64
theorem Bf.kept {S : Nat → Prop} {W W' : World} {base g : Nat} {l : List UInt8} (h : Bf W base g l) (ho : Only S W W') (hS : ¬ S g) : Bf W' base g l :=
  ⟨h.1.kept ho (fun k hk => by injection hk with hk; rw [← hk]; exact hS), h.2⟩
theorem Bf.set {W : World} {base g : Nat} {l : List UInt8} (h : Bf W base g l) (j : Nat) (u : UInt8) : Bf (W.setCell ⟨g, j, none⟩ (.int .u8 (u.toNat : Int))) base g (l.set j u) ∧ Only (fun k => k = g) W (W.setCell ⟨g, j, none⟩ (.int .u8 (u.toNat : Int))) := by
  obtain ⟨h1, h2⟩ := h.1.store j u
  exact ⟨⟨h1, by rw [List.length_set]; exact h.2⟩, h2⟩
theorem Bf.sets {base g : Nat} : ∀ (t : List UInt8) (o : Nat) (l : List UInt8) (W : World), Bf W base g l → o + t.length ≤ 64 → Bf (W.setCells g o (cells t)) base g (splice l o t) ∧ Only (fun k => k = g) W (W.setCells g o (cells t))
  | [], o, l, W, h, _ => by rw [splice_nil]; exact ⟨h, Only.refl _ _⟩
  | b :: t, o, l, W, h, ho => by
    have hl := h.2; simp only [List.length_cons] at ho; obtain ⟨h1, h2⟩ := h.set o b; obtain ⟨h3, h4⟩ := Bf.sets t (o + 1) (l.set o b) _ h1 (by omega); rw [splice_cons l o b t (by omega)]
    exact ⟨h3, h2.trans h4 (fun _ _ h => h)⟩
theorem Bf.there {W : World} {base g : Nat} {l : List UInt8} (h : Bf W base g l) {j : Nat} (hj : j < 64) : (W.cell? ⟨g, j, none⟩).isSome = true ∧ W.frozen? ⟨g, j, none⟩ = false := by
  obtain ⟨⟨v, hv⟩, hf⟩ := h.1.at0 hj
  exact ⟨by rw [hv]; rfl, hf⟩
theorem sizeU8 (w : World) : (Go.sizeOf 5).run Tryz.prog w = .ok 1 w := by
  obtain ⟨i0, hi, hz0, hz1, hz2⟩ := info_parts Tryz.infoByte
  simp [Go.sizeOf, typeInfo, hi, hz1]
theorem Bf.text {W : World} {base g : Nat} {l : List UInt8} (h : Bf W base g l) (o dLen dCap : Nat) (t : List UInt8) (hle : t.length ≤ dLen) (ho : o + t.length ≤ 64) (ty : TypeId) :
    (Builtin.copy_ #[80, 9] ty #[.slice (some ⟨g, o, none⟩) dLen dCap, .string (str t)]).run Tryz.prog W = .ok (goInt t.length) (W.setCells g o (cells t)) := by
  have hs : (str t).size = t.length := str_size t; have hr := run_copy_string (P := Tryz.prog) W 80 9 ty 5 g o dLen dCap (str t) Tryz.underlying80 sizeU8 (by omega) (fun j hj => (h.there (by omega)).1) (fun j hj => (h.there (by omega)).2); rw [hs] at hr
  have e : (str t).data.toList = t := by show t.toArray.toList = t; simp
  rw [e] at hr
  exact hr
structure Bys (w : World) (B : Nat) (ao : Option Addr) (l : List UInt8) : Prop where
  at_ : 0 < l.length → ∃ o, ao = some ⟨B, o, none⟩ ∧ ∀ j (h : j < l.length), w.cell? ⟨B, o + j, none⟩ = some (.int .u8 (l[j].toNat : Int))
  lt : 0 < l.length → B < w.heap.size
theorem Bys.kept {S : Nat → Prop} {w w' : World} {B : Nat} {ao : Option Addr} {l : List UInt8} (h : Bys w B ao l) (ho : Only S w w') (hS : 0 < l.length → ¬ S B) : Bys w' B ao l :=
  ⟨fun h0 => by
    obtain ⟨o, e, hc⟩ := h.at_ h0
    exact ⟨o, e, fun j hj => (ho.cell (p := ⟨B, o + j, none⟩) (h.lt h0) (hS h0)).trans (hc j hj)⟩, fun h0 => Nat.lt_of_lt_of_le (h.lt h0) ho.size⟩
theorem Bf.bytes {W : World} {base g : Nat} {l : List UInt8} (h : Bf W base g l) (o dLen dCap : Nat) (B : Nat) (ao : Option Addr) (t : List UInt8) (cp : Nat) (hb : Bys W B ao t) (h0 : 0 < t.length) (hle : t.length ≤ dLen) (ho : o + t.length ≤ 64) (ty : TypeId) :
    (Builtin.copy_ #[80, 80] ty #[.slice (some ⟨g, o, none⟩) dLen dCap, .slice ao t.length cp]).run Tryz.prog W = .ok (goInt t.length) (W.setCells g o (cells t)) := by
  obtain ⟨o2, rfl, hc⟩ := hb.at_ h0
  have hr := run_copy_cells (P := Tryz.prog) W 80 80 ty 5 g o dLen dCap ⟨B, o2, none⟩ t.length cp (cells t) Tryz.underlying80 (by
      obtain ⟨i0, hi, hz0, hz1, hz2⟩ := info_parts Tryz.infoByte
      rw [hi]; simp [hz1]) (by rw [cells_length]; exact (Nat.min_eq_left hle).symm) (fun j v hv => by
      have hj : j < t.length := by have := (List.getElem?_eq_some_iff.1 hv).1; rwa [cells_length] at this
      rw [add_at, hc j hj, ← hv]
      simp [cells, hj]) (fun j hj => by rw [cells_length] at hj; exact (h.there (by omega)).1) (fun j hj => by rw [cells_length] at hj; exact (h.there (by omega)).2) (fun v hv => by
      obtain ⟨x, _, rfl⟩ := List.mem_map.1 hv
      rfl)
  rw [cells_length] at hr
  exact hr
theorem hold_is (k : Nat) (held : List UInt8) (h0 : held ≠ []) (h : held.length ≤ 54) :
    splice ((splice ((splice (List.replicate 64 0) 0 (numL k)).set 4 (UInt8.ofNat held.length)) 5 held).set 59 (UInt8.ofNat held.length)) 60 (numL k) = holdL k held := by
  have hn := numL_len k
  obtain ⟨a, b, c, d, hk⟩ : ∃ a b c d, numL k = [a, b, c, d] := by
    match hq : numL k, hn with
    | [a, b, c, d], _ => exact ⟨a, b, c, d, rfl⟩
  unfold holdL; rw [if_neg h0, hk]
  generalize UInt8.ofNat held.length = x
  have e1 : splice (List.replicate 64 0) 0 [a, b, c, d] = [a, b, c, d] ++ List.replicate 60 0 := by simp [splice]
  rw [e1]
  have e2 : ([a, b, c, d] ++ List.replicate 60 (0 : UInt8)).set 4 x = [a, b, c, d, x] ++ List.replicate 59 0 := by
    rw [show List.replicate 60 (0 : UInt8) = 0 :: List.replicate 59 0 from rfl]
    simp
  rw [e2]
  have e3 : splice ([a, b, c, d, x] ++ List.replicate 59 0) 5 held = ([a, b, c, d, x] ++ held) ++ List.replicate (59 - held.length) 0 := by
    unfold splice; have t5 : List.take 5 ([a, b, c, d, x] ++ List.replicate 59 (0 : UInt8)) = [a, b, c, d, x] := List.take_left' rfl; have d5 : List.drop 5 ([a, b, c, d, x] ++ List.replicate 59 (0 : UInt8)) = List.replicate 59 0 := List.drop_left' rfl; rw [t5, ← List.drop_drop, d5, List.drop_replicate, List.append_assoc]
  rw [e3]
  have e4 : (([a, b, c, d, x] ++ held) ++ List.replicate (59 - held.length) 0).set 59 x = ([a, b, c, d, x] ++ held ++ List.replicate (54 - held.length) 0) ++ (x :: List.replicate 4 0) := by
    rw [show List.replicate (59 - held.length) (0 : UInt8) = List.replicate (54 - held.length) 0 ++ (0 :: List.replicate 4 0) from by
      rw [show (0 : UInt8) :: List.replicate 4 0 = List.replicate 5 0 from rfl, List.replicate_append_replicate]
      congr 1
      omega]
    rw [← List.append_assoc, List.set_append_right _ _ (by simp; omega)]
    congr 1
    simp only [List.length_append, List.length_cons, List.length_nil, List.length_replicate]; rw [show 59 - (0 + 1 + 1 + 1 + 1 + 1 + held.length + (54 - held.length)) = 0 from by omega]
    rfl
  rw [e4]; unfold splice
  have hl : (([a, b, c, d, x] ++ held ++ List.replicate (54 - held.length) 0) ++ [x]).length = 60 := by
    simp only [List.length_append, List.length_cons, List.length_nil, List.length_replicate]; omega
  rw [show ([a, b, c, d, x] ++ held ++ List.replicate (54 - held.length) 0) ++ (x :: List.replicate 4 0) = (([a, b, c, d, x] ++ held ++ List.replicate (54 - held.length) 0) ++ [x]) ++ List.replicate 4 0 from by simp]; rw [List.take_left' hl, show 60 + [a, b, c, d].length = 60 + 4 from rfl, ← List.drop_drop, List.drop_left' hl]
  simp
theorem buf_made (w : World) : ∃ w1, (Instr.makeSlice 80 (.int .i64 64) (.int .i64 64)).run Tryz.prog w = .ok (.slice (some ⟨w.heap.size, 0, none⟩) 64 64) w1 ∧ Bf w1 w.heap.size w.heap.size (List.replicate 64 0) ∧ Only (fun _ => False) w w1 := by
  obtain ⟨i0, hi, hz0, hz1, hz2⟩ := info_parts Tryz.infoByte; obtain ⟨w1, hmk, hown, hgr⟩ := run_make_full (P := Tryz.prog) w w.heap.size 80 5 i0 (.int .u8 0) 1 Tryz.underlying80 hi hz0 hz1 .i64 .i64 64 (by rw [hz2]; omega) (by unfold maxLen; omega) (Nat.le_refl _)
  have e2 : (madeCells (Value.int .u8 0).cells (64 * 1)).toList = cells (List.replicate 64 0) := by
    have : (Value.int IntKind.u8 0).cells = #[.int .u8 0] := rfl; rw [this, toList_madeCells_one]; simp [cells]
  rw [e2] at hown
  exact ⟨w1, hmk, ⟨⟨by rw [List.length_replicate]; exact hown, rfl⟩, by simp⟩, Only.grown hgr (fun k hk => by cases hk)⟩
set_option maxRecDepth 100000 in
set_option maxHeartbeats 1600000 in
theorem hold_any (w : World) (k : Nat) (B cp : Nat) (ao : Option Addr) (held : List UInt8) (hb : Bys w B ao held) (hk : k < 4294967295) (hl : held.length ≤ 54) :
    Calls Tryz.prog 154 #[.int .i64 (k : Int), .slice ao held.length cp] w fun e w' => e = .returned (.string (str (holdL k held))) ∧ Only (fun _ => False) w w' := by
  obtain ⟨w1, hmk, hB1, hO1⟩ := buf_made w; obtain ⟨g, hg⟩ : ∃ g, w.heap.size = g := ⟨_, rfl⟩; rw [hg] at hmk hB1; have HB1 := hide hB1; have HO1 := hide hO1; have HBY := hide hb; have HG := hide hg; clear hB1 hO1 hb hg
  by_cases h0 : held = []
  · have hcv := bytes_back w1 g _ _ _ HB1.out.1
    have e : holdL k held = List.replicate 64 0 := by unfold holdL; rw [if_pos h0]
    have hcv2 : (convert 80 9 (.slice (some ⟨g, 0, none⟩) 64 64)).run Tryz.prog w1 = .ok (.string (str (holdL k held))) w1 := by rw [e]; exact hcv
    obtain ⟨X, hX⟩ : ∃ X, str (holdL k held) = X := ⟨_, rfl⟩; rw [hX] at hcv2; rw [hX]
    have h00 : held.length = 0 := by rw [h0]; rfl
    rw [h00]; clear hcv e hX h0 h00 hl hk
    go_enter Tryz.func154, Tryz.ntmps154
    go_wp2_with fail
    go_ret
    exact ⟨rfl, HO1.out⟩
  · have hpos : 0 < held.length := List.length_pos_iff.2 h0
    have HIS := hide (hold_is k held h0 hl); obtain ⟨len, hlen⟩ : ∃ len, held.length = len := ⟨_, rfl⟩; have HLEN := hide hlen
    have hlp : (0 : Int) < (len : Int) := by omega
    have hl54 : len ≤ 54 := by omega
    have hl256 : (len : Int) % 256 = (len : Int) := by omega
    rw [hlen]; have HK := hide hk; clear h0 hk hl hlen; have q1 := number_any k w1 HK.out; obtain ⟨N, hN⟩ : ∃ N, str (numL k) = N := ⟨_, rfl⟩; obtain ⟨X, hX⟩ : ∃ X, str (holdL k held) = X := ⟨_, rfl⟩; have HXX := hide hX; rw [hX]; clear hX; rw [hN] at q1
    go_enter Tryz.func154, Tryz.ntmps154
    go_wp2_with fail
    refine q1.mono ?_; clear q1; rintro e w2 ⟨rfl, ho2⟩; have HB2 := hide (HB1.out.kept ho2 (fun h => h)); have HO2 := hide (o2 HO1.out ho2); clear ho2; have hcp := HB2.out.text 0 64 64 (numL k) (by rw [numL_len]; omega) (by rw [numL_len]; omega) 3; obtain ⟨hB3, hO3⟩ := Bf.sets (numL k) 0 _ w2 HB2.out (by rw [numL_len]; omega); rw [hN, numL_len] at hcp; obtain ⟨w3, hw3⟩ : ∃ w3, w2.setCells g 0 (cells (numL k)) = w3 := ⟨_, rfl⟩; rw [hw3] at hcp hB3 hO3; have HB3 := hide hB3; have HO3 := hide hO3; clear hw3 hB3 hO3; obtain ⟨v4, c4⟩ := Option.isSome_iff_exists.1 (HB3.out.there (j := 4) (by omega)).1; have f4 := (HB3.out.there (j := 4) (by omega)).2; obtain ⟨x, hx⟩ : ∃ x, UInt8.ofNat held.length = x := ⟨_, rfl⟩
    have hxn : (x.toNat : Int) = (len : Int) := by rw [← hx, HLEN.out]; exact byte_nat (by omega)
    obtain ⟨hB4, hO4⟩ := HB3.out.set 4 x; rw [hxn] at hB4 hO4; obtain ⟨w4, hw4⟩ : ∃ w4, w3.setCell ⟨g, 4, none⟩ (.int .u8 (len : Int)) = w4 := ⟨_, rfl⟩; rw [hw4] at hB4 hO4; have HB4 := hide hB4; have HO4 := hide (HO3.out.trans hO4 (fun _ _ h => h)); have HX := hide hx; have HXN := hide hxn; have HW4 := hide hw4; clear hB4 hO4 hx hxn hw4
    go_upto_region 5 with fail
    rw [HW4.out]; clear c4 f4 hcp; have HBY4 : Hid (Bys w4 B ao held) := (HBY.out.kept HO2.out (fun _ h => h)).kept HO4.out (fun h0 e => by have h1 := HBY.out.lt h0; have h2 := HG.out; omega); have hcp := HB4.out.bytes 5 59 59 B ao held cp HBY4.out hpos (by have := HLEN.out; omega) (by have := HLEN.out; omega) 3; obtain ⟨hB5, hO5⟩ := Bf.sets held 5 _ w4 HB4.out (by have := HLEN.out; omega); rw [HLEN.out] at hcp; obtain ⟨w5, hw5⟩ : ∃ w5, w4.setCells g 5 (cells held) = w5 := ⟨_, rfl⟩; rw [hw5] at hcp hB5 hO5; have HB5 := hide hB5; have HO5 := hide (HO4.out.trans hO5 (fun _ _ h => h)); clear hw5 hB5 hO5; obtain ⟨v5, c5⟩ := Option.isSome_iff_exists.1 (HB5.out.there (j := 59) (by omega)).1; have f5 := (HB5.out.there (j := 59) (by omega)).2; obtain ⟨hB6, hO6⟩ := HB5.out.set 59 x; rw [HXN.out] at hB6 hO6; obtain ⟨w6, hw6⟩ : ∃ w6, w5.setCell ⟨g, 59, none⟩ (.int .u8 (len : Int)) = w6 := ⟨_, rfl⟩; rw [hw6] at hB6 hO6; have HB6 := hide hB6; have HO6 := hide (HO5.out.trans hO6 (fun _ _ h => h)); have HW6 := hide hw6; clear hB6 hO6 hw6
    go_upto_region 7 with fail
    rw [HW6.out]; clear c5 f5 hcp; have q7 := number_any k w6.drew HK.out; rw [hN] at q7; have Q7 := hide q7; clear q7; refine wp_region_noPanic ?_; refine wp_region_held_drew (S := fun _ => True) (by kernel_rfl) (trivial) (fun hHeld => ?_); refine tkQ (i := 0) (oi := { dst := some 28, op := Op.move (Operand.tmp 5), type := 80, pos := "block.go:37", after := #[], guard := none }) (v := .slice (some ⟨g, 0, none⟩) 64 64) rfl (by kernel_rfl) (Or.inl ⟨by rfl, fun w' hSw => by clear hSw; go_simp⟩) (by assumption) ?_; simp only [Act.put, lsA, lsB, lsC]; refine tkQ (i := 2) (oi := { dst := some 30, op := Op.move (Operand.tmp 0), type := 3, pos := "block.go:37", after := #[], guard := none }) (v := .int .i64 (k : Int)) rfl (by kernel_rfl) (Or.inl ⟨by rfl, fun w' hSw => by clear hSw; go_simp⟩) (by assumption) ?_; simp only [Act.put, lsA, lsB, lsC]; refine tkQ (i := 1) (oi := { dst := some 29, op := Op.slice 80 (Operand.tmp 28) (some (Operand.const (Value.int IntKind.i64 60))) none none, type := 80, pos := "block.go:37", after := #[{ on := 0, ground := Ground.data }], guard := none }) (v := .slice (some ⟨g, 60, none⟩) 4 4) rfl (by kernel_rfl) (Or.inl ⟨by rfl, fun w' hSw => by clear hSw; go_simp⟩) (by assumption) ?_; simp only [Act.put, lsA, lsB, lsC]; refine wpAnyH_ready (rs := [3]) (by kernel_rfl) (by simp) ?_; refine AllReadyH.cons (o := { dst := some 31, op := Op.call { callee := Callee.value (Operand.func 175), args := #[Operand.tmp 30], argTypes := #[3] }, type := 9, pos := "block.go:37", after := #[{ on := 2, ground := Ground.data }], guard := none }) rfl (fun K hK => ?_) (AllReadyH.nil)
    go_simp
    refine Q7.out.mono ?_; rintro e x7 ⟨rfl, ho7⟩; have HB7 := hide ((HB6.out.kept (Only.drew (fun _ => False) w6) (fun h => h)).kept ho7 (fun h => h)); have HO7 := hide (o2 (Only.drew (fun _ => False) w6) ho7); clear ho7; refine hK.out _ _ (trivial) (fun hHeld => ?_); clear hK K
    try simp only [Act.put, lsA, lsB, lsC]
    refine wpAnyH_ready (rs := [4]) (by kernel_rfl) (by simp) ?_; refine AllReadyH.cons (o := { dst := some 32, op := Op.call { callee := Callee.builtin Builtin.copy, args := #[Operand.tmp 29, Operand.tmp 31], argTypes := #[80, 9] }, type := 3, pos := "block.go:37", after := #[{ on := 1, ground := Ground.data }, { on := 3, ground := Ground.data }, { on := 3, ground := Ground.chain }], guard := none }) rfl (fun K hK => ?_) (AllReadyH.nil); have hcp := HB7.out.text 60 4 4 (numL k) (by rw [numL_len]; omega) (by rw [numL_len]; omega) 3; obtain ⟨hB8, hO8⟩ := Bf.sets (numL k) 60 _ x7 HB7.out (by rw [numL_len]; omega); rw [hN, numL_len] at hcp; obtain ⟨w8, hw8⟩ : ∃ w8, x7.setCells g 60 (cells (numL k)) = w8 := ⟨_, rfl⟩; rw [hw8] at hcp hB8 hO8; have HB8 := hide hB8; have HO8 := hide hO8; clear hw8 hB8 hO8
    go_simp
    clear hcp; refine hK.out _ _ (trivial) (fun hHeld => ?_); clear hK K
    try simp only [Act.put, lsA, lsB, lsC]
    refine wpAnyH_done (by kernel_rfl) ?_ _; refine NoPanic.normal ?_; have hcv := bytes_back w8 g _ _ _ HB8.out.1; have HIS2 := HIS.out; rw [HX.out] at HIS2; rw [HIS2] at hcv; have hcv2 : (convert 80 9 (.slice (some ⟨g, 0, none⟩) 64 64)).run Tryz.prog w8 = .ok (.string (str (holdL k held))) w8 := hcv; rw [HXX.out] at hcv2; clear hcv HIS2
    go_wp2_with fail
    go_ret
    have h1 := HG.out
    exact ⟨rfl, ((HO2.out.trans HO6.out (fun i hi e => by omega)).trans HO7.out (fun _ _ h => h)).trans HO8.out (fun i hi e => by omega)⟩
end Go.Proofs.YtebijheonkagfaaGreatDoor
