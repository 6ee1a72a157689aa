/- Parts. -/
import Derived.Test.YtpnbhddmdfcjdaaK03
import Derived.Test.YtpnbhddmdfcjdaaK04
import Derived.Lib.IndexBytes
set_option maxRecDepth 100000
namespace Go.Proofs.Ytpnbhddmdfcjdaa
open Go.RowKit
theorem set_rep (j : Nat) (d : List UInt8) (u : UInt8) : (List.replicate (j + 1) 0 ++ d).set j u = List.replicate j 0 ++ u :: d := by
  induction j with
  | zero => rfl
  | succ j ih =>
    rw [List.replicate_succ, List.cons_append, List.set_cons_succ, ih]
    rfl
/-- The lowest so many bytes of a number, the highest one first. -/
def bigF : Nat → Nat → List UInt8
  | 0, _ => []
  | k + 1, n => bigF k (n / 256) ++ [UInt8.ofNat (n % 256)]
theorem bigF_len (k n : Nat) : (bigF k n).length = k := by
  induction k generalizing n with
  | zero => rfl
  | succ k ih => simp [bigF, ih]
theorem Try.infoByte : (Try.prog.info? 5).map (fun i => (i.zero, i.size, i.bytes)) = some (some (.int .u8 0), 1, 1) := by kernel_rfl
set_option maxHeartbeats 400000 in
theorem of_any (s : ByteArray) (w : World) (hs : s.size ≤ maxLen) :
    Calls Try.prog 43 #[.string s] w fun e w' => e = .returned (.int .i64 (ofTo s.data.toList % 9223372036854775808)) ∧ w' = w := by
  unfold maxLen at hs
  go_enter Try.func43, Try.ntmps43
  go_wp2
  go_loop [3, 4] (fun c i => ∃ (k : Nat) (q : Int), k ≤ s.size ∧ i = .int .i64 k ∧ c = .int .u64 q ∧ q = ofTo (s.data.toList.take k) ∧ 0 ≤ q ∧ q < 18446744073709551616) (fun _ i => s.size - (intOf i).toNat)
  case atStart => exact ⟨0, 0, Nat.zero_le _, rfl, rfl, rfl, by decide, by decide⟩
  case round =>
    obtain ⟨k, q, hk, rfl, rfl, hq, q0, q1⟩ := hrel
    have HQ : Hid (q = ofTo (s.data.toList.take k)) := hq
    clear hq
    by_cases hlt : k < s.size
    · have HS : Hid (ofTo (s.data.toList.take (k + 1)) = (q * 256 + (s[k].toNat : Int)) % 18446744073709551616) := by
        unfold Hid; rw [take_snoc s k hlt, ofTo_snoc, ← HQ.out]
      go_wp2
      go_round
      case rel => exact ⟨k + 1, ofTo (s.data.toList.take (k + 1)), by omega, by go_num, by rw [HS.out, of_step q s[k]], rfl, (ofTo_bd _).1, (ofTo_bd _).2⟩
      case measure => simp [intOf]; omega
    · have HT := take_all s k hlt
      have HO : Hid (q % 9223372036854775808 = ofTo s.data.toList % 9223372036854775808) := by unfold Hid; rw [HQ.out, HT]
      go_wp2
      go_ret
      exact ⟨ret_int (by rw [of_last q q0 q1]; exact HO.out), rfl⟩
theorem bytes_back (w : World) (base : Nat) (v : Value) (row : Option Nat) (l : List UInt8) (hr : Row w base v row l) : (convert 79 9 v).run Try.prog w = .ok (.string ⟨l.toArray⟩) w := by
  rcases hr.own.2 with ⟨rfl, hn⟩ | ⟨g, cap, cur, rfl, hb, hg, hn, hm, hs, htake⟩
  · have e : l = [] := List.eq_nil_of_length_eq_zero hn
    subst e
    rw [run_convert_bytes_nil w 79 5 Try.underlying79 Try.underlying5 0 0 9 Try.underlying9]
    rfl
  · refine run_convert_bytes_back w 79 9 5 ⟨g, 0, none⟩ cap l Try.underlying79 Try.underlying5 Try.underlying9 ?_
    intro j hj
    refine hr.own.cells (g := g) rfl j _ ?_
    unfold cells
    simp [List.getElem?_eq_getElem hj]
set_option maxRecDepth 100000 in
set_option maxHeartbeats 800000 in
theorem big_any (n k : Nat) (w : World) (hk : 1 ≤ k) (hk8 : k ≤ 8) (hn : n < 9223372036854775808) :
    Calls Try.prog 36 #[.int .i64 n, .int .i64 k] w fun e w' => e = .returned (.string ⟨(bigF k n).toArray⟩) ∧ Only (fun _ => False) w w' := by
  obtain ⟨i0, hi, hz0, hz1, hz2⟩ := info_parts Try.infoByte
  obtain ⟨w1, hmk, hown, hgr⟩ := run_make_full (P := Try.prog) w w.heap.size 79 5 i0 (.int .u8 0) 1 Try.underlying79 hi hz0 hz1 .i64 .i64 k (by rw [hz2]; omega) (by unfold maxLen; omega) (Nat.le_refl _)
  have hrow : Row w1 w.heap.size (.slice (some ⟨w.heap.size, 0, none⟩) k k) (some w.heap.size) (List.replicate k 0) := by
    refine ⟨?_, rfl⟩
    have e : (madeCells (Value.int .u8 0).cells (k * 1)).toList = cells (List.replicate k 0) := by
      have : (Value.int IntKind.u8 0).cells = #[.int .u8 0] := rfl
      rw [this, toList_madeCells_one]; simp [cells]
    rw [e] at hown
    simpa using hown
  have hon : Only (fun _ => False) w w1 := Only.grown hgr (fun k hk => by cases hk)
  have HROW := hide hrow
  have HON := hide hon
  clear hrow hon hgr hown
  go_enter Try.func36, Try.ntmps36
  go_wp2
  go_loopw [0, 6] (fun x i wr => ∃ (j q : Nat) (d : List UInt8), j ≤ k ∧ i = .int .i64 ((j : Int) - 1) ∧ x = .int .i64 q ∧ q < 9223372036854775808 ∧ Hid (bigF j q ++ d = bigF k n) ∧ Hid (Row wr w.heap.size (.slice (some ⟨w.heap.size, 0, none⟩) k k) (some w.heap.size) (List.replicate j 0 ++ d)) ∧ Hid (Only (fun _ => False) w wr))
    (fun _ i _ => (intOf i + 1).toNat)
  case atStart => exact ⟨k, n, [], by omega, rfl, rfl, hn, by unfold Hid; simp, by rw [List.append_nil]; exact HROW, HON⟩
  case round =>
    obtain ⟨j, q, d, hj, rfl, rfl, hq, HB, HR, HO⟩ := hrel
    by_cases hlt : 1 ≤ j
    · obtain ⟨j', rfl⟩ : ∃ j', j = j' + 1 := ⟨j - 1, by omega⟩
      obtain ⟨⟨v0, hc0⟩, hf0⟩ := HR.out.at0 (j := j') (by omega)
      go_wp2
      have hd : ((UInt8.ofNat (q % 256)).toNat : Int) = (q : Int) % 256 := by rw [byte_nat (by omega)]; omega
      have hst := HR.out.store j' (UInt8.ofNat (q % 256))
      rw [hd, set_rep] at hst
      have hB2 : bigF j' (q / 256) ++ UInt8.ofNat (q % 256) :: d = bigF k n := by rw [← HB.out, bigF]; simp
      go_roundw
      case rel => exact ⟨j', q / 256, UInt8.ofNat (q % 256) :: d, by omega, by go_num, by go_num, by omega, hB2, hst.1, HO.out.trans hst.2 (fun i h1 h2 => by omega)⟩
      case measure => simp [intOf]
    · have e0 : j = 0 := by omega
      have hB2 : d = bigF k n := by have h := HB.out; rw [e0] at h; simpa [bigF] using h
      have hR2 := HR.out
      rw [e0, hB2] at hR2
      have hR3 : Row wr w.heap.size (.slice (some ⟨w.heap.size, 0, none⟩) k k) (some w.heap.size) (bigF k n) := by simpa using hR2
      have hcv := bytes_back wr _ _ _ _ hR3
      clear hR2 hB2
      have HR3 := hide hR3
      clear hR3
      go_wp2
      go_ret
      exact ⟨rfl, HO.out⟩
/-- The Writer in block b, whose bytes lie in block row. -/
structure Wr (w : World) (b : Nat) (row : Option Nat) (l : List UInt8) : Prop where
  ex : ∃ v, w.cell? ⟨b, 0, none⟩ = some v ∧ Row w (b + 1) v row l
  fz : w.frozen? ⟨b, 0, none⟩ = false
  lt : b < w.heap.size
/-- The Reader in block r. -/
structure Rd (w : World) (r : Nat) (s : ByteArray) (x : Int) : Prop where
  c0 : w.cell? ⟨r, 0, none⟩ = some (.string s)
  c1 : w.cell? ⟨r, 1, none⟩ = some (.int .i64 x)
  f0 : w.frozen? ⟨r, 0, none⟩ = false
  f1 : w.frozen? ⟨r, 1, none⟩ = false
  lt : r < w.heap.size
theorem Wr.kept {S : Nat → Prop} {w w' : World} {b : Nat} {row : Option Nat} {l : List UInt8} (h : Wr w b row l) (ho : Only S w w') (hb : ¬ S b) (hS : ∀ k, row = some k → ¬ S k) : Wr w' b row l := by
  obtain ⟨⟨v, hc, hr⟩, hf, hl⟩ := h
  exact ⟨⟨v, (ho.cell (p := ⟨b, 0, none⟩) hl hb).trans hc, hr.kept ho hS⟩, (ho.frozen (p := ⟨b, 0, none⟩) hl hb).trans hf, Nat.lt_of_lt_of_le hl ho.size⟩
theorem Wr.rowLt {w : World} {b : Nat} {row : Option Nat} {l : List UInt8} (h : Wr w b row l) : ∀ k, row = some k → b < k ∧ k < w.heap.size := by
  obtain ⟨v, _, hr⟩ := h.ex
  intro k hk
  have := hr.lt k hk
  omega
theorem Rd.kept {S : Nat → Prop} {w w' : World} {r : Nat} {s : ByteArray} {x : Int} (h : Rd w r s x) (ho : Only S w w') (hr : ¬ S r) : Rd w' r s x :=
  ⟨(ho.cell (p := ⟨r, 0, none⟩) h.lt hr).trans h.c0, (ho.cell (p := ⟨r, 1, none⟩) h.lt hr).trans h.c1, (ho.frozen (p := ⟨r, 0, none⟩) h.lt hr).trans h.f0, (ho.frozen (p := ⟨r, 1, none⟩) h.lt hr).trans h.f1, Nat.lt_of_lt_of_le h.lt ho.size⟩
/-- A Writer in block b has laid more. -/
structure WGro (w w' : World) (b : Nat) (row row' : Option Nat) : Prop where
  only : Only (fun k => k = b ∨ some k = row) w w'
  new : row' = row ∨ ∃ g, row' = some g ∧ w.heap.size ≤ g
theorem WGro.refl (w : World) (b : Nat) (row : Option Nat) : WGro w w b row row := ⟨Only.refl _ _, .inl rfl⟩
theorem WGro.trans {a b c : World} {B : Nat} {r0 r1 r2 : Option Nat} (h : WGro a b B r0 r1) (k : WGro b c B r1 r2) : WGro a c B r0 r2 := by
  refine ⟨h.only.trans k.only ?_, ?_⟩
  · intro i hi ht
    rcases ht with ht | ht
    · exact .inl ht
    · rcases h.new with e | ⟨g, e, hg⟩
      · rw [← e]; exact .inr ht
      · rw [e] at ht; injection ht with ht; omega
  · rcases k.new with e | ⟨g, e, hg⟩
    · rw [e]; exact h.new
    · exact .inr ⟨g, e, Nat.le_trans h.only.size hg⟩
theorem Gro.wgro {w w' : World} {row row' : Option Nat} (h : Gro w w' row row') (b : Nat) : WGro w w' b row row' := ⟨h.only.mono (fun _ _ => .inr), h.new⟩
theorem WGro.store {w w' : World} {b : Nat} {row row' : Option Nat} (h : WGro w w' b row row') (v : Value) : WGro w (w'.setCell ⟨b, 0, none⟩ v) b row row' :=
  ⟨h.only.trans (Only.setCell w' ⟨b, 0, none⟩ v rfl) (fun _ _ e => .inl e) (T := fun k => k = b), h.new⟩
theorem WGro.alloc (w : World) (o : Obj) (b : Nat) (row : Option Nat) : WGro w (w.alloc o) b row row := (Gro.alloc w o row).wgro b
theorem Wr.stored {w : World} {b : Nat} {row : Option Nat} {l : List UInt8} {u v : Value} (hc : w.cell? ⟨b, 0, none⟩ = some u) (hf : w.frozen? ⟨b, 0, none⟩ = false) (hr : Row w (b + 1) v row l) : Wr (w.setCell ⟨b, 0, none⟩ v) b row l := by
  have hb : b < w.heap.size := World.block_lt_of_cell? w ⟨b, 0, none⟩ hc
  refine ⟨⟨v, World.cell?_setCell_same w ⟨b, 0, none⟩ v hc, hr.kept (Only.setCell (S := fun k => k = b) w ⟨b, 0, none⟩ v rfl) ?_⟩, by simpa using hf, by simpa using hb⟩
  intro k hk e
  have := hr.lt k hk
  omega
theorem Rd.set0 {w : World} {r : Nat} {s : ByteArray} {x : Int} (h : Rd w r s x) (t : ByteArray) : Rd (w.setCell ⟨r, 0, none⟩ (.string t)) r t x :=
  ⟨World.cell?_setCell_same _ _ _ h.c0, (World.cell?_setCell_other _ _ _ _ (by simp)).trans h.c1, by simpa using h.f0, by simpa using h.f1, by simpa using h.lt⟩
theorem Rd.set1 {w : World} {r : Nat} {s : ByteArray} {x : Int} (h : Rd w r s x) (y : Int) : Rd (w.setCell ⟨r, 1, none⟩ (.int .i64 y)) r s y :=
  ⟨(World.cell?_setCell_other _ _ _ _ (by simp)).trans h.c0, World.cell?_setCell_same _ _ _ h.c1, by simpa using h.f0, by simpa using h.f1, by simpa using h.lt⟩
theorem Wr.new (w : World) : Wr (w.alloc (.cells #[.slice none 0 0] 126)) w.heap.size none [] :=
  ⟨⟨.slice none 0 0, by simp, ⟨World.ownsRow_nil _ _ _ _, rfl⟩⟩, by simp, by simp⟩
theorem Rd.new (w : World) (s : ByteArray) : Rd (w.alloc (.cells #[.string s, .int .i64 0] 121)) w.heap.size s 0 :=
  ⟨by simp, by simp, by simp, by simp, by simp⟩
theorem Rd.alloc {w : World} {r : Nat} {s : ByteArray} {x : Int} (h : Rd w r s x) (o : Obj) : Rd (w.alloc o) r s x := h.kept (Only.alloc (fun _ => False) w o) (fun h => h)
/-- The sevens of each number; one below 0 counts as 0. -/
def nums (zs : List Int) : List UInt8 := (zs.map fun z => sev z.toNat).flatten
theorem nums_snoc (zs : List Int) (k : Nat) (h : k < zs.length) : nums (zs.take (k + 1)) = nums (zs.take k) ++ sev (zs.getD k 0).toNat := by
  have e : zs.getD k 0 = zs[k] := by simp [List.getD, List.getElem?_eq_getElem h]
  rw [List.take_succ_eq_append_getElem h, e]
  unfold nums
  rw [List.map_append, List.flatten_append]
  simp
theorem nums_len (zs : List Int) : (nums zs).length ≤ 10 * zs.length := by
  induction zs with
  | nil => simp [nums]
  | cons z zs ih =>
    have h : (sev z.toNat).length ≤ 10 := sevF_len 9 z.toNat
    simp only [nums, List.map_cons, List.flatten_cons, List.length_append, List.length_cons] at ih ⊢
    omega
theorem new_any (w : World) :
    Calls Try.prog 49 #[] w fun e w' => e = .returned (.pointer (some ⟨w.heap.size, 0, none⟩)) ∧ w' = w.alloc (.cells #[.slice none 0 0] 126) := by
  go_enter Try.func49, Try.ntmps49
  go_wp2
  go_ret
  exact ⟨rfl, rfl⟩
theorem read_any (s : ByteArray) (w : World) :
    Calls Try.prog 42 #[.string s] w fun e w' => e = .returned (.pointer (some ⟨w.heap.size, 0, none⟩)) ∧ w' = w.alloc (.cells #[.string s, .int .i64 0] 121) := by
  go_enter Try.func42, Try.ntmps42
  go_wp2
  go_ret
  exact ⟨rfl, rfl⟩
theorem rerr_nil (w : World) : Calls Try.prog 68 #[.pointer none] w fun e w' => e = .returned (.int .i64 2) ∧ w' = w := by
  go_enter Try.func68, Try.ntmps68
  go_wp2
  go_ret
  exact ⟨rfl, rfl⟩
theorem rerr_any (w : World) (r : Nat) (x : Int) (hc : w.cell? ⟨r, 1, none⟩ = some (.int .i64 x)) : Calls Try.prog 68 #[.pointer (some ⟨r, 0, none⟩)] w fun e w' => e = .returned (.int .i64 x) ∧ w' = w := by
  go_enter Try.func68, Try.ntmps68
  go_wp2
  go_ret
  exact ⟨rfl, rfl⟩
theorem rleft_any (w : World) (r : Nat) (s : ByteArray) (hc : w.cell? ⟨r, 0, none⟩ = some (.string s)) : Calls Try.prog 70 #[.pointer (some ⟨r, 0, none⟩)] w fun e w' => e = .returned (.int .i64 s.size) ∧ w' = w := by
  go_enter Try.func70, Try.ntmps70
  go_wp2
  go_ret
  exact ⟨rfl, rfl⟩
theorem rend_nil (w : World) : Calls Try.prog 45 #[.pointer none] w fun e w' => e = .returned (.int .i64 2) ∧ w' = w := by
  go_enter Try.func45, Try.ntmps45
  go_wp2_with (go_at_call 68; refine (rerr_nil _).mono ?_; rintro e w' ⟨rfl, rfl⟩)
  go_ret
  exact ⟨rfl, rfl⟩
theorem rend_err (w : World) (r : Nat) (x : Int) (hc : w.cell? ⟨r, 1, none⟩ = some (.int .i64 x)) (hx : (x != 0) = true) : Calls Try.prog 45 #[.pointer (some ⟨r, 0, none⟩)] w fun e w' => e = .returned (.int .i64 x) ∧ w' = w := by
  go_enter Try.func45, Try.ntmps45
  go_wp2_with (go_at_call 68; refine (rerr_any _ r x hc).mono ?_; rintro e w' ⟨rfl, rfl⟩)
  go_ret
  exact ⟨rfl, rfl⟩
theorem rend_ok (w : World) (r : Nat) (s : ByteArray) (hc : w.cell? ⟨r, 1, none⟩ = some (.int .i64 0)) (hs : w.cell? ⟨r, 0, none⟩ = some (.string s)) : Calls Try.prog 45 #[.pointer (some ⟨r, 0, none⟩)] w fun e w' => e = .returned (.int .i64 (if s.size = 0 then 0 else 12)) ∧ w' = w := by
  by_cases hz : s.size = 0
  · rw [if_pos hz]
    have hz' : ¬ (0 : Int) < (s.size : Int) := by omega
    clear hz
    go_enter Try.func45, Try.ntmps45
    go_wp2_with (first | (go_at_call 68; refine (rerr_any _ r 0 hc).mono ?_; rintro e w' ⟨rfl, rfl⟩) | (go_at_call 70; refine (rleft_any _ r s hs).mono ?_; rintro e w' ⟨rfl, rfl⟩))
    go_ret
    exact ⟨rfl, rfl⟩
  · rw [if_neg hz]
    have hz' : (0 : Int) < (s.size : Int) := by omega
    clear hz
    go_enter Try.func45, Try.ntmps45
    go_wp2_with (first | (go_at_call 68; refine (rerr_any _ r 0 hc).mono ?_; rintro e w' ⟨rfl, rfl⟩) | (go_at_call 70; refine (rleft_any _ r s hs).mono ?_; rintro e w' ⟨rfl, rfl⟩))
    go_ret
    exact ⟨rfl, rfl⟩
theorem fail_any (w : World) (r : Nat) (s : ByteArray) (x y : Int) (h0 : w.cell? ⟨r, 0, none⟩ = some (.string s)) (h1 : w.cell? ⟨r, 1, none⟩ = some (.int .i64 y)) (f0 : w.frozen? ⟨r, 0, none⟩ = false) (f1 : w.frozen? ⟨r, 1, none⟩ = false) :
    Calls Try.prog 69 #[.pointer (some ⟨r, 0, none⟩), .int .i64 x] w fun e w' => e = .returned (.tuple #[]) ∧ w' = (w.setCell ⟨r, 0, none⟩ (.string ⟨#[]⟩)).setCell ⟨r, 1, none⟩ (.int .i64 x) := by
  go_enter Try.func69, Try.ntmps69
  go_wp2
  go_end0
  exact ⟨rfl, rfl⟩
set_option maxRecDepth 100000 in
set_option maxHeartbeats 800000 in
theorem sevens_any (s : ByteArray) (w : World) :
    Calls Try.prog 88 #[.string s] w fun e w' => e = .returned (.tuple #[.int .i64 (rd 0 0 s.data.toList).1, .int .i64 (rd 0 0 s.data.toList).2.1, .int .i64 (rd 0 0 s.data.toList).2.2]) ∧ w' = w := by
  obtain ⟨R, hR⟩ : ∃ R, rd 0 0 s.data.toList = R := ⟨_, rfl⟩
  rw [hR]
  have HR : Hid (rd 0 0 s.data.toList = R) := hR
  clear hR
  go_enter Try.func88, Try.ntmps88
  go_wp2
  go_loop [2, 5] (fun n i => ∃ (k : Nat) (q : Int), k ≤ s.size ∧ k ≤ 8 ∧ i = .int .i64 k ∧ n = .int .i64 q ∧ Hid (rd k q (s.data.toList.drop k) = R) ∧ 0 ≤ q ∧ Hid (q < 128 ^ k)) (fun _ i => s.size - (intOf i).toNat)
  case atStart => exact ⟨0, 0, Nat.zero_le _, by omega, rfl, rfl, HR, by omega, (by unfold Hid; decide)⟩
  case round =>
    obtain ⟨k, q, hk, hk8, rfl, rfl, HQ, q0, q1⟩ := hrel
    by_cases hlt : k < s.size
    · have hb := s[k].toNat_lt
      have HD : Hid (rd k q (s[k] :: s.data.toList.drop (k + 1)) = R) := by unfold Hid; rw [← drop_cons s k hlt]; exact HQ.out
      clear HQ
      by_cases h1 : (s[k].toNat : Int) < 128
      · have HO : Hid (bits BinOp.or IntKind.i64 q (wrap64 ((s[k].toNat : Int) * 2 ^ (7 * k))) = q + (s[k].toNat : Int) * 128 ^ k) := (or_shift k q _ hk8 q0 q1.out (by omega) h1).1
        by_cases h2 : (s[k].toNat : Int) = 0
        · have h2' : ((s[k].toNat : Int) == 0) = true := by simpa using h2
          by_cases h3 : 0 < k
          · have HE : Hid (R = (0, 0, 11)) := rd_zero HD.out h1 h2 h3
            clear h2
            go_wp2
            go_ret3
            rw [HE.out]
            exact ⟨rfl, rfl⟩
          · have HE : Hid (R = (q + (s[k].toNat : Int) * 128 ^ k, (k : Int) + 1, 0)) := rd_last HD.out h1 (by omega)
            clear h2
            go_wp2
            go_ret3
            rw [HE.out, HO.out]
            exact ⟨rfl, rfl⟩
        · have h2' : ((s[k].toNat : Int) == 0) = false := by simpa using h2
          have HE : Hid (R = (q + (s[k].toNat : Int) * 128 ^ k, (k : Int) + 1, 0)) := rd_last HD.out h1 (by omega)
          clear h2
          go_wp2
          go_ret3
          rw [HE.out, HO.out]
          exact ⟨rfl, rfl⟩
      · by_cases h3 : k = 8
        · have h3' : ((k : Int) == 8) = true := by simp; omega
          have HE : Hid (R = (0, 0, 11)) := rd_nine HD.out h1 h3
          clear h3
          go_wp2
          go_ret3
          rw [HE.out]
          exact ⟨rfl, rfl⟩
        · have h3' : ((k : Int) == 8) = false := by simp; omega
          have HO := or_shift k q ((s[k].toNat : Int) - 128) hk8 q0 q1.out (by omega) (by omega)
          have HO' : Hid (bits BinOp.or IntKind.i64 q (wrap64 (((s[k].toNat : Int) - 128) * 2 ^ (7 * k))) = q + ((s[k].toNat : Int) - 128) * 128 ^ k ∧ 0 ≤ q + ((s[k].toNat : Int) - 128) * 128 ^ k ∧ q + ((s[k].toNat : Int) - 128) * 128 ^ k < 128 ^ (k + 1)) := HO
          clear HO
          go_wp2
          go_round
          case rel => exact ⟨k + 1, q + ((s[k].toNat : Int) - 128) * 128 ^ k, by omega, by omega, by go_num, by rw [HO'.out.1], rd_more HD.out h1 h3, HO'.out.2.1, HO'.out.2.2⟩
          case measure => simp [intOf]; omega
    · have HE : Hid (R = (0, 0, 10)) := by
        unfold Hid; have h := HQ.out; rw [drop_none s k hlt] at h; rw [← h]; rfl
      go_wp2
      go_ret3
      rw [HE.out]
      exact ⟨rfl, rfl⟩
end Go.Proofs.Ytpnbhddmdfcjdaa
