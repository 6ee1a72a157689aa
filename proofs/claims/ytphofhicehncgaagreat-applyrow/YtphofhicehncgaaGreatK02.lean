/- Which page bytes are: read, and laid again. -/
import Derived.Test.YtphofhicehncgaaGreatK01
namespace Go.Proofs.YtphofhicehncgaaGreat
open Go.RowKit

theorem set_rep (j : Nat) (d : List UInt8) (u : UInt8) : (List.replicate (j + 1) 0 ++ d).set j u = List.replicate j 0 ++ u :: d := by
  induction j with
  | zero => rfl
  | succ j ih =>
    rw [List.replicate_succ, List.cons_append, List.set_cons_succ, ih]
    rfl
/-- The lowest so many bytes of a number, the highest one first. -/
def bigF : Nat → Nat → List UInt8
  | 0, _ => []
  | k + 1, n => bigF k (n / 256) ++ [UInt8.ofNat (n % 256)]
theorem bigF_len (k n : Nat) : (bigF k n).length = k := by
  induction k generalizing n with
  | zero => rfl
  | succ k ih => simp [bigF, ih]
theorem Tryz.infoByte : (Tryz.prog.info? 5).map (fun i => (i.zero, i.size, i.bytes)) = some (some (.int .u8 0), 1, 1) := by kernel_rfl
set_option maxHeartbeats 400000 in
theorem of_any (s : ByteArray) (w : World) (hs : s.size ≤ maxLen) :
    Calls Tryz.prog 63 #[.string s] w fun e w' => e = .returned (.int .i64 (ofTo s.data.toList % 9223372036854775808)) ∧ w' = w := by
  unfold maxLen at hs
  go_enter Tryz.func63, Tryz.ntmps63
  go_wp2
  go_loop [3, 4] (fun c i => ∃ (k : Nat) (q : Int), k ≤ s.size ∧ i = .int .i64 k ∧ c = .int .u64 q ∧ q = ofTo (s.data.toList.take k) ∧ 0 ≤ q ∧ q < 18446744073709551616) (fun _ i => s.size - (intOf i).toNat)
  case atStart => exact ⟨0, 0, Nat.zero_le _, rfl, rfl, rfl, by decide, by decide⟩
  case round =>
    obtain ⟨k, q, hk, rfl, rfl, hq, q0, q1⟩ := hrel
    have HQ : Hid (q = ofTo (s.data.toList.take k)) := hq
    clear hq
    by_cases hlt : k < s.size
    · have HS : Hid (ofTo (s.data.toList.take (k + 1)) = (q * 256 + (s[k].toNat : Int)) % 18446744073709551616) := by
        unfold Hid; rw [take_snoc s k hlt, ofTo_snoc, ← HQ.out]
      go_wp2
      go_round
      case rel => exact ⟨k + 1, ofTo (s.data.toList.take (k + 1)), by omega, by go_num, by rw [HS.out, of_step q s[k]], rfl, (ofTo_bd _).1, (ofTo_bd _).2⟩
      case measure => simp [intOf]; omega
    · have HT := take_all s k hlt
      have HO : Hid (q % 9223372036854775808 = ofTo s.data.toList % 9223372036854775808) := by unfold Hid; rw [HQ.out, HT]
      go_wp2
      go_ret
      exact ⟨ret_int (by rw [of_last q q0 q1]; exact HO.out), rfl⟩
theorem bytes_back (w : World) (base : Nat) (v : Value) (row : Option Nat) (l : List UInt8) (hr : Row w base v row l) : (convert 75 9 v).run Tryz.prog w = .ok (.string ⟨l.toArray⟩) w := by
  rcases hr.own.2 with ⟨rfl, hn⟩ | ⟨g, cap, cur, rfl, hb, hg, hn, hm, hs, htake⟩
  · have e : l = [] := List.eq_nil_of_length_eq_zero hn
    subst e
    rw [run_convert_bytes_nil w 75 5 Tryz.underlying75 Tryz.underlying5 0 0 9 Tryz.underlying9]
    rfl
  · refine run_convert_bytes_back w 75 9 5 ⟨g, 0, none⟩ cap l Tryz.underlying75 Tryz.underlying5 Tryz.underlying9 ?_
    intro j hj
    refine hr.own.cells (g := g) rfl j _ ?_
    unfold cells
    simp [List.getElem?_eq_getElem hj]
set_option maxRecDepth 100000 in
set_option maxHeartbeats 800000 in
theorem big_any (n k : Nat) (w : World) (hk : 1 ≤ k) (hk8 : k ≤ 8) (hn : n < 9223372036854775808) :
    Calls Tryz.prog 55 #[.int .i64 n, .int .i64 k] w fun e w' => e = .returned (.string ⟨(bigF k n).toArray⟩) ∧ Only (fun _ => False) w w' := by
  obtain ⟨i0, hi, hz0, hz1, hz2⟩ := info_parts Tryz.infoByte
  obtain ⟨w1, hmk, hown, hgr⟩ := run_make_full (P := Tryz.prog) w w.heap.size 75 5 i0 (.int .u8 0) 1 Tryz.underlying75 hi hz0 hz1 .i64 .i64 k (by rw [hz2]; omega) (by unfold maxLen; omega) (Nat.le_refl _)
  have hrow : Row w1 w.heap.size (.slice (some ⟨w.heap.size, 0, none⟩) k k) (some w.heap.size) (List.replicate k 0) := by
    refine ⟨?_, rfl⟩
    have e : (madeCells (Value.int .u8 0).cells (k * 1)).toList = cells (List.replicate k 0) := by
      have : (Value.int IntKind.u8 0).cells = #[.int .u8 0] := rfl
      rw [this, toList_madeCells_one]; simp [cells]
    rw [e] at hown
    simpa using hown
  have hon : Only (fun _ => False) w w1 := Only.grown hgr (fun k hk => by cases hk)
  have HROW := hide hrow
  have HON := hide hon
  clear hrow hon hgr hown
  go_enter Tryz.func55, Tryz.ntmps55
  go_wp2
  go_loopw [0, 6] (fun x i wr => ∃ (j q : Nat) (d : List UInt8), j ≤ k ∧ i = .int .i64 ((j : Int) - 1) ∧ x = .int .i64 q ∧ q < 9223372036854775808 ∧ Hid (bigF j q ++ d = bigF k n) ∧ Hid (Row wr w.heap.size (.slice (some ⟨w.heap.size, 0, none⟩) k k) (some w.heap.size) (List.replicate j 0 ++ d)) ∧ Hid (Only (fun _ => False) w wr))
    (fun _ i _ => (intOf i + 1).toNat)
  case atStart => exact ⟨k, n, [], by omega, rfl, rfl, hn, by unfold Hid; simp, by rw [List.append_nil]; exact HROW, HON⟩
  case round =>
    obtain ⟨j, q, d, hj, rfl, rfl, hq, HB, HR, HO⟩ := hrel
    by_cases hlt : 1 ≤ j
    · obtain ⟨j', rfl⟩ : ∃ j', j = j' + 1 := ⟨j - 1, by omega⟩
      obtain ⟨⟨v0, hc0⟩, hf0⟩ := HR.out.at0 (j := j') (by omega)
      go_wp2
      have hd : ((UInt8.ofNat (q % 256)).toNat : Int) = (q : Int) % 256 := by rw [byte_nat (by omega)]; omega
      have hst := HR.out.store j' (UInt8.ofNat (q % 256))
      rw [hd, set_rep] at hst
      have hB2 : bigF j' (q / 256) ++ UInt8.ofNat (q % 256) :: d = bigF k n := by rw [← HB.out, bigF]; simp
      go_roundw
      case rel => exact ⟨j', q / 256, UInt8.ofNat (q % 256) :: d, by omega, by go_num, by go_num, by omega, hB2, hst.1, HO.out.trans hst.2 (fun i h1 h2 => by omega)⟩
      case measure => simp [intOf]
    · have e0 : j = 0 := by omega
      have hB2 : d = bigF k n := by have h := HB.out; rw [e0] at h; simpa [bigF] using h
      have hR2 := HR.out
      rw [e0, hB2] at hR2
      have hR3 : Row wr w.heap.size (.slice (some ⟨w.heap.size, 0, none⟩) k k) (some w.heap.size) (bigF k n) := by simpa using hR2
      have hcv := bytes_back wr _ _ _ _ hR3
      clear hR2 hB2
      have HR3 := hide hR3
      clear hR3
      go_wp2
      go_ret
      exact ⟨rfl, HO.out⟩
theorem sbit_yes2 (q : Int) (h0 : 0 ≤ q) (h1 : q < 4294967296) (h : (q % 2 == 1) = true) : bits BinOp.xor IntKind.u32 (q / 2) 3988292384 = sbit q :=
  sbit_yes q (by rw [and1_u32 q h0 h1]; exact h)
theorem sbit_no2 (q : Int) (h0 : 0 ≤ q) (h1 : q < 4294967296) (h : (q % 2 == 1) = false) : q / 2 = sbit q :=
  sbit_no q (by rw [and1_u32 q h0 h1]; exact h)

theorem of_ref (o : Int) (b : UInt8) : o % 9223372036854775808 % 36028797018963968 * 256 + (b.toNat : Int) = (o * 256 + (b.toNat : Int)) % 18446744073709551616 % 9223372036854775808 := by
  have hb := b.toNat_lt
  omega
end Go.Proofs.YtphofhicehncgaaGreat

namespace Go.Proofs.YtphofhicehncgaaGreat
open Go.RowKit

structure Pg where
  lsn : Int
  kind : Int
  level : Int
  right : Int
  high : ByteArray
  items : List ByteArray

abbrev bl (s : ByteArray) : List UInt8 := s.data.toList
theorem bl_len (s : ByteArray) : (bl s).length = s.size := by rw [Array.length_toList]; rfl
def str (l : List UInt8) : ByteArray := ⟨l.toArray⟩
theorem bl_str (l : List UInt8) : bl (str l) = l := rfl
theorem str_bl (s : ByteArray) : str (bl s) = s := by obtain ⟨⟨l⟩⟩ := s; rfl
theorem str_size (l : List UInt8) : (str l).size = l.length := rfl
/-- The bytes that items need. -/
def isz (l : List ByteArray) : Nat := (l.map fun s => 2 + s.size).sum
theorem isz_nil : isz [] = 0 := rfl
theorem isz_cons (s : ByteArray) (l : List ByteArray) : isz (s :: l) = 2 + s.size + isz l := by simp [isz]
theorem isz_app (l m : List ByteArray) : isz (l ++ m) = isz l + isz m := by simp [isz]
theorem isz_snoc (l : List ByteArray) (k : Nat) (h : k < l.length) : isz (l.take (k + 1)) = isz (l.take k) + (2 + l[k].size) := by
  rw [List.take_succ_eq_append_getElem h, isz_app, isz_cons, isz_nil, Nat.add_zero]
def Pg.size (p : Pg) : Nat := 20 + p.high.size + isz p.items
def u8 (n : Int) : UInt8 := UInt8.ofNat n.toNat
def itemsL (l : List ByteArray) : List UInt8 := (l.map fun s => bigF 2 s.size ++ bl s).flatten
theorem itemsL_nil : itemsL [] = [] := rfl
theorem itemsL_cons (s : ByteArray) (l : List ByteArray) : itemsL (s :: l) = bigF 2 s.size ++ bl s ++ itemsL l := by simp [itemsL]
theorem itemsL_app (l m : List ByteArray) : itemsL (l ++ m) = itemsL l ++ itemsL m := by simp [itemsL]
theorem itemsL_len (l : List ByteArray) : (itemsL l).length = isz l := by
  induction l with
  | nil => rfl
  | cons s l ih => rw [itemsL_cons, isz_cons]; simp only [List.length_append, bigF_len, bl_len, ih]
theorem itemsL_snoc (l : List ByteArray) (k : Nat) (h : k < l.length) : itemsL (l.take (k + 1)) = itemsL (l.take k) ++ (bigF 2 l[k].size ++ bl l[k]) := by
  rw [List.take_succ_eq_append_getElem h, itemsL_app, itemsL_cons, itemsL_nil, List.append_nil]
/-- The bytes between the sum and High. -/
def Pg.head (p : Pg) : List UInt8 := bigF 8 p.lsn.toNat ++ (u8 p.kind :: u8 p.level :: (bigF 4 p.right.toNat ++ [UInt8.ofNat p.items.length, UInt8.ofNat p.high.size]))
theorem head_len (p : Pg) : p.head.length = 16 := by simp [Pg.head, bigF_len]
def Pg.front (p : Pg) : List UInt8 := p.head ++ (bl p.high ++ itemsL p.items)
theorem front_len (p : Pg) : p.front.length + 4 = p.size := by
  simp only [Pg.front, List.length_append, head_len, bl_len, itemsL_len, Pg.size]; omega
def Pg.body (p : Pg) : List UInt8 := p.front ++ List.replicate (512 - p.size) 0
def Pg.enc (p : Pg) : List UInt8 := bigF 4 (sum p.body).toNat ++ p.body
theorem body_len (p : Pg) (h : p.size ≤ 512) : p.body.length = 508 := by
  have := front_len p
  simp only [Pg.body, List.length_append, List.length_replicate]; omega
theorem enc_len (p : Pg) (h : p.size ≤ 512) : p.enc.length = 512 := by
  simp only [Pg.enc, List.length_append, bigF_len, body_len p h]
def Pg.inRange (p : Pg) : Prop := 0 ≤ p.lsn ∧ 1 ≤ p.kind ∧ p.kind ≤ 3 ∧ 0 ≤ p.level ∧ p.level ≤ 255 ∧ 0 ≤ p.right ∧ p.right ≤ 4294967295
def Pg.fits (p : Pg) : Prop := p.high.size ≤ 255 ∧ p.items.length ≤ 255 ∧ p.size ≤ 512
structure Pg.valid (p : Pg) : Prop where
  rng : p.inRange
  fit : p.fits
  lsn : p.lsn < 9223372036854775808

theorem ofTo_app (l : List UInt8) (b : UInt8) : ofTo (l ++ [b]) = (ofTo l * 256 + (b.toNat : Int)) % 18446744073709551616 := ofTo_snoc l b
theorem ofTo_small (l : List UInt8) (h : l.length ≤ 8) : 0 ≤ ofTo l ∧ ofTo l < 256 ^ l.length := by
  induction hn : l.length generalizing l with
  | zero => have : l = [] := List.eq_nil_of_length_eq_zero hn; subst this; exact ⟨by decide, by decide⟩
  | succ n ih =>
    rcases List.eq_nil_or_concat l with rfl | ⟨l', b, rfl⟩
    · simp at hn
    · rw [List.concat_eq_append] at hn h ⊢
      have hl : l'.length = n := by simpa using hn
      have h1 := ih l' (by simp at h; omega) hl
      have hb := b.toNat_lt
      rw [ofTo_snoc]
      have hp : (256 : Int) ^ (n + 1) = 256 ^ n * 256 := Int.pow_succ 256 n
      have hle : (256 : Int) ^ n ≤ 72057594037927936 := by
        have : n ≤ 7 := by simp at h; omega
        have hc : n = 0 ∨ n = 1 ∨ n = 2 ∨ n = 3 ∨ n = 4 ∨ n = 5 ∨ n = 6 ∨ n = 7 := by omega
        rcases hc with rfl | rfl | rfl | rfl | rfl | rfl | rfl | rfl <;> decide
      rw [hp]
      rw [Int.emod_eq_of_lt (by omega) (by omega)]
      omega
theorem ofTo_big (k n : Nat) (hk : k ≤ 8) (hn : n < 256 ^ k) : ofTo (bigF k n) = n := by
  induction k generalizing n with
  | zero => simp at hn; subst hn; rfl
  | succ k ih =>
    rw [bigF, ofTo_snoc, ih (n / 256) (by omega) (by rw [Nat.pow_succ] at hn; omega), byte_nat (by omega)]
    have hle : n < 18446744073709551616 := by
      have : k ≤ 7 := by omega
      have hc : k = 0 ∨ k = 1 ∨ k = 2 ∨ k = 3 ∨ k = 4 ∨ k = 5 ∨ k = 6 ∨ k = 7 := by omega
      rcases hc with rfl | rfl | rfl | rfl | rfl | rfl | rfl | rfl <;> simp at hn <;> omega
    omega
theorem big_ofTo (l : List UInt8) (h : l.length ≤ 8) : bigF l.length (ofTo l).toNat = l := by
  induction hn : l.length generalizing l with
  | zero => have : l = [] := List.eq_nil_of_length_eq_zero hn; subst this; rfl
  | succ n ih =>
    rcases List.eq_nil_or_concat l with rfl | ⟨l', b, rfl⟩
    · simp at hn
    · rw [List.concat_eq_append] at hn h ⊢
      have hl : l'.length = n := by simpa using hn
      have h1 := ih l' (by simp at h; omega) hl
      have hs := ofTo_small l' (by simp at h; omega)
      rw [hl] at hs
      have hb := b.toNat_lt
      have hle : (256 : Int) ^ n ≤ 72057594037927936 := by
        have : n ≤ 7 := by simp at h; omega
        have hc : n = 0 ∨ n = 1 ∨ n = 2 ∨ n = 3 ∨ n = 4 ∨ n = 5 ∨ n = 6 ∨ n = 7 := by omega
        rcases hc with rfl | rfl | rfl | rfl | rfl | rfl | rfl | rfl <;> decide
      rw [ofTo_snoc, Int.emod_eq_of_lt (by omega) (by omega), bigF]
      have e1 : (ofTo l' * 256 + (b.toNat : Int)).toNat / 256 = (ofTo l').toNat := by omega
      have e2 : (ofTo l' * 256 + (b.toNat : Int)).toNat % 256 = b.toNat := by omega
      rw [e1, e2, h1, UInt8.ofNat_toNat]

/-- So many items that bytes begin with, and what is behind them. -/
def takeI : Nat → List UInt8 → Option (List ByteArray × List UInt8)
  | 0, d => some ([], d)
  | k + 1, d =>
    if d.length < 2 then none
    else if (d.drop 2).length < (ofTo (d.take 2)).toNat then none
    else match takeI k ((d.drop 2).drop (ofTo (d.take 2)).toNat) with
      | none => none
      | some (l, r) => some (str ((d.drop 2).take (ofTo (d.take 2)).toNat) :: l, r)
def more (a : List ByteArray) : Option (List ByteArray × List UInt8) → Option (List ByteArray × List UInt8)
  | none => none
  | some (l, r) => some (a ++ l, r)
theorem more_nil (o : Option (List ByteArray × List UInt8)) : more [] o = o := by cases o <;> rfl
theorem takeI_short {k : Nat} {d : List UInt8} (a : List ByteArray) (h : d.length < 2) : more a (takeI (k + 1) d) = none := by rw [takeI, if_pos h]; rfl
theorem takeI_long {k : Nat} {d : List UInt8} (a : List ByteArray) (h : ¬ d.length < 2) (h2 : (d.drop 2).length < (ofTo (d.take 2)).toNat) : more a (takeI (k + 1) d) = none := by rw [takeI, if_neg h, if_pos h2]; rfl
theorem takeI_next {k : Nat} {d : List UInt8} (a : List ByteArray) (h : ¬ d.length < 2) (h2 : ¬ (d.drop 2).length < (ofTo (d.take 2)).toNat) :
    more a (takeI (k + 1) d) = more (a ++ [str ((d.drop 2).take (ofTo (d.take 2)).toNat)]) (takeI k ((d.drop 2).drop (ofTo (d.take 2)).toNat)) := by
  rw [takeI, if_neg h, if_neg h2]
  cases takeI k ((d.drop 2).drop (ofTo (d.take 2)).toNat) with
  | none => rfl
  | some q => simp [more]
/-- What is taken is what is laid. -/
theorem takeI_back (k : Nat) (d : List UInt8) (l : List ByteArray) (r : List UInt8) (h : takeI k d = some (l, r)) : d = itemsL l ++ r ∧ l.length = k := by
  induction k generalizing d l with
  | zero => simp [takeI] at h; obtain ⟨rfl, rfl⟩ := h; exact ⟨rfl, rfl⟩
  | succ k ih =>
    rw [takeI] at h
    split at h
    · cases h
    · rename_i h1
      split at h
      · cases h
      · rename_i h2
        split at h
        · cases h
        · rename_i l' r' he
          injection h with h
          injection h with hl hr
          subst hr
          obtain ⟨e, hk⟩ := ih _ _ he
          subst hl
          refine ⟨?_, by simp [hk]⟩
          have h2' : (d.take 2).length = 2 := by simp; omega
          have hb := big_ofTo (d.take 2) (by omega)
          rw [h2'] at hb
          rw [itemsL_cons, str_size, bl_str]
          have hsz : ((d.drop 2).take (ofTo (d.take 2)).toNat).length = (ofTo (d.take 2)).toNat := by rw [List.length_take]; omega
          rw [hsz, hb, List.append_assoc, List.append_assoc, ← e, List.take_append_drop, List.take_append_drop]
theorem takeI_laid (l : List ByteArray) (r : List UInt8) (h : ∀ s ∈ l, s.size < 65536) : takeI l.length (itemsL l ++ r) = some (l, r) := by
  induction l with
  | nil => rfl
  | cons s l ih =>
    have hs := h s (by simp)
    have e : itemsL (s :: l) ++ r = bigF 2 s.size ++ (bl s ++ (itemsL l ++ r)) := by rw [itemsL_cons]; simp
    have ht : (itemsL (s :: l) ++ r).take 2 = bigF 2 s.size := by rw [e]; exact List.take_left' (bigF_len _ _)
    have hd : (itemsL (s :: l) ++ r).drop 2 = bl s ++ (itemsL l ++ r) := by rw [e]; exact List.drop_left' (bigF_len _ _)
    have hn : (ofTo (bigF 2 s.size)).toNat = s.size := by rw [ofTo_big 2 s.size (by omega) (by simpa using hs)]; rfl
    rw [List.length_cons, takeI, ht, hd, hn, List.drop_left' (bl_len s), List.take_left' (bl_len s), ih (fun t ht => h t (by simp [ht]))]
    rw [if_neg (by rw [e]; simp [bigF_len]), if_neg (by simp)]
    simp [str_bl]
/-- What stands in the bytes behind the sum, read without a look at what may be. -/
def pre (D : List UInt8) : Option (Pg × List UInt8) :=
  match takeI (D.getD 14 0).toNat ((D.drop 16).drop (D.getD 15 0).toNat) with
  | none => none
  | some (l, r) => some (⟨ofTo (D.take 8) % 9223372036854775808, (D.getD 8 0).toNat, (D.getD 9 0).toNat, ofTo ((D.drop 10).take 4) % 9223372036854775808, str ((D.drop 16).take (D.getD 15 0).toNat), l⟩, r)
end Go.Proofs.YtphofhicehncgaaGreat

namespace Go.Proofs.YtphofhicehncgaaGreat
open Go.RowKit

theorem ofTo_cons (b : UInt8) (l : List UInt8) (h : l.length ≤ 7) : ofTo (b :: l) = (b.toNat : Int) * 256 ^ l.length + ofTo l := by
  have hb := b.toNat_lt
  induction hn : l.length generalizing l with
  | zero =>
    have : l = [] := List.eq_nil_of_length_eq_zero hn
    subst this
    simp [ofTo]
    omega
  | succ n ih =>
    rcases List.eq_nil_or_concat l with rfl | ⟨l', c, rfl⟩
    · simp at hn
    · rw [List.concat_eq_append] at hn h ⊢
      have hl : l'.length = n := by simpa using hn
      have h1 := ih l' (by simp at h; omega) hl
      have hs := ofTo_small l' (by simp at h; omega)
      rw [hl] at hs
      have hc := c.toNat_lt
      have hle : (256 : Int) ^ n ≤ 281474976710656 := by
        have : n ≤ 6 := by simp at h; omega
        have hc : n = 0 ∨ n = 1 ∨ n = 2 ∨ n = 3 ∨ n = 4 ∨ n = 5 ∨ n = 6 := by omega
        rcases hc with rfl | rfl | rfl | rfl | rfl | rfl | rfl <;> decide
      have hp : (256 : Int) ^ (n + 1) = 256 ^ n * 256 := Int.pow_succ 256 n
      have e : b :: (l' ++ [c]) = (b :: l') ++ [c] := rfl
      rw [e, ofTo_snoc, ofTo_snoc, h1, hp]
      have hbp : (0 : Int) ≤ (b.toNat : Int) * 256 ^ n ∧ (b.toNat : Int) * 256 ^ n ≤ 255 * 256 ^ n := by
        constructor
        · exact Int.mul_nonneg (by omega) (by omega)
        · exact Int.mul_le_mul_of_nonneg_right (by omega) (by omega)
      have e2 : (b.toNat : Int) * (256 ^ n * 256) = (b.toNat : Int) * 256 ^ n * 256 := by rw [Int.mul_assoc]
      rw [e2]
      generalize (b.toNat : Int) * 256 ^ n = y at *
      rw [Int.emod_eq_of_lt (by omega) (by omega), Int.emod_eq_of_lt (by omega) (by omega)]
      omega
theorem top8 (l : List UInt8) (h : l.length = 8) : (l.getD 0 0).toNat ≤ 127 ↔ ofTo l < 9223372036854775808 := by
  match l, h with
  | b :: t, h =>
    have ht : t.length = 7 := by simpa using h
    have hs := ofTo_small t (by omega)
    rw [ht] at hs
    rw [ofTo_cons b t (by omega), ht]
    simp at hs ⊢
    omega
theorem big8 (l : List UInt8) (h : l.length = 8) : (l.getD 0 0).toNat ≤ 127 ↔ bigF 8 (ofTo l % 9223372036854775808).toNat = l := by
  have hs := ofTo_bd l
  have hb := big_ofTo l (by omega)
  rw [h] at hb
  constructor
  · intro h1
    rw [top8 l h] at h1
    rw [Int.emod_eq_of_lt hs.1 h1, hb]
  · intro h1
    rw [top8 l h]
    have h2 := ofTo_big 8 (ofTo l % 9223372036854775808).toNat (by omega) (by omega)
    rw [h1] at h2
    omega
theorem parts_of (a b rest : List UInt8) (x y u v : UInt8) (ha : a.length = 8) (hb : b.length = 4) :
    (a ++ (x :: y :: (b ++ (u :: v :: rest)))).take 8 = a ∧ (a ++ (x :: y :: (b ++ (u :: v :: rest)))).getD 8 0 = x ∧ (a ++ (x :: y :: (b ++ (u :: v :: rest)))).getD 9 0 = y ∧ ((a ++ (x :: y :: (b ++ (u :: v :: rest)))).drop 10).take 4 = b ∧
    (a ++ (x :: y :: (b ++ (u :: v :: rest)))).getD 14 0 = u ∧ (a ++ (x :: y :: (b ++ (u :: v :: rest)))).getD 15 0 = v ∧ (a ++ (x :: y :: (b ++ (u :: v :: rest)))).drop 16 = rest := by
  match a, ha with
  | [_, _, _, _, _, _, _, _], _ =>
    match b, hb with
    | [_, _, _, _], _ => exact ⟨rfl, rfl, rfl, rfl, rfl, rfl, rfl⟩
theorem whole16 (D : List UInt8) (h : 16 ≤ D.length) : D = D.take 8 ++ (D.getD 8 0 :: D.getD 9 0 :: ((D.drop 10).take 4 ++ (D.getD 14 0 :: D.getD 15 0 :: D.drop 16))) := by
  match D, h with
  | _ :: _ :: _ :: _ :: _ :: _ :: _ :: _ :: _ :: _ :: _ :: _ :: _ :: _ :: _ :: _ :: _, _ => rfl
theorem u8_nat (b : UInt8) : u8 (b.toNat : Int) = b := by unfold u8; rw [Int.toNat_natCast, UInt8.ofNat_toNat]
theorem u8_to (n : Int) (h0 : 0 ≤ n) (h1 : n < 256) : ((u8 n).toNat : Int) = n := by unfold u8; rw [byte_nat (by omega)]; omega

structure PreIs (D : List UInt8) (p : Pg) (r : List UInt8) : Prop where
  kind : p.kind = (D.getD 8 0).toNat
  level : p.level = (D.getD 9 0).toNat
  lsn : p.lsn = ofTo (D.take 8) % 9223372036854775808
  right : p.right = ofTo ((D.drop 10).take 4)
  many : p.items.length = (D.getD 14 0).toNat
  high : p.high.size = (D.getD 15 0).toNat
  rest : D.drop 16 = bl p.high ++ itemsL p.items ++ r
  size : p.size + r.length = 512
theorem pre_is (D : List UInt8) (p : Pg) (r : List UInt8) (hD : D.length = 508) (h : pre D = some (p, r)) : PreIs D p r := by
  unfold pre at h
  split at h
  · cases h
  · rename_i l r' he
    injection h with h
    injection h with hp hr
    subst hr
    obtain ⟨e, hk⟩ := takeI_back _ _ _ _ he
    have h15 := (D.getD 15 0).toNat_lt
    have hd : (D.drop 16).length = 492 := by simp [hD]
    have h4 : ((D.drop 10).take 4).length = 4 := by simp [hD]
    have hs := ofTo_small ((D.drop 10).take 4) (by omega)
    rw [h4] at hs
    have hr : D.drop 16 = bl p.high ++ itemsL p.items ++ r' := by
      subst hp
      rw [List.append_assoc, ← e, bl_str, List.take_append_drop]
    have hh : p.high.size = (D.getD 15 0).toNat := by subst hp; rw [str_size, List.length_take]; omega
    have hl := congrArg List.length hr
    rw [hd] at hl
    simp only [List.length_append, bl_len, itemsL_len] at hl
    refine ⟨by subst hp; rfl, by subst hp; rfl, by subst hp; rfl, ?_, by subst hp; exact hk, hh, hr, by unfold Pg.size; omega⟩
    subst hp
    simp at hs
    exact Int.emod_eq_of_lt (by omega) (by omega)
theorem PreIs.fits {D : List UInt8} {p : Pg} {r : List UInt8} (h : PreIs D p r) : p.fits := by
  have h14 := (D.getD 14 0).toNat_lt
  have h15 := (D.getD 15 0).toNat_lt
  have := h.many
  have := h.high
  have := h.size
  exact ⟨by omega, by omega, by omega⟩
/-- What is read may be, and is laid as what was read, just if it begins and ends as it must. -/
theorem PreIs.iff {D : List UInt8} {p : Pg} {r : List UInt8} (hD : D.length = 508) (h : PreIs D p r) : (p.inRange ∧ p.body = D) ↔ ((D.getD 0 0).toNat ≤ 127 ∧ (1 ≤ p.kind ∧ p.kind ≤ 3) ∧ r = List.replicate r.length 0) := by
  have h8 := (D.getD 8 0).toNat_lt
  have h9 := (D.getD 9 0).toNat_lt
  have ht8 : (D.take 8).length = 8 := by simp [hD]
  have ht4 : ((D.drop 10).take 4).length = 4 := by simp [hD]
  have hs4 := ofTo_small ((D.drop 10).take 4) (by omega)
  rw [ht4] at hs4
  simp at hs4
  have hl0 := ofTo_bd (D.take 8)
  have eg : (D.take 8).getD 0 0 = D.getD 0 0 := by match D, hD with | _ :: _, _ => rfl
  have e8 := big8 (D.take 8) ht8
  rw [eg, ← h.lsn] at e8
  have hw := whole16 D (by omega)
  have hrng : (1 ≤ p.kind ∧ p.kind ≤ 3) → p.inRange := by
    intro hk
    have h1 := h.lsn; have h2 := h.level; have h3 := h.right
    exact ⟨by omega, hk.1, hk.2, by omega, by omega, by omega, by omega⟩
  have hb4 : bigF 4 p.right.toNat = (D.drop 10).take 4 := by
    have := big_ofTo ((D.drop 10).take 4) (by omega)
    rw [ht4] at this
    rw [h.right]; exact this
  have hfront : p.front = bigF 8 p.lsn.toNat ++ (D.getD 8 0 :: D.getD 9 0 :: ((D.drop 10).take 4 ++ (D.getD 14 0 :: D.getD 15 0 :: (bl p.high ++ itemsL p.items)))) := by
    unfold Pg.front Pg.head
    rw [hb4, h.kind, h.level, u8_nat, u8_nat, h.many, h.high, UInt8.ofNat_toNat, UInt8.ofNat_toNat]
    simp
  have hz : 512 - p.size = r.length := by have := h.size; omega
  constructor
  · rintro ⟨hr, hb⟩
    refine ⟨?_, ⟨hr.2.1, hr.2.2.1⟩, ?_⟩
    · rw [e8]
      have := congrArg (List.take 8) hb
      rw [← this]
      unfold Pg.body
      rw [hfront]
      simp only [List.append_assoc]
      rw [List.take_left' (bigF_len _ _)]
    · have hl := congrArg List.length hb
      have hx : p.body.drop (508 - r.length) = D.drop (508 - r.length) := by rw [hb]
      have hf := front_len p
      have e1 : p.body.drop (508 - r.length) = List.replicate r.length 0 := by
        unfold Pg.body
        rw [List.drop_left' (by have := h.size; omega), hz]
      have e2 : D.drop (508 - r.length) = r := by
        have : 508 - r.length = 16 + (492 - r.length) := by have := h.size; unfold Pg.size at this; omega
        rw [this, ← List.drop_drop, h.rest]
        exact List.drop_left' (by simp only [List.length_append, bl_len, itemsL_len]; have := h.size; unfold Pg.size at this; omega)
      rw [e1, e2] at hx
      exact hx.symm
  · rintro ⟨h0, hk, hr⟩
    refine ⟨hrng hk, ?_⟩
    rw [e8] at h0
    unfold Pg.body
    rw [hfront, h0, hz, ← hr]
    conv => rhs; rw [hw, h.rest]
    simp
theorem isz_mem {s : ByteArray} {l : List ByteArray} (h : s ∈ l) : 2 + s.size ≤ isz l := by
  induction l with
  | nil => cases h
  | cons t l ih =>
    rw [isz_cons]
    rcases List.mem_cons.1 h with rfl | h
    · omega
    · have := ih h; omega
theorem pre_body (p : Pg) (hv : p.valid) : pre p.body = some (p, List.replicate (512 - p.size) 0) := by
  obtain ⟨⟨r0, r1, r2, r3, r4, r5, r6⟩, ⟨f0, f1, f2⟩, hl⟩ := hv
  have e : p.body = bigF 8 p.lsn.toNat ++ (u8 p.kind :: u8 p.level :: (bigF 4 p.right.toNat ++ (UInt8.ofNat p.items.length :: UInt8.ofNat p.high.size :: (bl p.high ++ (itemsL p.items ++ List.replicate (512 - p.size) 0))))) := by
    unfold Pg.body Pg.front Pg.head; simp
  obtain ⟨q0, q1, q2, q3, q4, q5, q6⟩ := parts_of (bigF 8 p.lsn.toNat) (bigF 4 p.right.toNat) (bl p.high ++ (itemsL p.items ++ List.replicate (512 - p.size) 0)) (u8 p.kind) (u8 p.level) (UInt8.ofNat p.items.length) (UInt8.ofNat p.high.size) (bigF_len _ _) (bigF_len _ _)
  rw [← e] at q0 q1 q2 q3 q4 q5 q6
  have hsz : ∀ s ∈ p.items, s.size < 65536 := by
    intro s hs
    have := isz_mem hs
    unfold Pg.size at f2
    omega
  have n14 : (UInt8.ofNat p.items.length).toNat = p.items.length := UInt8.toNat_ofNat_of_lt' (by show _ < 256; omega)
  have n15 : (UInt8.ofNat p.high.size).toNat = p.high.size := UInt8.toNat_ofNat_of_lt' (by show _ < 256; omega)
  unfold pre
  rw [q0, q1, q2, q3, q4, q5, q6, n14, n15, List.drop_left' (bl_len _), List.take_left' (bl_len _), takeI_laid _ _ hsz, str_bl]
  have k8 := ofTo_big 8 p.lsn.toNat (by omega) (by omega)
  have k4 := ofTo_big 4 p.right.toNat (by omega) (by omega)
  simp only [k8, k4, u8_to p.kind (by omega) (by omega), u8_to p.level (by omega) (by omega)]
  have e1 : ((p.lsn.toNat : Int)) % 9223372036854775808 = p.lsn := by omega
  have e2 : ((p.right.toNat : Int)) % 9223372036854775808 = p.right := by omega
  rw [e1, e2]

def Pg.none : Pg := ⟨0, 0, 0, 0, ⟨#[]⟩, []⟩
/-- What stands in the bytes behind the sum is a page's. -/
def good (D : List UInt8) (p : Pg) (r : List UInt8) : Prop := (D.getD 0 0).toNat ≤ 127 ∧ (1 ≤ p.kind ∧ p.kind ≤ 3) ∧ r = List.replicate r.length 0
instance (D : List UInt8) (p : Pg) (r : List UInt8) : Decidable (good D p r) := by unfold good; exact inferInstance
/-- Which page bytes are, or what is wrong. -/
def dec (l : List UInt8) : Pg × Int :=
  if l.length ≠ 512 then (.none, 31)
  else if ofTo (l.take 4) ≠ sum (l.drop 4) then (.none, 30)
  else match pre (l.drop 4) with
    | some (p, r) => if good (l.drop 4) p r then (p, 0) else (.none, 31)
    | .none => (.none, 31)
theorem sum_bd (l : List UInt8) : 0 ≤ sum l ∧ sum l < 4294967296 := xor32_bd _ _
theorem dec_enc (p : Pg) (hv : p.valid) : dec p.enc = (p, 0) := by
  have hl := enc_len p hv.fit.2.2
  have hb := body_len p hv.fit.2.2
  have ht : p.enc.take 4 = bigF 4 (sum p.body).toNat := List.take_left' (bigF_len _ _)
  have hd : p.enc.drop 4 = p.body := List.drop_left' (bigF_len _ _)
  have hs := sum_bd p.body
  have hpre := pre_body p hv
  have hg : good _ _ _ := ((pre_is _ _ _ hb hpre).iff hb).1 ⟨hv.rng, rfl⟩
  unfold dec
  rw [if_neg (by omega), ht, hd, ofTo_big 4 _ (by omega) (by omega), if_neg (by omega), hpre]
  simp only
  rw [if_pos hg]
/-- Bytes of which the document's Encode gives the same back. -/
theorem dec_ok {l : List UInt8} {p : Pg} (h : dec l = (p, 0)) : p.valid ∧ p.enc = l := by
  unfold dec at h
  split at h
  · simp at h
  · rename_i h1
    split at h
    · simp at h
    · rename_i h2
      split at h
      · rename_i p' r he
        split at h
        · rename_i hg
          injection h with h _
          subst h
          have hD : (l.drop 4).length = 508 := by simp; omega
          have hi := pre_is _ _ _ hD he
          obtain ⟨hr, hb⟩ := (hi.iff hD).2 hg
          refine ⟨⟨hr, hi.fits, ?_⟩, ?_⟩
          · have := hi.lsn; omega
          · unfold Pg.enc
            rw [hb]
            have h4 : (l.take 4).length = 4 := by simp; omega
            have := big_ofTo (l.take 4) (by omega)
            rw [h4] at this
            have h2' : ofTo (l.take 4) = sum (l.drop 4) := by simpa using h2
            rw [← h2', this, List.take_append_drop]
        · simp at h
      · simp at h
end Go.Proofs.YtphofhicehncgaaGreat
