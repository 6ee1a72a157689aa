/- What Flush does where nothing is to be flushed. -/
import Derived.Test.YtebijheonkagfaaGreatDoorKW
import Derived.Test.YtebijheonkagfaaGreatDoorKD
import Derived.Deep.RegionHeld3
import Derived.Test.YtebijheonkagfaaGreatDoorKRe
namespace Go.Proofs.YtebijheonkagfaaGreatDoor
open Go.RowKit
structure Lg where
  frm : Nat
  n : Nat
  start : Nat
  tail : Nat
  flushed : Nat
  reserved : Nat
  stream : List UInt8
  places : List Int
def Lg.b0 (G : Lg) : Nat := (G.start - 1) / 54
def Lg.block (G : Lg) (k : Nat) : List UInt8 := (G.stream.drop ((k - G.b0) * 54)).take 54
structure Lg.Ok (G : Lg) : Prop where
  st : 1 ≤ G.start
  tl : G.start ≤ G.tail
  big : G.tail < 1099511627776
  fl : G.flushed ≤ G.tail
  n4 : 4 ≤ G.n
  nb : G.n ≤ 65536
  fb : G.frm ≤ 65536
  rs : G.reserved ≤ 1099511627776
  ln : G.stream.length < 1099511627776
structure LogAt (W : World) (l d : Nat) (G : Lg) (B : Nat) (ao : Option Addr) (cp : Nat) (v8 : Value) : Prop where
  c0 : W.cell? ⟨l, 0, none⟩ = some (.pointer (some ⟨d, 0, none⟩))
  c1 : W.cell? ⟨l, 1, none⟩ = some (.int .i64 (G.frm : Int))
  c2 : W.cell? ⟨l, 2, none⟩ = some (.int .i64 (G.n : Int))
  c3 : W.cell? ⟨l, 3, none⟩ = some (.int .i64 (G.start : Int))
  c4 : W.cell? ⟨l, 4, none⟩ = some (.int .i64 (G.tail : Int))
  c5 : W.cell? ⟨l, 5, none⟩ = some (.int .i64 (G.flushed : Int))
  c6 : W.cell? ⟨l, 6, none⟩ = some (.int .i64 (G.reserved : Int))
  c7 : W.cell? ⟨l, 7, none⟩ = some (.slice ao G.stream.length cp)
  c8 : W.cell? ⟨l, 8, none⟩ = some v8
  fz : ∀ k, W.frozen? ⟨l, k, none⟩ = false
  lt : l < W.heap.size
  by_ : Bys W B ao G.stream
  nil : ao = none → cp = 0
  at_ : ∀ a, ao = some a → a = ⟨a.block, a.off, none⟩
  le : G.stream.length ≤ cp
  big : cp ≤ maxLen
theorem LogAt.kept {S : Nat → Prop} {W W' : World} {l d : Nat} {G : Lg} {B : Nat} {ao : Option Addr} {cp : Nat} {v8 : Value} (h : LogAt W l d G B ao cp v8) (ho : Only S W W') (h1 : ¬ S l) (h2 : 0 < G.stream.length → ¬ S B) : LogAt W' l d G B ao cp v8 := by
  have k : ∀ (j : Nat) (v : Value), W.cell? ⟨l, j, none⟩ = some v → W'.cell? ⟨l, j, none⟩ = some v := fun j v hj => (ho.cell (p := ⟨l, j, none⟩) h.lt h1).trans hj
  exact ⟨k _ _ h.c0, k _ _ h.c1, k _ _ h.c2, k _ _ h.c3, k _ _ h.c4, k _ _ h.c5, k _ _ h.c6, k _ _ h.c7, k _ _ h.c8, fun j => (ho.frozen (p := ⟨l, j, none⟩) h.lt h1).trans (h.fz j), Nat.lt_of_lt_of_le h.lt ho.size, h.by_.kept ho h2, h.nil, h.at_, h.le, h.big⟩
theorem LogAt.more {W W' : World} {l d : Nat} {G : Lg} {B : Nat} {ao : Option Addr} {cp : Nat} {v8 : Value} (h : LogAt W l d G B ao cp v8) (ho : Only (fun _ => False) W W') : LogAt W' l d G B ao cp v8 := h.kept ho (fun h => h) (fun _ h => h)
theorem Bys.sub {w : World} {B : Nat} {b o : Nat} {l : List UInt8} (h : Bys w B (some ⟨b, o, none⟩) l) (s e cp : Nat) (hse : s ≤ e) (he : e ≤ l.length) (hc : l.length ≤ cp) :
    Bys w B (if cp = s then some ⟨b, o, none⟩ else some ⟨b, o + s, none⟩) ((l.drop s).take (e - s)) := by
  have hl : ((l.drop s).take (e - s)).length = e - s := by rw [List.length_take, List.length_drop]; omega
  refine ⟨fun h0 => ?_, fun h0 => h.lt (by omega)⟩; rw [hl] at h0; obtain ⟨o', e1, hcl⟩ := h.at_ (by omega)
  injection e1 with e1
  injection e1 with e1 e2 _
  subst e1; subst e2; rw [if_neg (by omega)]; refine ⟨o + s, rfl, fun j hj => ?_⟩; rw [hl] at hj; have := hcl (s + j) (by omega); rw [← Nat.add_assoc] at this; rw [this]
  congr 3
  simp
set_option maxRecDepth 100000 in
theorem block_any (w : World) (l d : Nat) (G : Lg) (B : Nat) (ao : Option Addr) (cp : Nat) (v8 : Value) (h : LogAt w l d G B ao cp v8) (ok : G.Ok) (k : Nat) (hk0 : G.b0 ≤ k) (hk : k < 1099511627776) :
    Calls Tryz.prog 155 #[.pointer (some ⟨l, 0, none⟩), .int .i64 (k : Int)] w fun e w' => (∃ A2 c2, e = .returned (.slice A2 (G.block k).length c2) ∧ Bys w B A2 (G.block k)) ∧ w' = w := by
  have c3 := h.c3; have c7 := h.c7
  have q := fun W => blockOf_any G.start W ok.st (by have := ok.tl; have := ok.big; omega)
  have hb0 : (G.start - 1) / 54 = G.b0 := rfl; rw [hb0] at q; have HQ := hide q; have HB := hide h.by_; have HNIL := hide h.nil; have HAT := hide h.at_; have hle := h.le; have hbig := h.big; unfold maxLen at hbig; have hln := ok.ln; obtain ⟨len, hlen⟩ : ∃ len, G.stream.length = len := ⟨_, rfl⟩; obtain ⟨bs, hbs⟩ : ∃ b, G.b0 = b := ⟨_, rfl⟩; obtain ⟨at_, hat⟩ : ∃ a, (k - bs) * 54 = a := ⟨_, rfl⟩; obtain ⟨en, hen⟩ : ∃ e, min (at_ + 54) len = e := ⟨_, rfl⟩; obtain ⟨s0, hs0⟩ : ∃ s, min at_ en = s := ⟨_, rfl⟩
  have hblk : G.block k = (G.stream.drop s0).take (en - s0) := by
    unfold Lg.block; rw [hbs, hat]
    by_cases hc : at_ ≤ len
    · have e1 : s0 = at_ := by omega
      rw [e1]
      by_cases hd : at_ + 54 ≤ len
      · rw [show en - at_ = 54 from by omega]
      · rw [show en - at_ = len - at_ from by omega, List.take_of_length_le (by rw [List.length_drop]; omega), List.take_of_length_le (by rw [List.length_drop]; omega)]
    · rw [show en - s0 = 0 from by omega, List.take_zero, List.drop_of_length_le (by omega)]
      rfl
  have hbl : (G.block k).length = en - s0 := by rw [hblk, List.length_take, List.length_drop]; omega
  rw [hbl]; rw [hlen] at c7 hle hln; rw [hbs] at HQ hk0
  have e1 : ((k : Int) - (bs : Int)) * 54 = (at_ : Int) := by omega
  have e2 : min ((at_ : Int) + 54) (len : Int) = (en : Int) := by omega
  have e3 : min (at_ : Int) (en : Int) = (s0 : Int) := by omega
  have hse : s0 ≤ en := by omega
  have hel : en ≤ len := by omega
  have i1 : (s0 : Int) ≤ (en : Int) := by omega
  have i2 : (en : Int) ≤ (cp : Int) := by omega
  have i3 : (k : Int) < 1099511627776 := by omega
  have i4 : (bs : Int) ≤ (k : Int) := by omega
  have i5 : (at_ : Int) < 60000000000000 := by omega
  have i6 : (0 : Int) ≤ (s0 : Int) := by omega
  have HBLK := hide hblk; have HLEN := hide hlen; clear h ok hk0 hk hb0 q hbs hat hen hs0 hblk hbl hlen
  cases ao with
  | none =>
    have hc0 := HNIL.out rfl; subst hc0
    have z1 : len = 0 := by omega
    have z2 : en = 0 := by omega
    have z3 : s0 = 0 := by omega
    have e4 : min ((at_ : Int) + 54) 0 = 0 := by omega
    have e5 : min (at_ : Int) 0 = 0 := by omega
    subst z1; subst z2; subst z3
    have HFIN : Hid (Bys w B none (G.block k)) := by
      unfold Hid; rw [HBLK.out]
      exact ⟨fun h0 => absurd h0 (by simp), fun h0 => absurd h0 (by simp)⟩
    go_enter Tryz.func155, Tryz.ntmps155
    go_wp2_with (first
      | (go_at_call 121; refine (HQ.out _).mono ?_; rintro e w' ⟨rfl, hw⟩; obtain rfl := hw.symm; clear hw))
    go_ret
    exact ⟨⟨_, _, rfl, HFIN.out⟩, rfl⟩
  | some a =>
    have ha := HAT.out a rfl; obtain ⟨b, o, sp⟩ := a
    simp at ha
    subst ha; obtain ⟨A2, hA2⟩ : ∃ A2, (if cp = s0 then some (⟨b, o, none⟩ : Addr) else some ⟨b, o + s0, none⟩) = A2 := ⟨_, rfl⟩; have hfin := HB.out.sub s0 en cp hse (by rw [HLEN.out]; exact hel) (by rw [HLEN.out]; exact hle); rw [hA2, ← HBLK.out] at hfin; have HFIN := hide hfin; clear hfin
    go_enter Tryz.func155, Tryz.ntmps155
    go_wp2_with (first
      | (go_at_call 121; refine (HQ.out _).mono ?_; rintro e w' ⟨rfl, hw⟩; obtain rfl := hw.symm; clear hw))
    go_ret
    exact ⟨⟨A2, _, rfl, HFIN.out⟩, rfl⟩
theorem yieldsIf_load_cell {ops : Array Oper} {S : World → Prop} {op : Oper} {a : Act} {v : Value} (hw : Region.wanted op (yielded ops a.tmps) = true) (ty : TypeId) (x : Operand) (ho : op.op = .load ty x)
    (p : Addr) (hx : a.eval x = .pointer (some p)) (hS : ∀ w, S w → w.cell? p = some v) (hl : ∀ w, w.cell? p = some v → (loadVar ty p).run Tryz.prog w = .ok v w) : YieldsIf Tryz.prog ops S op v a :=
  .inl ⟨hw, fun w hw' => by
    unfold execOp
    simp only [ho, hx, Instr.loadAt, Instr.sureAddr, Sem.run_bind, Sem.run_pure, Result.andThen_ok, hl w (hS w hw')]⟩
theorem ld_int {w : World} {p : Addr} {v : Value} (h : w.cell? p = some v) : (loadVar 3 p).run Tryz.prog w = .ok v w := by simp [loadVar, go_sem, h]
theorem ld_pDisk {w : World} {p : Addr} {v : Value} (h : w.cell? p = some v) : (loadVar 23 p).run Tryz.prog w = .ok v w := by simp [loadVar, go_sem, h]
def fitsB (N : Nat) (a n : Int) : Bool := decide (4 ≤ n) && (decide (0 ≤ a) && decide (n ≤ (N : Int) - a))
theorem fits_any (w : World) (d g m : Nat) (D : Dk) (h : Dsk w d g m D) (a n : Int) (ha : -9223372036854775808 ≤ a ∧ a < 9223372036854775808) :
    Calls Tryz.prog 40 #[.pointer (some ⟨d, 0, none⟩), .int .i64 a, .int .i64 n] w fun e w' => e = .returned (.bool (fitsB D.old.length a n)) ∧ w' = w := by
  have HS := hide (size_any w d g m D h); have hl := h.ok.hi; obtain ⟨N, hN⟩ : ∃ N, D.old.length = N := ⟨_, rfl⟩; rw [hN] at HS hl ⊢; clear h hN; have HX : Hid (fitsB N a n = (decide (4 ≤ n) && (decide (0 ≤ a) && decide (n ≤ (N : Int) - a)))) := rfl
  by_cases h1 : 4 ≤ n
  · by_cases h2 : 0 ≤ a
    · by_cases h3 : n ≤ (N : Int) - a
      · go_enter Tryz.func40, Tryz.ntmps40
        go_wp2_with (first
          | (go_at_call 76; refine HS.out.mono ?_; rintro e w' ⟨rfl, hw⟩; obtain rfl := hw.symm; clear hw))
        go_ret
        refine ⟨?_, rfl⟩; rw [HX.out]
        simp [h1, h2, h3]
      · go_enter Tryz.func40, Tryz.ntmps40
        go_wp2_with (first
          | (go_at_call 76; refine HS.out.mono ?_; rintro e w' ⟨rfl, hw⟩; obtain rfl := hw.symm; clear hw))
        go_ret
        refine ⟨?_, rfl⟩; rw [HX.out]
        simp [h1, h2]
    · go_enter Tryz.func40, Tryz.ntmps40
      go_wp2
      go_ret
      refine ⟨?_, rfl⟩; rw [HX.out]
      simp [h1]
      intro h9
      omega
  · go_enter Tryz.func40, Tryz.ntmps40
    go_wp2
    go_ret
    refine ⟨?_, rfl⟩; rw [HX.out]
    simp
    intro h9
    omega
def Lg.room (G : Lg) : Nat := 54 * (G.n - 2) - (G.tail - G.start) - G.reserved
theorem room_any (w : World) (l d : Nat) (G : Lg) (B : Nat) (ao : Option Addr) (cp : Nat) (v8 : Value) (h : LogAt w l d G B ao cp v8) (ok : G.Ok) : Calls Tryz.prog 60 #[.pointer (some ⟨l, 0, none⟩)] w fun e w' => e = .returned (.int .i64 (G.room : Int)) ∧ Only (fun _ => False) w w' := by
  have c2 := h.c2; have c3 := h.c3; have c4 := h.c4; have c6 := h.c6; have b1 := ok.st; have b2 := ok.tl; have b3 := ok.big; have b4 := ok.n4; have b5 := ok.nb; have b6 := ok.rs
  have e1 : max 0 (54 * ((G.n : Int) - 2) - ((G.tail : Int) - (G.start : Int)) - (G.reserved : Int)) = (G.room : Int) := by
    unfold Lg.room
    omega
  obtain ⟨R, hR⟩ : ∃ R, G.room = R := ⟨_, rfl⟩; rw [hR] at e1 ⊢; have HL := hide h; clear h ok hR
  go_enter Tryz.func60, Tryz.ntmps60
  go_upto_region 3 with fail
  refine wp_region_noPanic ?_; refine wp_region_held_drew (S := fun W => LogAt W l d G B ao cp v8) (by kernel_rfl) (HL.out.more (Only.drew _ _)) (fun hHeld => ?_); refine tkQ (i := 0) (oi := { dst := some 5, op := Op.move (Operand.tmp 0), type := 30, pos := "wal.go:249", after := #[], guard := none }) (v := .pointer (some ⟨l, 0, none⟩)) rfl (by kernel_rfl) (Or.inl ⟨by rfl, fun w' hSw => by clear hSw; go_simp⟩) (by assumption) ?_; simp only [Act.put, lsA, lsB, lsC]; refine tkQ (i := 6) (oi := { dst := some 11, op := Op.move (Operand.tmp 0), type := 30, pos := "wal.go:249", after := #[], guard := none }) (v := .pointer (some ⟨l, 0, none⟩)) rfl (by kernel_rfl) (Or.inl ⟨by rfl, fun w' hSw => by clear hSw; go_simp⟩) (by assumption) ?_; simp only [Act.put, lsA, lsB, lsC]; refine tkQ (i := 10) (oi := { dst := some 15, op := Op.move (Operand.tmp 0), type := 30, pos := "wal.go:249", after := #[], guard := none }) (v := .pointer (some ⟨l, 0, none⟩)) rfl (by kernel_rfl) (Or.inl ⟨by rfl, fun w' hSw => by clear hSw; go_simp⟩) (by assumption) ?_; simp only [Act.put, lsA, lsB, lsC]; refine tkQ (i := 16) (oi := { dst := some 21, op := Op.move (Operand.tmp 0), type := 30, pos := "wal.go:249", after := #[], guard := none }) (v := .pointer (some ⟨l, 0, none⟩)) rfl (by kernel_rfl) (Or.inl ⟨by rfl, fun w' hSw => by clear hSw; go_simp⟩) (by assumption) ?_; simp only [Act.put, lsA, lsB, lsC]; refine tkQ (i := 1) (oi := { dst := some 6, op := Op.nilCheck (Operand.tmp 5), type := 0, pos := "wal.go:249", after := #[{ on := 0, ground := Ground.data }], guard := none }) (v := .pointer (some ⟨l, 0, none⟩)) rfl (by kernel_rfl) (Or.inl ⟨by rfl, fun w' hSw => by clear hSw; go_simp⟩) (by assumption) ?_
  simp only [Act.put, lsA, lsB, lsC]; refine tkQ (i := 7) (oi := { dst := some 12, op := Op.nilCheck (Operand.tmp 11), type := 0, pos := "wal.go:249", after := #[{ on := 6, ground := Ground.data }], guard := none }) (v := .pointer (some ⟨l, 0, none⟩)) rfl (by kernel_rfl) (Or.inl ⟨by rfl, fun w' hSw => by clear hSw; go_simp⟩) (by assumption) ?_; simp only [Act.put, lsA, lsB, lsC]; refine tkQ (i := 11) (oi := { dst := some 16, op := Op.nilCheck (Operand.tmp 15), type := 0, pos := "wal.go:249", after := #[{ on := 10, ground := Ground.data }], guard := none }) (v := .pointer (some ⟨l, 0, none⟩)) rfl (by kernel_rfl) (Or.inl ⟨by rfl, fun w' hSw => by clear hSw; go_simp⟩) (by assumption) ?_; simp only [Act.put, lsA, lsB, lsC]; refine tkQ (i := 17) (oi := { dst := some 22, op := Op.nilCheck (Operand.tmp 21), type := 0, pos := "wal.go:249", after := #[{ on := 16, ground := Ground.data }], guard := none }) (v := .pointer (some ⟨l, 0, none⟩)) rfl (by kernel_rfl) (Or.inl ⟨by rfl, fun w' hSw => by clear hSw; go_simp⟩) (by assumption) ?_; simp only [Act.put, lsA, lsB, lsC]; refine tkQ (i := 2) (oi := { dst := some 7, op := Op.fieldAddr 85 (Operand.tmp 6) 2, type := 0, pos := "wal.go:249", after := #[{ on := 1, ground := Ground.data }], guard := none }) (v := .pointer (some ⟨l, 2, none⟩)) rfl (by kernel_rfl) (Or.inl ⟨by rfl, fun w' hSw => by clear hSw; go_simp⟩) (by assumption) ?_; simp only [Act.put, lsA, lsB, lsC]; refine tkQ (i := 8) (oi := { dst := some 13, op := Op.fieldAddr 85 (Operand.tmp 12) 4, type := 0, pos := "wal.go:249", after := #[{ on := 7, ground := Ground.data }], guard := none }) (v := .pointer (some ⟨l, 4, none⟩)) rfl (by kernel_rfl) (Or.inl ⟨by rfl, fun w' hSw => by clear hSw; go_simp⟩) (by assumption) ?_
  simp only [Act.put, lsA, lsB, lsC]; refine tkQ (i := 12) (oi := { dst := some 17, op := Op.fieldAddr 85 (Operand.tmp 16) 3, type := 0, pos := "wal.go:249", after := #[{ on := 11, ground := Ground.data }], guard := none }) (v := .pointer (some ⟨l, 3, none⟩)) rfl (by kernel_rfl) (Or.inl ⟨by rfl, fun w' hSw => by clear hSw; go_simp⟩) (by assumption) ?_; simp only [Act.put, lsA, lsB, lsC]; refine tkQ (i := 18) (oi := { dst := some 23, op := Op.fieldAddr 85 (Operand.tmp 22) 6, type := 0, pos := "wal.go:249", after := #[{ on := 17, ground := Ground.data }], guard := none }) (v := .pointer (some ⟨l, 6, none⟩)) rfl (by kernel_rfl) (Or.inl ⟨by rfl, fun w' hSw => by clear hSw; go_simp⟩) (by assumption) ?_; simp only [Act.put, lsA, lsB, lsC]; refine tkQ (i := 3) (oi := { dst := some 8, op := Op.load 3 (Operand.tmp 7), type := 3, pos := "wal.go:249", after := #[{ on := 2, ground := Ground.data }], guard := none }) (v := .int .i64 (G.n : Int)) rfl (by kernel_rfl) (yieldsIf_load_cell (by rfl) 3 _ rfl _ rfl (fun W hW => hW.c2) (fun W hc => ld_int hc)) (by assumption) ?_; simp only [Act.put, lsA, lsB, lsC]; refine tkQ (i := 9) (oi := { dst := some 14, op := Op.load 3 (Operand.tmp 13), type := 3, pos := "wal.go:249", after := #[{ on := 8, ground := Ground.data }], guard := none }) (v := .int .i64 (G.tail : Int)) rfl (by kernel_rfl) (yieldsIf_load_cell (by rfl) 3 _ rfl _ rfl (fun W hW => hW.c4) (fun W hc => ld_int hc)) (by assumption) ?_; simp only [Act.put, lsA, lsB, lsC]; refine tkQ (i := 13) (oi := { dst := some 18, op := Op.load 3 (Operand.tmp 17), type := 3, pos := "wal.go:249", after := #[{ on := 12, ground := Ground.data }], guard := none }) (v := .int .i64 (G.start : Int)) rfl (by kernel_rfl) (yieldsIf_load_cell (by rfl) 3 _ rfl _ rfl (fun W hW => hW.c3) (fun W hc => ld_int hc)) (by assumption) ?_
  simp only [Act.put, lsA, lsB, lsC]; refine tkQ (i := 19) (oi := { dst := some 24, op := Op.load 3 (Operand.tmp 23), type := 3, pos := "wal.go:249", after := #[{ on := 18, ground := Ground.data }], guard := none }) (v := .int .i64 (G.reserved : Int)) rfl (by kernel_rfl) (yieldsIf_load_cell (by rfl) 3 _ rfl _ rfl (fun W hW => hW.c6) (fun W hc => ld_int hc)) (by assumption) ?_; simp only [Act.put, lsA, lsB, lsC]; refine tkQ (i := 4) (oi := { dst := some 9, op := Op.binOp BinOp.sub 3 (Operand.tmp 8) (Operand.const (Value.int IntKind.i64 2)) 3, type := 3, pos := "wal.go:249", after := #[{ on := 3, ground := Ground.data }], guard := none }) (v := .int .i64 ((G.n : Int) - 2)) rfl (by kernel_rfl) (Or.inl ⟨by rfl, fun w' hSw => by clear hSw; go_simp; rw [IntKind.wrap_i64]; omega⟩) (by assumption) ?_; simp only [Act.put, lsA, lsB, lsC]; refine tkQ (i := 14) (oi := { dst := some 19, op := Op.binOp BinOp.sub 3 (Operand.tmp 14) (Operand.tmp 18) 3, type := 3, pos := "wal.go:249", after := #[{ on := 9, ground := Ground.data }, { on := 13, ground := Ground.data }], guard := none }) (v := .int .i64 ((G.tail : Int) - (G.start : Int))) rfl (by kernel_rfl) (Or.inl ⟨by rfl, fun w' hSw => by clear hSw; go_simp; rw [IntKind.wrap_i64]; omega⟩) (by assumption) ?_; simp only [Act.put, lsA, lsB, lsC]; refine tkQ (i := 5) (oi := { dst := some 10, op := Op.binOp BinOp.mul 3 (Operand.const (Value.int IntKind.i64 54)) (Operand.tmp 9) 3, type := 3, pos := "wal.go:249", after := #[{ on := 4, ground := Ground.data }], guard := none }) (v := .int .i64 (54 * ((G.n : Int) - 2))) rfl (by kernel_rfl) (Or.inl ⟨by rfl, fun w' hSw => by clear hSw; go_simp; rw [IntKind.wrap_i64]; omega⟩) (by assumption) ?_
  simp only [Act.put, lsA, lsB, lsC]; refine tkQ (i := 15) (oi := { dst := some 20, op := Op.binOp BinOp.sub 3 (Operand.tmp 10) (Operand.tmp 19) 3, type := 3, pos := "wal.go:249", after := #[{ on := 5, ground := Ground.data }, { on := 14, ground := Ground.data }], guard := none }) (v := .int .i64 (54 * ((G.n : Int) - 2) - ((G.tail : Int) - (G.start : Int)))) rfl (by kernel_rfl) (Or.inl ⟨by rfl, fun w' hSw => by clear hSw; go_simp; rw [IntKind.wrap_i64]; omega⟩) (by assumption) ?_; simp only [Act.put, lsA, lsB, lsC]; refine tkQ (i := 20) (oi := { dst := some 25, op := Op.binOp BinOp.sub 3 (Operand.tmp 20) (Operand.tmp 24) 3, type := 3, pos := "wal.go:249", after := #[{ on := 15, ground := Ground.data }, { on := 19, ground := Ground.data }], guard := none }) (v := .int .i64 (54 * ((G.n : Int) - 2) - ((G.tail : Int) - (G.start : Int)) - (G.reserved : Int))) rfl (by kernel_rfl) (Or.inl ⟨by rfl, fun w' hSw => by clear hSw; go_simp; rw [IntKind.wrap_i64]; omega⟩) (by assumption) ?_; simp only [Act.put, lsA, lsB, lsC]; refine tkQ (i := 21) (oi := { dst := some 26, op := Op.call { callee := Callee.builtin Builtin.max, args := #[Operand.const (Value.int IntKind.i64 0), Operand.tmp 25], argTypes := #[3, 3] }, type := 3, pos := "wal.go:249", after := #[{ on := 20, ground := Ground.data }], guard := none }) (v := .int .i64 (R : Int)) rfl (by kernel_rfl) (Or.inl ⟨by rfl, fun w' hSw => by clear hSw; go_simp⟩) (by assumption) ?_; simp only [Act.put, lsA, lsB, lsC]; refine tkQ (i := 22) (oi := { dst := some 2, op := Op.assign (Operand.tmp 26), type := 3, pos := "wal.go:249", after := #[{ on := 21, ground := Ground.data }, { on := 0, ground := Ground.phase }, { on := 1, ground := Ground.phase }, { on := 2, ground := Ground.phase }, { on := 3, ground := Ground.phase }, { on := 4, ground := Ground.phase }, { on := 5, ground := Ground.phase }, { on := 6, ground := Ground.phase }, { on := 7, ground := Ground.phase }, { on := 8, ground := Ground.phase }, { on := 9, ground := Ground.phase }, { on := 10, ground := Ground.phase }, { on := 11, ground := Ground.phase }, { on := 12, ground := Ground.phase }, { on := 13, ground := Ground.phase }, { on := 14, ground := Ground.phase }, { on := 15, ground := Ground.phase }, { on := 16, ground := Ground.phase }, { on := 17, ground := Ground.phase }, { on := 18, ground := Ground.phase }, { on := 19, ground := Ground.phase }, { on := 20, ground := Ground.phase }, { on := 21, ground := Ground.phase }], guard := none }) (v := .int .i64 (R : Int)) rfl (by kernel_rfl) (Or.inl ⟨by rfl, fun w' hSw => by clear hSw; go_simp⟩) (by assumption) ?_
  simp only [Act.put, lsA, lsB, lsC]; refine wpAnyH_done (by kernel_rfl) ?_ _; refine NoPanic.normal ?_
  go_wp2_with fail
  go_ret
  exact ⟨rfl, Only.drew _ _⟩
set_option maxRecDepth 100000 in
set_option maxHeartbeats 1600000 in
theorem lwrite_any (w : World) (l d g m : Nat) (D : Dk) (hD : Dsk w d g m D) (G : Lg) (B : Nat) (ao : Option Addr) (cp : Nat) (v8 : Value) (h : LogAt w l d G B ao cp v8) (hl : ¬ own d g m l) (hB : 0 < G.stream.length → ¬ own d g m B) (ok : G.Ok) (k : Nat) (hk0 : G.b0 ≤ k) (hk : k < 4294967295) :
    Calls Tryz.prog 122 #[.pointer (some ⟨l, 0, none⟩), .int .i64 (k : Int)] w fun e w' =>
      e = .returned (.int .i64 (D.write ((G.frm + k % G.n : Nat) : Int) (holdL k (G.block k))).2) ∧ Dsk w' d g m (D.write ((G.frm + k % G.n : Nat) : Int) (holdL k (G.block k))).1 ∧ LogAt w' l d G B ao cp v8 ∧ Only (own d g m) w w' := by
  have HB1 := hide (fun W (hW : LogAt W l d G B ao cp v8) => block_any W l d G B ao cp v8 hW ok k hk0 (by omega))
  have hbl : (G.block k).length ≤ 54 := by unfold Lg.block; rw [List.length_take]; omega
  have HH := hide (fun W A2 c2 (hW : Bys W B A2 (G.block k)) => hold_any W k B c2 A2 (G.block k) hW hk hbl); have hn4 := ok.n4; have hnb := ok.nb; have hfb := ok.fb; obtain ⟨q, hq⟩ : ∃ q, k % G.n = q := ⟨_, rfl⟩
  have hqn : q < G.n := by rw [← hq]; exact Nat.mod_lt _ (by omega)
  have hm : (k : Int).tmod (G.n : Int) = (q : Int) := by rw [← hq]; exact (Int.ofNat_tmod k G.n).symm
  have hm2 : (k : Int) % (G.n : Int) = (q : Int) := by rw [← hq]; rfl
  rw [hq]; obtain ⟨a, ha⟩ : ∃ a, G.frm + q = a := ⟨_, rfl⟩
  have ha1 : (G.frm : Int) + (q : Int) = (a : Int) := by omega
  have ha2 : (a : Int) ≤ 200000 := by omega
  rw [ha]; obtain ⟨N, hN⟩ : ∃ N, str (holdL k (G.block k)) = N := ⟨_, rfl⟩; rw [hN] at HH
  have hNs : N.size = 64 := by rw [← hN, str_size, hold_len k _ hbl]
  have hNd : N.data.toList = holdL k (G.block k) := by rw [← hN]; show (holdL k (G.block k)).toArray.toList = _; simp
  have HW := hide (fun W (hW : Dsk W d g m D) => write_any W d g m D hW (a : Int) N (by omega) (by omega)); rw [hNd] at HW; obtain ⟨D2, hD2⟩ : ∃ D2, (D.write (a : Int) (holdL k (G.block k))).1 = D2 := ⟨_, rfl⟩; obtain ⟨r2, hr2⟩ : ∃ r2, (D.write (a : Int) (holdL k (G.block k))).2 = r2 := ⟨_, rfl⟩; rw [hD2, hr2] at HW; rw [hD2, hr2]; obtain ⟨bn, hbn⟩ : ∃ bn, (G.block k).length = bn := ⟨_, rfl⟩; have HK := hide (fun W W' (hW : LogAt W l d G B ao cp v8) (ho : Only (own d g m) W W') => hW.kept ho hl hB); rw [hbn] at HB1 HH; have HL := hide h; have HD := hide hD
  have hn0 : (0 : Int) < (G.n : Int) := by omega
  clear h hD hl hB ok hk0 hbl hq ha hN hNs hNd hD2 hr2 hbn
  go_enter Tryz.func122, Tryz.ntmps122
  go_upto_region 1 with fail
  refine wp_region_noPanic ?_; refine wp_region_held_drew (S := fun W => LogAt W l d G B ao cp v8 ∧ Only (own d g m) w W) (by kernel_rfl) (⟨HL.out.more (Only.drew _ _), Only.drew _ _⟩) (fun hHeld => ?_); refine tkQ (i := 0) (oi := { dst := some 5, op := Op.move (Operand.tmp 0), type := 30, pos := "wal.go:115", after := #[], guard := none }) (v := .pointer (some ⟨l, 0, none⟩)) rfl (by kernel_rfl) (Or.inl ⟨by rfl, fun w' hSw => by clear hSw; go_simp⟩) (by assumption) ?_; simp only [Act.put, lsA, lsB, lsC]; refine tkQ (i := 4) (oi := { dst := some 9, op := Op.move (Operand.tmp 0), type := 30, pos := "wal.go:115", after := #[], guard := none }) (v := .pointer (some ⟨l, 0, none⟩)) rfl (by kernel_rfl) (Or.inl ⟨by rfl, fun w' hSw => by clear hSw; go_simp⟩) (by assumption) ?_; simp only [Act.put, lsA, lsB, lsC]; refine tkQ (i := 8) (oi := { dst := some 13, op := Op.move (Operand.tmp 1), type := 3, pos := "wal.go:115", after := #[], guard := none }) (v := .int .i64 (k : Int)) rfl (by kernel_rfl) (Or.inl ⟨by rfl, fun w' hSw => by clear hSw; go_simp⟩) (by assumption) ?_; simp only [Act.put, lsA, lsB, lsC]; refine tkQ (i := 9) (oi := { dst := some 14, op := Op.move (Operand.tmp 0), type := 30, pos := "wal.go:115", after := #[], guard := none }) (v := .pointer (some ⟨l, 0, none⟩)) rfl (by kernel_rfl) (Or.inl ⟨by rfl, fun w' hSw => by clear hSw; go_simp⟩) (by assumption) ?_; simp only [Act.put, lsA, lsB, lsC]; refine tkQ (i := 15) (oi := { dst := some 20, op := Op.move (Operand.tmp 1), type := 3, pos := "wal.go:115", after := #[], guard := none }) (v := .int .i64 (k : Int)) rfl (by kernel_rfl) (Or.inl ⟨by rfl, fun w' hSw => by clear hSw; go_simp⟩) (by assumption) ?_
  simp only [Act.put, lsA, lsB, lsC]; refine tkQ (i := 16) (oi := { dst := some 21, op := Op.move (Operand.tmp 0), type := 30, pos := "wal.go:115", after := #[], guard := none }) (v := .pointer (some ⟨l, 0, none⟩)) rfl (by kernel_rfl) (Or.inl ⟨by rfl, fun w' hSw => by clear hSw; go_simp⟩) (by assumption) ?_; simp only [Act.put, lsA, lsB, lsC]; refine tkQ (i := 17) (oi := { dst := some 22, op := Op.move (Operand.tmp 1), type := 3, pos := "wal.go:115", after := #[], guard := none }) (v := .int .i64 (k : Int)) rfl (by kernel_rfl) (Or.inl ⟨by rfl, fun w' hSw => by clear hSw; go_simp⟩) (by assumption) ?_; simp only [Act.put, lsA, lsB, lsC]; refine tkQ (i := 1) (oi := { dst := some 6, op := Op.nilCheck (Operand.tmp 5), type := 0, pos := "wal.go:115", after := #[{ on := 0, ground := Ground.data }], guard := none }) (v := .pointer (some ⟨l, 0, none⟩)) rfl (by kernel_rfl) (Or.inl ⟨by rfl, fun w' hSw => by clear hSw; go_simp⟩) (by assumption) ?_; simp only [Act.put, lsA, lsB, lsC]; refine tkQ (i := 5) (oi := { dst := some 10, op := Op.nilCheck (Operand.tmp 9), type := 0, pos := "wal.go:115", after := #[{ on := 4, ground := Ground.data }], guard := none }) (v := .pointer (some ⟨l, 0, none⟩)) rfl (by kernel_rfl) (Or.inl ⟨by rfl, fun w' hSw => by clear hSw; go_simp⟩) (by assumption) ?_; simp only [Act.put, lsA, lsB, lsC]; refine tkQ (i := 10) (oi := { dst := some 15, op := Op.nilCheck (Operand.tmp 14), type := 0, pos := "wal.go:115", after := #[{ on := 9, ground := Ground.data }], guard := none }) (v := .pointer (some ⟨l, 0, none⟩)) rfl (by kernel_rfl) (Or.inl ⟨by rfl, fun w' hSw => by clear hSw; go_simp⟩) (by assumption) ?_
  simp only [Act.put, lsA, lsB, lsC]; refine tkQ (i := 2) (oi := { dst := some 7, op := Op.fieldAddr 85 (Operand.tmp 6) 0, type := 0, pos := "wal.go:115", after := #[{ on := 1, ground := Ground.data }], guard := none }) (v := .pointer (some ⟨l, 0, none⟩)) rfl (by kernel_rfl) (Or.inl ⟨by rfl, fun w' hSw => by clear hSw; go_simp⟩) (by assumption) ?_; simp only [Act.put, lsA, lsB, lsC]; refine tkQ (i := 6) (oi := { dst := some 11, op := Op.fieldAddr 85 (Operand.tmp 10) 1, type := 0, pos := "wal.go:115", after := #[{ on := 5, ground := Ground.data }], guard := none }) (v := .pointer (some ⟨l, 1, none⟩)) rfl (by kernel_rfl) (Or.inl ⟨by rfl, fun w' hSw => by clear hSw; go_simp⟩) (by assumption) ?_; simp only [Act.put, lsA, lsB, lsC]; refine tkQ (i := 11) (oi := { dst := some 16, op := Op.fieldAddr 85 (Operand.tmp 15) 2, type := 0, pos := "wal.go:115", after := #[{ on := 10, ground := Ground.data }], guard := none }) (v := .pointer (some ⟨l, 2, none⟩)) rfl (by kernel_rfl) (Or.inl ⟨by rfl, fun w' hSw => by clear hSw; go_simp⟩) (by assumption) ?_; simp only [Act.put, lsA, lsB, lsC]; refine tkQ (i := 3) (oi := { dst := some 8, op := Op.load 23 (Operand.tmp 7), type := 23, pos := "wal.go:115", after := #[{ on := 2, ground := Ground.data }], guard := none }) (v := .pointer (some ⟨d, 0, none⟩)) rfl (by kernel_rfl) (yieldsIf_load_cell (by rfl) 23 _ rfl _ rfl (fun W hW => hW.1.c0) (fun W hc => ld_pDisk hc)) (by assumption) ?_; simp only [Act.put, lsA, lsB, lsC]; refine tkQ (i := 7) (oi := { dst := some 12, op := Op.load 3 (Operand.tmp 11), type := 3, pos := "wal.go:115", after := #[{ on := 6, ground := Ground.data }], guard := none }) (v := .int .i64 (G.frm : Int)) rfl (by kernel_rfl) (yieldsIf_load_cell (by rfl) 3 _ rfl _ rfl (fun W hW => hW.1.c1) (fun W hc => ld_int hc)) (by assumption) ?_
  simp only [Act.put, lsA, lsB, lsC]; refine tkQ (i := 12) (oi := { dst := some 17, op := Op.load 3 (Operand.tmp 16), type := 3, pos := "wal.go:115", after := #[{ on := 11, ground := Ground.data }], guard := none }) (v := .int .i64 (G.n : Int)) rfl (by kernel_rfl) (yieldsIf_load_cell (by rfl) 3 _ rfl _ rfl (fun W hW => hW.1.c2) (fun W hc => ld_int hc)) (by assumption) ?_; simp only [Act.put, lsA, lsB, lsC]; refine tkQ (i := 13) (oi := { dst := some 18, op := Op.binOp BinOp.rem 3 (Operand.tmp 13) (Operand.tmp 17) 3, type := 3, pos := "wal.go:115", after := #[{ on := 8, ground := Ground.data }, { on := 12, ground := Ground.data }], guard := none }) (v := .int .i64 (q : Int)) rfl (by kernel_rfl) (Or.inl ⟨by rfl, fun w' hSw => by clear hSw; go_simp; omega⟩) (by assumption) ?_; simp only [Act.put, lsA, lsB, lsC]; refine tkQ (i := 14) (oi := { dst := some 19, op := Op.binOp BinOp.add 3 (Operand.tmp 12) (Operand.tmp 18) 3, type := 3, pos := "wal.go:115", after := #[{ on := 7, ground := Ground.data }, { on := 13, ground := Ground.data }], guard := none }) (v := .int .i64 (a : Int)) rfl (by kernel_rfl) (Or.inl ⟨by rfl, fun w' hSw => by clear hSw; go_simp; rw [IntKind.wrap_i64]; omega⟩) (by assumption) ?_; simp only [Act.put, lsA, lsB, lsC]; refine wpAnyH_ready (rs := [18]) (by kernel_rfl) (by simp) ?_; refine AllReadyH.cons (o := { dst := some 23, op := Op.call { callee := Callee.value (Operand.func 155), args := #[Operand.tmp 21, Operand.tmp 22], argTypes := #[30, 3] }, type := 80, pos := "wal.go:115", after := #[{ on := 16, ground := Ground.data }, { on := 17, ground := Ground.data }], guard := none }) rfl (fun K hK => ?_) (AllReadyH.nil)
  go_simp
  refine (HB1.out _ hHeld.1).mono ?_; rintro e x1 ⟨⟨A2, c2, rfl, hb2⟩, hx1⟩; obtain rfl := hx1.symm; clear hx1; have HB2 := hide hb2; clear hb2; refine hK.out _ _ (hHeld) (fun hHeld => ?_); clear hK K
  try simp only [Act.put, lsA, lsB, lsC]
  refine wpAnyH_ready (rs := [19]) (by kernel_rfl) (by simp) ?_; refine AllReadyH.cons (o := { dst := some 24, op := Op.call { callee := Callee.value (Operand.func 154), args := #[Operand.tmp 20, Operand.tmp 23], argTypes := #[3, 80] }, type := 9, pos := "wal.go:115", after := #[{ on := 15, ground := Ground.data }, { on := 18, ground := Ground.data }, { on := 18, ground := Ground.chain }], guard := none }) rfl (fun K hK => ?_) (AllReadyH.nil)
  go_simp
  refine (HH.out _ _ _ HB2.out).mono ?_; rintro e x2 ⟨rfl, hx2⟩; have X2 := hide hx2; clear hx2; refine hK.out _ _ (⟨hHeld.1.more X2.out, hHeld.2.trans X2.out (fun _ _ h => h.elim)⟩) (fun hHeld => ?_); clear hK K
  try simp only [Act.put, lsA, lsB, lsC]
  refine wpAnyH_ready (rs := [20]) (by kernel_rfl) (by simp) ?_; refine AllReadyH.cons (o := { dst := some 25, op := Op.call { callee := Callee.value (Operand.func 41), args := #[Operand.tmp 8, Operand.tmp 19, Operand.tmp 24], argTypes := #[23, 3, 9] }, type := 24, pos := "wal.go:115", after := #[{ on := 3, ground := Ground.data }, { on := 14, ground := Ground.data }, { on := 19, ground := Ground.data }, { on := 19, ground := Ground.chain }], guard := none }) rfl (fun K hK => ?_) (AllReadyH.nil)
  go_simp
  refine (HW.out _ ((HD.out.same (Only.drew _ _)).same X2.out)).mono ?_; rintro e x3 ⟨rfl, hd3, hx3⟩; have X3 := hide hx3; have HD3 := hide hd3; clear hx3 hd3; refine hK.out _ _ (⟨HK.out _ _ hHeld.1 X3.out, hHeld.2.trans X3.out (fun _ _ h => h)⟩) (fun hHeld => ?_); clear hK K
  try simp only [Act.put, lsA, lsB, lsC]
  refine tkQ (i := 21) (oi := { dst := some 4, op := Op.assign (Operand.tmp 25), type := 24, pos := "wal.go:115", after := #[{ on := 20, ground := Ground.data }, { on := 20, ground := Ground.chain }, { on := 0, ground := Ground.phase }, { on := 1, ground := Ground.phase }, { on := 2, ground := Ground.phase }, { on := 3, ground := Ground.phase }, { on := 4, ground := Ground.phase }, { on := 5, ground := Ground.phase }, { on := 6, ground := Ground.phase }, { on := 7, ground := Ground.phase }, { on := 8, ground := Ground.phase }, { on := 9, ground := Ground.phase }, { on := 10, ground := Ground.phase }, { on := 11, ground := Ground.phase }, { on := 12, ground := Ground.phase }, { on := 13, ground := Ground.phase }, { on := 14, ground := Ground.phase }, { on := 15, ground := Ground.phase }, { on := 16, ground := Ground.phase }, { on := 17, ground := Ground.phase }, { on := 18, ground := Ground.phase }, { on := 19, ground := Ground.phase }, { on := 20, ground := Ground.phase }], guard := none }) (v := .int .i64 r2) rfl (by kernel_rfl) (Or.inl ⟨by rfl, fun w' hSw => by clear hSw; go_simp⟩) (by assumption) ?_; simp only [Act.put, lsA, lsB, lsC]; refine wpAnyH_done (by kernel_rfl) ?_ _; refine NoPanic.normal ?_
  go_wp2_with fail
  go_ret
  exact ⟨rfl, HD3.out, hHeld.1, hHeld.2⟩
theorem zeros_rep (n : Nat) (hn : n ≤ 65536) (W : World) :
    Calls Tryz.prog 42 #[.string ⟨#[0]⟩, .int .i64 ((n * 64 : Nat) : Int)] W fun e w' => e = .returned (.string (str (List.replicate (n * 64) 0))) ∧ Only (fun _ => False) W w' := by
  have e1 : (⟨#[0]⟩ : ByteArray).size = 1 := rfl; have h1 := Tryz.strings_Repeat ⟨#[0]⟩ (n * 64) W (by omega) (by rw [e1]; omega); refine Calls.mono h1 ?_; rintro e w' ⟨rfl, hb⟩; refine ⟨?_, only_below hb⟩; rw [rep_zero]
  rfl
def Lg.new (frm n : Nat) : Lg := ⟨frm, n, 1, 1, 1, 0, [], []⟩
theorem log_new (w : World) (d frm n : Nat) : LogAt (w.alloc (.cells #[.pointer (some ⟨d, 0, none⟩), .int .i64 (frm : Int), .int .i64 (n : Int), .int .i64 1, .int .i64 1, .int .i64 1, .int .i64 0, .slice none 0 0, .slice none 0 0] 85)) w.heap.size d (Lg.new frm n) 0 none 0 (.slice none 0 0) := by
  refine ⟨by simp, by simp [Lg.new], by simp [Lg.new], by simp [Lg.new], by simp [Lg.new], by simp [Lg.new], by simp [Lg.new], by simp [Lg.new], by simp, fun j => by simp, by simp, ⟨fun h0 => ?_, fun h0 => ?_⟩, fun _ => rfl, fun a ha => (by cases ha), (by simp [Lg.new]), (by simp [maxLen])⟩
  · simp [Lg.new] at h0
  · simp [Lg.new] at h0
set_option maxRecDepth 100000 in
theorem format_ok (w : World) (d g m : Nat) (D : Dk) (h : Dsk w d g m D) (frm n : Nat) (hf : fitsB D.old.length frm n = true) (hw2 : (D.write (frm : Int) (List.replicate (n * 64) 0)).2 = 0) (hs2 : (D.write (frm : Int) (List.replicate (n * 64) 0)).1.sync.2 = 0) :
    Calls Tryz.prog 6 #[.pointer (some ⟨d, 0, none⟩), .int .i64 (frm : Int), .int .i64 (n : Int)] w fun e w' =>
      ∃ l, e = .returned (.tuple #[.pointer (some ⟨l, 0, none⟩), .int .i64 0]) ∧ Dsk w' d g m (D.write (frm : Int) (List.replicate (n * 64) 0)).1.sync.1 ∧ LogAt w' l d (Lg.new frm n) 0 none 0 (.slice none 0 0) ∧ w.heap.size ≤ l ∧ Only (own d g m) w w' := by
  have hl := h.ok.hi; have hft := hf; unfold fitsB at hft
  simp at hft
  obtain ⟨f1, f2⟩ := hft
  have f3 : n ≤ 65536 := by omega
  have f4 : frm ≤ 65536 := by omega
  have HF := hide (fits_any w d g m D h (frm : Int) (n : Int) (by omega)); rw [hf] at HF; have HZ := hide (zeros_rep n f3); obtain ⟨q, hq⟩ : ∃ q, n * 64 = q := ⟨_, rfl⟩; rw [hq] at HZ hw2 hs2 ⊢
  have hq1 : (n : Int) * 64 = (q : Int) := by omega
  have hq2 : (q : Int) < 1000000000 := by omega
  obtain ⟨Z, hZ⟩ : ∃ Z, str (List.replicate q 0) = Z := ⟨_, rfl⟩
  have hZs : Z.size = q := by rw [← hZ, str_size]; simp
  have hZd : Z.data.toList = List.replicate q 0 := by rw [← hZ]; show (List.replicate q 0).toArray.toList = _; simp
  rw [hZ] at HZ; have HW := hide (fun W (hW : Dsk W d g m D) => write_any W d g m D hW (frm : Int) Z (by omega) (by omega)); rw [hZd] at HW; obtain ⟨D2, hD2⟩ : ∃ D2, (D.write (frm : Int) (List.replicate q 0)).1 = D2 := ⟨_, rfl⟩; rw [hw2, hD2] at HW; rw [hD2] at hs2 ⊢; have HY := hide (fun W (hW : Dsk W d g m D2) => sync_any W d g m D2 hW); rw [hs2] at HY; obtain ⟨D3, hD3⟩ : ∃ D3, D2.sync.1 = D3 := ⟨_, rfl⟩; rw [hD3] at HY ⊢; have HD := hide h; clear h hf hw2 hs2 hq hZ hZs hZd hD2 hD3
  go_enter Tryz.func6, Tryz.ntmps6
  go_wp2_with (first
    | (go_at_call 40; refine HF.out.mono ?_; rintro e w' ⟨rfl, hw⟩; obtain rfl := hw.symm; clear hw)
    | (go_at_call 42; refine (HZ.out _).mono ?_; rintro e w1 ⟨rfl, ho1⟩; have HO1 := hide ho1; clear ho1)
    | (go_at_call 41; refine (HW.out _ (HD.out.same HO1.out)).mono ?_; rintro e w2 ⟨rfl, hd2, ho2⟩; have HD2 := hide hd2; have HO2 := hide ((HO1.out.mono (T := own d g m) (fun _ _ h => h.elim)).trans ho2 (fun _ _ h => h)); clear hd2 ho2)
    | (go_at_call 21; refine (HY.out _ HD2.out).mono ?_; rintro e w3 ⟨rfl, hd3, ho3⟩; have HD3 := hide hd3; have HO3 := hide (HO2.out.trans ho3 (fun _ _ h => h)); clear hd3 ho3))
  go_ret2
  exact ⟨_, rfl, HD3.out.same (Only.alloc _ _ _), log_new w3 d frm n, HO3.out.size, HO3.out.trans (Only.alloc (fun _ => False) _ _) (fun _ _ h => h.elim)⟩
def Lg.lay1 (G : Lg) (k : Nat) (D : Dk) : Dk × Int := D.write ((G.frm + k % G.n : Nat) : Int) (holdL k (G.block k))
def Lg.lays (G : Lg) : Nat → Nat → Dk → Dk × Int
  | _, 0, D => (D, 0)
  | k, c + 1, D => if (G.lay1 k D).2 = 0 then G.lays (k + 1) c (G.lay1 k D).1 else G.lay1 k D
def Lg.flush (G : Lg) (D : Dk) : Dk × Int × Nat :=
  let r := G.lays ((G.flushed - 1) / 54) ((G.tail - 2) / 54 + 1 - (G.flushed - 1) / 54) D
  if r.2 = 0 then (if r.1.sync.2 = 0 then (r.1.sync.1, 0, G.tail) else (r.1.sync.1, r.1.sync.2, G.flushed)) else (r.1, r.2, G.flushed)
theorem LogAt.flush {W : World} {l d : Nat} {G : Lg} {B : Nat} {ao : Option Addr} {cp : Nat} {v8 : Value} (h : LogAt W l d G B ao cp v8) (hB : 0 < G.stream.length → B ≠ l) (t : Nat) :
    LogAt (W.setCell ⟨l, 5, none⟩ (.int .i64 (t : Int))) l d { G with flushed := t } B ao cp v8 := by
  have k : ∀ (j : Nat) (v : Value), j ≠ 5 → W.cell? ⟨l, j, none⟩ = some v → (W.setCell ⟨l, 5, none⟩ (.int .i64 (t : Int))).cell? ⟨l, j, none⟩ = some v := fun j v hj hc => by
    exact (World.cell?_setCell_other _ _ _ _ (by intro e; injection e with _ e; exact hj e.symm)).trans hc
  refine ⟨k _ _ (by decide) h.c0, k _ _ (by decide) h.c1, k _ _ (by decide) h.c2, k _ _ (by decide) h.c3, k _ _ (by decide) h.c4, ?_, k _ _ (by decide) h.c6, k _ _ (by decide) h.c7, k _ _ (by decide) h.c8, fun j => by simpa using h.fz j, by simpa using h.lt, h.by_.kept (Only.setCell (S := fun i => i = l) W ⟨l, 5, none⟩ _ rfl) hB, h.nil, h.at_, h.le, h.big⟩
  exact World.cell?_setCell_same _ _ _ h.c5
theorem lays_step (G : Lg) (k c : Nat) (D : Dk) : G.lays k (c + 1) D = if (G.lay1 k D).2 = 0 then G.lays (k + 1) c (G.lay1 k D).1 else G.lay1 k D := rfl
set_option maxRecDepth 100000 in
set_option maxHeartbeats 1600000 in
theorem flush_any (w : World) (l d g m : Nat) (D : Dk) (hD : Dsk w d g m D) (G : Lg) (B : Nat) (ao : Option Addr) (cp : Nat) (v8 : Value) (h : LogAt w l d G B ao cp v8) (hl : ¬ own d g m l) (hB : 0 < G.stream.length → ¬ own d g m B) (hBl : 0 < G.stream.length → B ≠ l) (ok : G.Ok) (hb : G.tail < 4294967295) (hsf : G.start ≤ G.flushed) (at_ : Int) (h1 : ¬ at_ < (G.flushed : Int)) (h2 : G.flushed ≠ G.tail) :
    Calls Tryz.prog 96 #[.pointer (some ⟨l, 0, none⟩), .int .i64 at_] w fun e w' =>
      e = .returned (.int .i64 (G.flush D).2.1) ∧ Dsk w' d g m (G.flush D).1 ∧ LogAt w' l d { G with flushed := (G.flush D).2.2 } B ao cp v8 ∧ Only (fun k => own d g m k ∨ k = l) w w' := by
  have b1 := ok.st; have b2 := ok.tl; have b3 := ok.big; have b4 := ok.fl; obtain ⟨bf, hbf⟩ : ∃ b, (G.flushed - 1) / 54 = b := ⟨_, rfl⟩; obtain ⟨be, hbe⟩ : ∃ b, (G.tail - 2) / 54 = b := ⟨_, rfl⟩
  have hbb : bf ≤ be := by omega
  have hb0 : G.b0 ≤ bf := by unfold Lg.b0; omega
  have hbe2 : be < 4294967290 := by omega
  have HQ1 := hide (fun W => blockOf_any G.flushed W (by omega) (by omega)); have HQ2 := hide (fun W => blockOf_any (G.tail - 1) W (by omega) (by omega)); rw [show G.tail - 1 - 1 = G.tail - 2 from by omega, hbe] at HQ2; rw [hbf] at HQ1; obtain ⟨t1, ht1⟩ : ∃ t, G.tail - 1 = t := ⟨_, rfl⟩; rw [ht1] at HQ2
  have et1 : (G.tail : Int) - 1 = (t1 : Int) := by omega
  have HW := hide (fun W E (hE : Dsk W d g m E) (hL : LogAt W l d G B ao cp v8) k (hk0 : G.b0 ≤ k) (hk : k < 4294967295) => lwrite_any W l d g m E hE G B ao cp v8 hL hl hB ok k hk0 hk); obtain ⟨R, hR⟩ : ∃ R, G.lays bf (be + 1 - bf) D = R := ⟨_, rfl⟩
  have hF : G.flush D = if R.2 = 0 then (if R.1.sync.2 = 0 then (R.1.sync.1, 0, G.tail) else (R.1.sync.1, R.1.sync.2, G.flushed)) else (R.1, R.2, G.flushed) := by
    unfold Lg.flush; rw [hbf, hbe, hR]
  obtain ⟨F, hFF⟩ : ∃ F, G.flush D = F := ⟨_, rfl⟩; rw [hFF] at hF ⊢; have HF := hide hF; have c4 := h.c4; have c5 := h.c5
  have i1 : (G.flushed : Int) ≤ at_ := by omega
  have i2 : (G.flushed : Int) ≠ (G.tail : Int) := by omega
  have HR := hide hR; have HL := hide h; have HD := hide hD; have HLI := hide hl; have HBI := hide hB; have HBL := hide hBl; clear h hD hR hF hFF hbf hbe ht1 hl hB hBl
  go_enter Tryz.func96, Tryz.ntmps96
  go_upto_region 3 with fail
  refine wp_region_noPanic ?_; refine wp_region_held_drew (S := fun W => LogAt W l d G B ao cp v8) (by kernel_rfl) (HL.out.more (Only.drew _ _)) (fun hHeld => ?_); refine tkQ (i := 0) (oi := { dst := some 10, op := Op.move (Operand.tmp 1), type := 3, pos := "wal.go:168", after := #[], guard := none }) (v := .int .i64 at_) rfl (by kernel_rfl) (Or.inl ⟨by rfl, fun w' hSw => by clear hSw; go_simp⟩) (by assumption) ?_; simp only [Act.put, lsA, lsB, lsC]; refine tkQ (i := 1) (oi := { dst := some 11, op := Op.move (Operand.tmp 0), type := 30, pos := "wal.go:168", after := #[], guard := none }) (v := .pointer (some ⟨l, 0, none⟩)) rfl (by kernel_rfl) (Or.inl ⟨by rfl, fun w' hSw => by clear hSw; go_simp⟩) (by assumption) ?_; simp only [Act.put, lsA, lsB, lsC]; refine tkQ (i := 2) (oi := { dst := some 12, op := Op.nilCheck (Operand.tmp 11), type := 0, pos := "wal.go:168", after := #[{ on := 1, ground := Ground.data }], guard := none }) (v := .pointer (some ⟨l, 0, none⟩)) rfl (by kernel_rfl) (Or.inl ⟨by rfl, fun w' hSw => by clear hSw; go_simp⟩) (by assumption) ?_; simp only [Act.put, lsA, lsB, lsC]; refine tkQ (i := 3) (oi := { dst := some 13, op := Op.fieldAddr 85 (Operand.tmp 12) 5, type := 0, pos := "wal.go:168", after := #[{ on := 2, ground := Ground.data }], guard := none }) (v := .pointer (some ⟨l, 5, none⟩)) rfl (by kernel_rfl) (Or.inl ⟨by rfl, fun w' hSw => by clear hSw; go_simp⟩) (by assumption) ?_; simp only [Act.put, lsA, lsB, lsC]; refine tkQ (i := 4) (oi := { dst := some 14, op := Op.load 3 (Operand.tmp 13), type := 3, pos := "wal.go:168", after := #[{ on := 3, ground := Ground.data }], guard := none }) (v := .int .i64 (G.flushed : Int)) rfl (by kernel_rfl) (yieldsIf_load_cell (by rfl) 3 _ rfl _ rfl (fun W hW => hW.c5) (fun W hc => ld_int hc)) (by assumption) ?_
  simp only [Act.put, lsA, lsB, lsC]; refine tkQ (i := 5) (oi := { dst := some 15, op := Op.binOp BinOp.lss 3 (Operand.tmp 10) (Operand.tmp 14) 3, type := 4, pos := "wal.go:168", after := #[{ on := 0, ground := Ground.data }, { on := 4, ground := Ground.data }], guard := none }) (v := .bool false) rfl (by kernel_rfl) (Or.inl ⟨by rfl, fun w' hSw => by clear hSw; go_simp⟩) (by assumption) ?_; simp only [Act.put, lsA, lsB, lsC]; refine tkQ (i := 6) (oi := { dst := some 16, op := Op.move (Operand.tmp 15), type := 4, pos := "wal.go:168", after := #[{ on := 5, ground := Ground.data }], guard := none }) (v := .bool false) rfl (by kernel_rfl) (Or.inl ⟨by rfl, fun w' hSw => by clear hSw; go_simp⟩) (by assumption) ?_; simp only [Act.put, lsA, lsB, lsC]; refine tkQ (i := 7) (oi := { dst := some 17, op := Op.move (Operand.tmp 0), type := 30, pos := "wal.go:168", after := #[{ on := 6, ground := Ground.guard }], guard := some (6, false) }) (v := .pointer (some ⟨l, 0, none⟩)) rfl (by kernel_rfl) (Or.inl ⟨by rfl, fun w' hSw => by clear hSw; go_simp⟩) (by assumption) ?_; simp only [Act.put, lsA, lsB, lsC]; refine tkQ (i := 11) (oi := { dst := some 21, op := Op.move (Operand.tmp 0), type := 30, pos := "wal.go:168", after := #[{ on := 6, ground := Ground.guard }], guard := some (6, false) }) (v := .pointer (some ⟨l, 0, none⟩)) rfl (by kernel_rfl) (Or.inl ⟨by rfl, fun w' hSw => by clear hSw; go_simp⟩) (by assumption) ?_; simp only [Act.put, lsA, lsB, lsC]; refine tkQ (i := 8) (oi := { dst := some 18, op := Op.nilCheck (Operand.tmp 17), type := 0, pos := "wal.go:168", after := #[{ on := 7, ground := Ground.data }, { on := 6, ground := Ground.guard }], guard := some (6, false) }) (v := .pointer (some ⟨l, 0, none⟩)) rfl (by kernel_rfl) (Or.inl ⟨by rfl, fun w' hSw => by clear hSw; go_simp⟩) (by assumption) ?_
  simp only [Act.put, lsA, lsB, lsC]; refine tkQ (i := 12) (oi := { dst := some 22, op := Op.nilCheck (Operand.tmp 21), type := 0, pos := "wal.go:168", after := #[{ on := 11, ground := Ground.data }, { on := 6, ground := Ground.guard }], guard := some (6, false) }) (v := .pointer (some ⟨l, 0, none⟩)) rfl (by kernel_rfl) (Or.inl ⟨by rfl, fun w' hSw => by clear hSw; go_simp⟩) (by assumption) ?_; simp only [Act.put, lsA, lsB, lsC]; refine tkQ (i := 9) (oi := { dst := some 19, op := Op.fieldAddr 85 (Operand.tmp 18) 5, type := 0, pos := "wal.go:168", after := #[{ on := 8, ground := Ground.data }, { on := 6, ground := Ground.guard }], guard := some (6, false) }) (v := .pointer (some ⟨l, 5, none⟩)) rfl (by kernel_rfl) (Or.inl ⟨by rfl, fun w' hSw => by clear hSw; go_simp⟩) (by assumption) ?_; simp only [Act.put, lsA, lsB, lsC]; refine tkQ (i := 13) (oi := { dst := some 23, op := Op.fieldAddr 85 (Operand.tmp 22) 4, type := 0, pos := "wal.go:168", after := #[{ on := 12, ground := Ground.data }, { on := 6, ground := Ground.guard }], guard := some (6, false) }) (v := .pointer (some ⟨l, 4, none⟩)) rfl (by kernel_rfl) (Or.inl ⟨by rfl, fun w' hSw => by clear hSw; go_simp⟩) (by assumption) ?_; simp only [Act.put, lsA, lsB, lsC]; refine tkQ (i := 10) (oi := { dst := some 20, op := Op.load 3 (Operand.tmp 19), type := 3, pos := "wal.go:168", after := #[{ on := 9, ground := Ground.data }, { on := 6, ground := Ground.guard }], guard := some (6, false) }) (v := .int .i64 (G.flushed : Int)) rfl (by kernel_rfl) (yieldsIf_load_cell (by rfl) 3 _ rfl _ rfl (fun W hW => hW.c5) (fun W hc => ld_int hc)) (by assumption) ?_
  simp only [Act.put, lsA, lsB, lsC]; refine tkQ (i := 14) (oi := { dst := some 24, op := Op.load 3 (Operand.tmp 23), type := 3, pos := "wal.go:168", after := #[{ on := 13, ground := Ground.data }, { on := 6, ground := Ground.guard }], guard := some (6, false) }) (v := .int .i64 (G.tail : Int)) rfl (by kernel_rfl) (yieldsIf_load_cell (by rfl) 3 _ rfl _ rfl (fun W hW => hW.c4) (fun W hc => ld_int hc)) (by assumption) ?_; simp only [Act.put, lsA, lsB, lsC]; refine tkQ (i := 15) (oi := { dst := some 25, op := Op.binOp BinOp.eql 3 (Operand.tmp 20) (Operand.tmp 24) 3, type := 4, pos := "wal.go:168", after := #[{ on := 10, ground := Ground.data }, { on := 14, ground := Ground.data }, { on := 6, ground := Ground.guard }], guard := some (6, false) }) (v := .bool false) rfl (by kernel_rfl) (Or.inl ⟨by rfl, fun w' hSw => by clear hSw; go_simp⟩) (by assumption) ?_; simp only [Act.put, lsA, lsB, lsC]; refine tkQ (i := 16) (oi := { dst := some 26, op := Op.pick (Operand.tmp 16) (Operand.const (Value.bool true)) (Operand.tmp 25), type := 4, pos := "wal.go:168", after := #[{ on := 6, ground := Ground.data }, { on := 15, ground := Ground.data }], guard := none }) (v := .bool false) rfl (by kernel_rfl) (Or.inl ⟨by rfl, fun w' hSw => by clear hSw; go_simp⟩) (by assumption) ?_; simp only [Act.put, lsA, lsB, lsC]; refine wpAnyH_done (by kernel_rfl) ?_ _; refine NoPanic.normal ?_; obtain ⟨w0, hw0⟩ : ∃ w0, w.drew = w0 := ⟨_, rfl⟩; rw [hw0] at hHeld ⊢
  have HO0 : Hid (Only (fun k => own d g m k) w w0) := by rw [← hw0]; exact Only.drew _ _
  have HD0 : Hid (Dsk w0 d g m D) := by rw [← hw0]; exact HD.out.same (Only.drew _ _)
  have HL0 := hide hHeld; have d5 := hHeld.c5; clear c4 c5 hHeld hw0
  go_wp2_with (first
    | (go_at_call 121; refine (HQ1.out _).mono ?_; rintro e w' ⟨rfl, hw⟩; obtain rfl := hw.symm; clear hw))
  clear d5
  go_loopw [5] (fun y wr => ∃ (k : Nat) (E : Dk), bf ≤ k ∧ k ≤ be + 1 ∧ y = .int .i64 (k : Int) ∧ Hid (Dsk wr d g m E) ∧ Hid (G.lays k (be + 1 - k) E = R) ∧ Hid (LogAt wr l d G B ao cp v8) ∧ Hid (Only (fun k => own d g m k) w wr)) (fun y _ => be + 1 - (intOf y).toNat)
  case atStart => exact ⟨bf, D, by omega, by omega, rfl, HD0, HR, HL0, HO0⟩
  case round =>
    obtain ⟨k, E, hk1, hk2, rfl, HE, HS, HLk, HO⟩ := hrel; have d4 := HLk.out.c4
    by_cases hle : k ≤ be
    · have hle2 : (k : Int) ≤ (be : Int) := by omega
      have hst := HS.out; rw [show be + 1 - k = (be - k) + 1 from by omega, lays_step] at hst; have q := HW.out wr E HE.out HLk.out k (by omega) (by omega); rw [show E.write ((G.frm + k % G.n : Nat) : Int) (holdL k (G.block k)) = G.lay1 k E from rfl] at q; obtain ⟨⟨E2, r2⟩, hE2⟩ : ∃ r, G.lay1 k E = r := ⟨_, rfl⟩; rw [hE2] at hst q
      simp only at hst q
      have HQ := hide q; have HST := hide hst; clear q hst hE2
      by_cases hr : r2 = 0
      · subst hr
        go_wp2_with (first
          | (go_at_call 121; refine (HQ2.out _).mono ?_; rintro e w' ⟨rfl, hw⟩; obtain rfl := hw.symm; clear hw)
          | (go_at_call 122; refine HQ.out.mono ?_; rintro e w2 ⟨rfl, hd2, hl2, ho2⟩; have HD2 := hide hd2; have HL2 := hide hl2; have HO2 := hide (HO.out.trans ho2 (fun _ _ h => h)); clear hd2 hl2 ho2))
        go_roundw
        case rel =>
          refine ⟨k + 1, E2, by omega, by omega, by go_num, HD2, ?_, HL2, HO2⟩; have := HST.out
          first | rw [if_pos rfl] at this | rw [if_pos trivial] at this
          rw [show be + 1 - (k + 1) = be - k from by omega]
          exact this
        case measure => simp [intOf]; omega
      · go_wp2_with (first
          | (go_at_call 121; refine (HQ2.out _).mono ?_; rintro e w' ⟨rfl, hw⟩; obtain rfl := hw.symm; clear hw)
          | (go_at_call 122; refine HQ.out.mono ?_; rintro e w2 ⟨rfl, hd2, hl2, ho2⟩; have HD2 := hide hd2; have HL2 := hide hl2; have HO2 := hide (HO.out.trans ho2 (fun _ _ h => h)); clear hd2 hl2 ho2))
        go_ret
        have e := HST.out; rw [if_neg hr] at e; have f := HF.out; rw [← e, if_neg (show ¬ ((E2, r2) : Dk × Int).2 = 0 from hr)] at f; subst f
        exact ⟨rfl, HD2.out, HL2.out, HO2.out.mono (fun _ _ h => .inl h)⟩
    · have hle2 : ¬ (k : Int) ≤ (be : Int) := by omega
      have e := HS.out; rw [show be + 1 - k = 0 from by omega] at e; have e2 : R = (E, 0) := e.symm; subst e2; have d0 := HLk.out.c0; have q := sync_any wr d g m E HE.out; obtain ⟨⟨E2, r2⟩, hE2⟩ : ∃ r, E.sync = r := ⟨_, rfl⟩; rw [hE2] at q; have hf2 := HF.out; rw [if_pos rfl] at hf2; simp only [hE2] at hf2; have HF2 := hide hf2
      simp only at q
      have HQ := hide q; clear q hE2 e hf2 HF
      by_cases hr : r2 = 0
      · subst hr
        go_wp2_with (first
          | (go_at_call 121; refine (HQ2.out _).mono ?_; rintro e w' ⟨rfl, hw⟩; obtain rfl := hw.symm; clear hw)
          | (go_at_call 21; refine HQ.out.mono ?_; rintro e w2 ⟨rfl, hd2, ho2⟩; have HD2 := hide hd2; have HL2 := hide (HLk.out.kept ho2 HLI.out HBI.out); have HO2 := hide (HO.out.trans ho2 (fun _ _ h => h)); have x4 := HL2.out.c4; have x5 := HL2.out.c5; have x6 := HL2.out.fz 5; clear hd2 ho2))
        go_ret
        have f := HF2.out
        first | rw [if_pos rfl] at f | rw [if_pos trivial] at f
        subst f; have hnl := HLI.out; refine ⟨rfl, HD2.out.kept (Only.setCell (S := fun i => i = l) _ _ _ rfl) (fun h => hnl (.inl h.symm)) (fun h => hnl (.inr (.inl h.symm))) (fun h => hnl (.inr (.inr h.symm))), HL2.out.flush HBL.out _, ?_⟩
        exact (HO2.out.mono (T := fun k => own d g m k ∨ k = l) (fun _ _ h => .inl h)).trans (Only.setCell (S := fun i => i = l) _ _ _ rfl) (fun _ _ h => .inr h)
      · go_wp2_with (first
          | (go_at_call 121; refine (HQ2.out _).mono ?_; rintro e w' ⟨rfl, hw⟩; obtain rfl := hw.symm; clear hw)
          | (go_at_call 21; refine HQ.out.mono ?_; rintro e w2 ⟨rfl, hd2, ho2⟩; have HD2 := hide hd2; have HL2 := hide (HLk.out.kept ho2 HLI.out HBI.out); have HO2 := hide (HO.out.trans ho2 (fun _ _ h => h)); clear hd2 ho2))
        go_ret
        have f := HF2.out; rw [if_neg hr] at f; subst f
        exact ⟨rfl, HD2.out, HL2.out, HO2.out.mono (fun _ _ h => .inl h)⟩
structure LogOw (W : World) (l d : Nat) (G : Lg) (base : Nat) (v7 v8 : Value) : Prop where
  c0 : W.cell? ⟨l, 0, none⟩ = some (.pointer (some ⟨d, 0, none⟩))
  c1 : W.cell? ⟨l, 1, none⟩ = some (.int .i64 (G.frm : Int))
  c2 : W.cell? ⟨l, 2, none⟩ = some (.int .i64 (G.n : Int))
  c3 : W.cell? ⟨l, 3, none⟩ = some (.int .i64 (G.start : Int))
  c4 : W.cell? ⟨l, 4, none⟩ = some (.int .i64 (G.tail : Int))
  c5 : W.cell? ⟨l, 5, none⟩ = some (.int .i64 (G.flushed : Int))
  c6 : W.cell? ⟨l, 6, none⟩ = some (.int .i64 (G.reserved : Int))
  c7 : W.cell? ⟨l, 7, none⟩ = some v7
  c8 : W.cell? ⟨l, 8, none⟩ = some v8
  fz : ∀ k, W.frozen? ⟨l, k, none⟩ = false
  lt : l < W.heap.size
  row : Row W base v7 v7.ownBlock G.stream
  pl : W.ownsRow base 3 1 v8 G.places.length (G.places.map (Value.int .i64))
  n1 : v7.ownBlock ≠ some l
  n2 : v8.ownBlock ≠ some l
  n3 : ∀ k, v7.ownBlock = some k → v8.ownBlock ≠ some k
theorem Row.bys {W : World} {base : Nat} {v : Value} {row : Option Nat} {l : List UInt8} (h : Row W base v row l) :
    ∃ B ao cp, v = .slice ao l.length cp ∧ Bys W B ao l ∧ (0 < l.length → row = some B) ∧ (ao = none → cp = 0) ∧ (∀ a, ao = some a → a = ⟨a.block, a.off, none⟩) ∧ l.length ≤ cp ∧ cp ≤ maxLen := by
  rcases h.own.2 with ⟨hv, hn⟩ | ⟨g, cap, cur, hv, hb, hh, h1, h2, h3, h4⟩
  · exact ⟨0, none, 0, by rw [hv, hn], ⟨fun h0 => by omega, fun h0 => by omega⟩, fun h0 => by omega, fun _ => rfl, fun a ha => (by cases ha), by omega, by simp [maxLen]⟩
  · have ho := h.own
    rw [hv] at ho; refine ⟨g, some ⟨g, 0, none⟩, cap, hv, ⟨fun _ => ⟨0, rfl, fun j hj => ?_⟩, fun _ => (Array.getElem?_eq_some_iff.1 hh).1⟩, fun _ => ?_, fun h0 => (by cases h0), fun a ha => (by injection ha with ha; subst ha; rfl), h1, h2⟩
    · have hc := ho.cellAt j (by omega)
      rw [Nat.zero_add, hc]
      simp [cells, hj]
    · rw [← h.at_, hv]
      rfl
theorem LogOw.at_ {W : World} {l d : Nat} {G : Lg} {base : Nat} {v7 v8 : Value} (h : LogOw W l d G base v7 v8) :
    ∃ B ao cp, v7 = .slice ao G.stream.length cp ∧ LogAt W l d G B ao cp v8 ∧ (0 < G.stream.length → v7.ownBlock = some B) := by
  obtain ⟨B, ao, cp, hv, hb, hB, h1, h2, h3, h4⟩ := h.row.bys; have c7 := h.c7; rw [hv] at c7
  exact ⟨B, ao, cp, hv, ⟨h.c0, h.c1, h.c2, h.c3, h.c4, h.c5, h.c6, c7, h.c8, h.fz, h.lt, hb, h1, h2, h3, h4⟩, hB⟩
theorem own_only {S : Nat → Prop} {w w' : World} {base n : Nat} {e : TypeId} {v : Value} {xs : List Value} (h : w.ownsRow base e 1 v n xs) (ho : Only S w w') (hS : ∀ k, v.ownBlock = some k → ¬ S k) : w'.ownsRow base e 1 v n xs := by
  obtain ⟨h1, h2⟩ := h; refine ⟨h1, ?_⟩
  rcases h2 with h2 | ⟨g, cap, cur, hv, hg, hh, r⟩
  · exact .inl h2
  · subst hv
    exact .inr ⟨g, cap, cur, rfl, hg, by rw [ho.block g (Array.getElem?_eq_some_iff.1 hh).1 (hS g rfl)]; exact hh, r⟩
theorem LogOw.kept {S : Nat → Prop} {W W' : World} {l d : Nat} {G : Lg} {base : Nat} {v7 v8 : Value} (h : LogOw W l d G base v7 v8) (ho : Only S W W') (h1 : ¬ S l) (h2 : ∀ k, v7.ownBlock = some k → ¬ S k) (h3 : ∀ k, v8.ownBlock = some k → ¬ S k) : LogOw W' l d G base v7 v8 := by
  have k : ∀ (j : Nat) (v : Value), W.cell? ⟨l, j, none⟩ = some v → W'.cell? ⟨l, j, none⟩ = some v := fun j v hj => (ho.cell (p := ⟨l, j, none⟩) h.lt h1).trans hj
  exact ⟨k _ _ h.c0, k _ _ h.c1, k _ _ h.c2, k _ _ h.c3, k _ _ h.c4, k _ _ h.c5, k _ _ h.c6, k _ _ h.c7, k _ _ h.c8, fun j => (ho.frozen (p := ⟨l, j, none⟩) h.lt h1).trans (h.fz j), Nat.lt_of_lt_of_le h.lt ho.size, h.row.kept ho h2, own_only h.pl ho h3, h.n1, h.n2, h.n3⟩
theorem LogOw.more {W W' : World} {l d : Nat} {G : Lg} {base : Nat} {v7 v8 : Value} (h : LogOw W l d G base v7 v8) (ho : Only (fun _ => False) W W') : LogOw W' l d G base v7 v8 := h.kept ho (fun h => h) (fun _ _ h => h) (fun _ _ h => h)
theorem append_place (w : World) (ty : TypeId) (base : Nat) (v : Value) (l : List Int) (h : w.ownsRow base 3 1 v l.length (l.map (Value.int .i64))) (z : Int) (hroom : l.length ≤ 1000000000) (hbase : base ≤ w.heap.size) (W : World) (hW : Only (fun _ => False) w W) (q : Nat) (hq : W.cell? ⟨q, 0, none⟩ = some (.int .i64 z)) :
    ∃ v' w', (Builtin.append_ #[54, 54] ty #[v, .slice (some ⟨q, 0, none⟩) 1 1]).run Tryz.prog W = .ok v' w' ∧ w'.ownsRow base 3 1 v' (l ++ [z]).length ((l ++ [z]).map (Value.int .i64)) ∧ Only (fun k => some k = v.ownBlock) w w' ∧ (v'.ownBlock = v.ownBlock ∨ v'.ownBlock = some W.heap.size) := by
  obtain ⟨i0, hi, hz0, hz1, hz2⟩ := info_parts Tryz.infoInt; have h' := own_only h hW (fun _ _ h => h); have hsz := hW.size
  obtain ⟨v', w', hr, h2, h3, _, h5⟩ := run_append_own_at (P := Tryz.prog) _ base 54 ty 3 i0 (.int .i64 0) 1 8 Tryz.underlying54 hi hz0 hz1 hz2 rfl (by decide) v l.length _ h' ⟨q, 0, none⟩ 1 1 [.int .i64 z] rfl
    (fun j u hu => by
      match j, hu with
      | 0, hu => simp at hu; rw [← hu, add_at]; simpa using hq) (by intro u hu; simp at hu; subst hu; rfl) (by unfold maxLen; omega) (by omega) (by omega)
  refine ⟨v', w', hr, ?_, (hW.mono (T := fun k => some k = v.ownBlock) (fun _ _ h => h.elim)).trans (Only.grown (S := fun k => some k = v.ownBlock) h3 (fun k hk => hk.symm)) (fun _ _ h => h), h5⟩
  have e : l.length + 1 = (l ++ [z]).length := by simp
  rw [List.map_append, ← e]
  exact h2
set_option maxRecDepth 100000 in
set_option maxHeartbeats 800000 in
theorem flush_done (w : World) (l d : Nat) (G : Lg) (B : Nat) (ao : Option Addr) (cp : Nat) (v8 : Value) (h : LogAt w l d G B ao cp v8) (at_ : Int) (h1 : ¬ at_ < (G.flushed : Int)) (h2 : G.flushed = G.tail) :
    Calls Tryz.prog 96 #[.pointer (some ⟨l, 0, none⟩), .int .i64 at_] w fun e w' => e = .returned (.int .i64 0) ∧ Only (fun _ => False) w w' := by
  have HL := hide h
  have b1 : (G.flushed : Int) ≤ at_ := by omega
  have b2 : ((G.flushed : Int) == (G.tail : Int)) = true := by rw [h2]; simp
  have d1 : decide (at_ < (G.flushed : Int)) = false := by simpa using h1
  clear h h2
  go_enter Tryz.func96, Tryz.ntmps96
  go_upto_region 3 with fail
  refine wp_region_noPanic ?_; refine wp_region_held_drew (S := fun W => LogAt W l d G B ao cp v8) (by kernel_rfl) (HL.out.more (Only.drew _ _)) (fun hHeld => ?_); refine tkQ (i := 0) (oi := { dst := some 10, op := Op.move (Operand.tmp 1), type := 3, pos := "wal.go:168", after := #[], guard := none }) (v := .int .i64 at_) rfl (by kernel_rfl) (Or.inl ⟨by rfl, fun w' hSw => by clear hSw; go_simp⟩) (by assumption) ?_; simp only [Act.put, lsA, lsB, lsC]; refine tkQ (i := 1) (oi := { dst := some 11, op := Op.move (Operand.tmp 0), type := 30, pos := "wal.go:168", after := #[], guard := none }) (v := .pointer (some ⟨l, 0, none⟩)) rfl (by kernel_rfl) (Or.inl ⟨by rfl, fun w' hSw => by clear hSw; go_simp⟩) (by assumption) ?_; simp only [Act.put, lsA, lsB, lsC]; refine tkQ (i := 2) (oi := { dst := some 12, op := Op.nilCheck (Operand.tmp 11), type := 0, pos := "wal.go:168", after := #[{ on := 1, ground := Ground.data }], guard := none }) (v := .pointer (some ⟨l, 0, none⟩)) rfl (by kernel_rfl) (Or.inl ⟨by rfl, fun w' hSw => by clear hSw; go_simp⟩) (by assumption) ?_; simp only [Act.put, lsA, lsB, lsC]; refine tkQ (i := 3) (oi := { dst := some 13, op := Op.fieldAddr 85 (Operand.tmp 12) 5, type := 0, pos := "wal.go:168", after := #[{ on := 2, ground := Ground.data }], guard := none }) (v := .pointer (some ⟨l, 5, none⟩)) rfl (by kernel_rfl) (Or.inl ⟨by rfl, fun w' hSw => by clear hSw; go_simp⟩) (by assumption) ?_; simp only [Act.put, lsA, lsB, lsC]; refine tkQ (i := 4) (oi := { dst := some 14, op := Op.load 3 (Operand.tmp 13), type := 3, pos := "wal.go:168", after := #[{ on := 3, ground := Ground.data }], guard := none }) (v := .int .i64 (G.flushed : Int)) rfl (by kernel_rfl) (yieldsIf_load_cell (by rfl) 3 _ rfl _ rfl (fun W hW => hW.c5) (fun W hc => ld_int hc)) (by assumption) ?_
  simp only [Act.put, lsA, lsB, lsC]; refine tkQ (i := 5) (oi := { dst := some 15, op := Op.binOp BinOp.lss 3 (Operand.tmp 10) (Operand.tmp 14) 3, type := 4, pos := "wal.go:168", after := #[{ on := 0, ground := Ground.data }, { on := 4, ground := Ground.data }], guard := none }) (v := .bool false) rfl (by kernel_rfl) (Or.inl ⟨by rfl, fun w' hSw => by clear hSw; go_simp⟩) (by assumption) ?_; simp only [Act.put, lsA, lsB, lsC]; refine tkQ (i := 6) (oi := { dst := some 16, op := Op.move (Operand.tmp 15), type := 4, pos := "wal.go:168", after := #[{ on := 5, ground := Ground.data }], guard := none }) (v := .bool false) rfl (by kernel_rfl) (Or.inl ⟨by rfl, fun w' hSw => by clear hSw; go_simp⟩) (by assumption) ?_; simp only [Act.put, lsA, lsB, lsC]; refine tkQ (i := 7) (oi := { dst := some 17, op := Op.move (Operand.tmp 0), type := 30, pos := "wal.go:168", after := #[{ on := 6, ground := Ground.guard }], guard := some (6, false) }) (v := .pointer (some ⟨l, 0, none⟩)) rfl (by kernel_rfl) (Or.inl ⟨by rfl, fun w' hSw => by clear hSw; go_simp⟩) (by assumption) ?_; simp only [Act.put, lsA, lsB, lsC]; refine tkQ (i := 11) (oi := { dst := some 21, op := Op.move (Operand.tmp 0), type := 30, pos := "wal.go:168", after := #[{ on := 6, ground := Ground.guard }], guard := some (6, false) }) (v := .pointer (some ⟨l, 0, none⟩)) rfl (by kernel_rfl) (Or.inl ⟨by rfl, fun w' hSw => by clear hSw; go_simp⟩) (by assumption) ?_; simp only [Act.put, lsA, lsB, lsC]; refine tkQ (i := 8) (oi := { dst := some 18, op := Op.nilCheck (Operand.tmp 17), type := 0, pos := "wal.go:168", after := #[{ on := 7, ground := Ground.data }, { on := 6, ground := Ground.guard }], guard := some (6, false) }) (v := .pointer (some ⟨l, 0, none⟩)) rfl (by kernel_rfl) (Or.inl ⟨by rfl, fun w' hSw => by clear hSw; go_simp⟩) (by assumption) ?_
  simp only [Act.put, lsA, lsB, lsC]; refine tkQ (i := 12) (oi := { dst := some 22, op := Op.nilCheck (Operand.tmp 21), type := 0, pos := "wal.go:168", after := #[{ on := 11, ground := Ground.data }, { on := 6, ground := Ground.guard }], guard := some (6, false) }) (v := .pointer (some ⟨l, 0, none⟩)) rfl (by kernel_rfl) (Or.inl ⟨by rfl, fun w' hSw => by clear hSw; go_simp⟩) (by assumption) ?_; simp only [Act.put, lsA, lsB, lsC]; refine tkQ (i := 9) (oi := { dst := some 19, op := Op.fieldAddr 85 (Operand.tmp 18) 5, type := 0, pos := "wal.go:168", after := #[{ on := 8, ground := Ground.data }, { on := 6, ground := Ground.guard }], guard := some (6, false) }) (v := .pointer (some ⟨l, 5, none⟩)) rfl (by kernel_rfl) (Or.inl ⟨by rfl, fun w' hSw => by clear hSw; go_simp⟩) (by assumption) ?_; simp only [Act.put, lsA, lsB, lsC]; refine tkQ (i := 13) (oi := { dst := some 23, op := Op.fieldAddr 85 (Operand.tmp 22) 4, type := 0, pos := "wal.go:168", after := #[{ on := 12, ground := Ground.data }, { on := 6, ground := Ground.guard }], guard := some (6, false) }) (v := .pointer (some ⟨l, 4, none⟩)) rfl (by kernel_rfl) (Or.inl ⟨by rfl, fun w' hSw => by clear hSw; go_simp⟩) (by assumption) ?_; simp only [Act.put, lsA, lsB, lsC]; refine tkQ (i := 10) (oi := { dst := some 20, op := Op.load 3 (Operand.tmp 19), type := 3, pos := "wal.go:168", after := #[{ on := 9, ground := Ground.data }, { on := 6, ground := Ground.guard }], guard := some (6, false) }) (v := .int .i64 (G.flushed : Int)) rfl (by kernel_rfl) (yieldsIf_load_cell (by rfl) 3 _ rfl _ rfl (fun W hW => hW.c5) (fun W hc => ld_int hc)) (by assumption) ?_
  simp only [Act.put, lsA, lsB, lsC]; refine tkQ (i := 14) (oi := { dst := some 24, op := Op.load 3 (Operand.tmp 23), type := 3, pos := "wal.go:168", after := #[{ on := 13, ground := Ground.data }, { on := 6, ground := Ground.guard }], guard := some (6, false) }) (v := .int .i64 (G.tail : Int)) rfl (by kernel_rfl) (yieldsIf_load_cell (by rfl) 3 _ rfl _ rfl (fun W hW => hW.c4) (fun W hc => ld_int hc)) (by assumption) ?_; simp only [Act.put, lsA, lsB, lsC]; refine tkQ (i := 15) (oi := { dst := some 25, op := Op.binOp BinOp.eql 3 (Operand.tmp 20) (Operand.tmp 24) 3, type := 4, pos := "wal.go:168", after := #[{ on := 10, ground := Ground.data }, { on := 14, ground := Ground.data }, { on := 6, ground := Ground.guard }], guard := some (6, false) }) (v := .bool true) rfl (by kernel_rfl) (Or.inl ⟨by rfl, fun w' hSw => by clear hSw; go_simp⟩) (by assumption) ?_; simp only [Act.put, lsA, lsB, lsC]; refine tkQ (i := 16) (oi := { dst := some 26, op := Op.pick (Operand.tmp 16) (Operand.const (Value.bool true)) (Operand.tmp 25), type := 4, pos := "wal.go:168", after := #[{ on := 6, ground := Ground.data }, { on := 15, ground := Ground.data }], guard := none }) (v := .bool true) rfl (by kernel_rfl) (Or.inl ⟨by rfl, fun w' hSw => by clear hSw; go_simp⟩) (by assumption) ?_; simp only [Act.put, lsA, lsB, lsC]; refine wpAnyH_done (by kernel_rfl) ?_ _; refine NoPanic.normal ?_
  go_wp2_with fail
  go_ret
  exact ⟨rfl, Only.drew _ _⟩
end Go.Proofs.YtebijheonkagfaaGreatDoor
