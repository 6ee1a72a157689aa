/- Parts. -/
import Derived.Test.YtpnbhddmdfcjdaaGreatK21
set_option maxRecDepth 100000
namespace Go.Proofs.YtpnbhddmdfcjdaaGreat
open Go.RowKit
/-- Numbers that a slice at ao leads to, in block B. -/
structure Zs (w : World) (B : Nat) (ao : Option Addr) (l : List Int) : Prop where
  at_ : 0 < l.length → ∃ o, ao = some ⟨B, o, none⟩ ∧ ∀ j (h : j < l.length), w.cell? ⟨B, o + j, none⟩ = some (.int .i64 l[j])
  lt : 0 < l.length → B < w.heap.size
  len : l.length ≤ 17592186043904
theorem Zs.nil (w : World) (B : Nat) (ao : Option Addr) : Zs w B ao [] := ⟨fun h => absurd h (by simp), fun h => absurd h (by simp), by simp⟩
theorem Zs.kept {S : Nat → Prop} {w w' : World} {B : Nat} {ao : Option Addr} {l : List Int} (h : Zs w B ao l) (ho : Only S w w') (hS : 0 < l.length → ¬ S B) : Zs w' B ao l :=
  ⟨fun h0 => by
    obtain ⟨o, e, hc⟩ := h.at_ h0
    exact ⟨o, e, fun j hj => (ho.cell (p := ⟨B, o + j, none⟩) (h.lt h0) (hS h0)).trans (hc j hj)⟩, fun h0 => Nat.lt_of_lt_of_le (h.lt h0) ho.size, h.len⟩
/-- Pairs of numbers that a slice at ao leads to, in block B. -/
structure Prs (w : World) (B : Nat) (ao : Option Addr) (l : List (Int × Int)) : Prop where
  at_ : 0 < l.length → ∃ o, ao = some ⟨B, o, none⟩ ∧ ∀ j (h : j < l.length), w.cell? ⟨B, o + j * 2, none⟩ = some (.int .i64 l[j].1) ∧ w.cell? ⟨B, o + j * 2 + 1, none⟩ = some (.int .i64 l[j].2)
  lt : 0 < l.length → B < w.heap.size
  len : l.length ≤ 17592186043904
theorem Prs.nil (w : World) (B : Nat) (ao : Option Addr) : Prs w B ao [] := ⟨fun h => absurd h (by simp), fun h => absurd h (by simp), by simp⟩
theorem Prs.kept {S : Nat → Prop} {w w' : World} {B : Nat} {ao : Option Addr} {l : List (Int × Int)} (h : Prs w B ao l) (ho : Only S w w') (hS : 0 < l.length → ¬ S B) : Prs w' B ao l :=
  ⟨fun h0 => by
    obtain ⟨o, e, hc⟩ := h.at_ h0
    exact ⟨o, e, fun j hj => ⟨(ho.cell (p := ⟨B, o + j * 2, none⟩) (h.lt h0) (hS h0)).trans (hc j hj).1, (ho.cell (p := ⟨B, o + j * 2 + 1, none⟩) (h.lt h0) (hS h0)).trans (hc j hj).2⟩⟩, fun h0 => Nat.lt_of_lt_of_le (h.lt h0) ho.size, h.len⟩
/-- An image whose seven cells lie from k on in block B, its page's items in block D. -/
structure ImAt (w : World) (B k : Nat) (i : Im) (D : Nat) (ao : Option Addr) (cp : Nat) : Prop where
  c0 : w.cell? ⟨B, k, none⟩ = some (.int .i64 i.page)
  c1 : w.cell? ⟨B, k + 1, none⟩ = some (.int .i64 i.body.lsn)
  c2 : w.cell? ⟨B, k + 2, none⟩ = some (.int .i64 i.body.kind)
  c3 : w.cell? ⟨B, k + 3, none⟩ = some (.int .i64 i.body.level)
  c4 : w.cell? ⟨B, k + 4, none⟩ = some (.int .i64 i.body.right)
  c5 : w.cell? ⟨B, k + 5, none⟩ = some (.string i.body.high)
  c6 : w.cell? ⟨B, k + 6, none⟩ = some (.slice ao i.body.items.length cp)
  strs : Strs w D ao i.body.items
  fit : Fit ao i.body.items.length cp
  high : i.body.high.size ≤ 140737488355328
  lsn : i.body.lsn < 9223372036854775808
theorem ImAt.kept {S : Nat → Prop} {w w' : World} {B k : Nat} {i : Im} {D : Nat} {ao : Option Addr} {cp : Nat} (h : ImAt w B k i D ao cp) (hB : B < w.heap.size) (ho : Only S w w') (hS : ¬ S B) (hD : 0 < i.body.items.length → ¬ S D) : ImAt w' B k i D ao cp :=
  ⟨(ho.cell (p := ⟨B, k, none⟩) hB hS).trans h.c0, (ho.cell (p := ⟨B, k + 1, none⟩) hB hS).trans h.c1, (ho.cell (p := ⟨B, k + 2, none⟩) hB hS).trans h.c2, (ho.cell (p := ⟨B, k + 3, none⟩) hB hS).trans h.c3, (ho.cell (p := ⟨B, k + 4, none⟩) hB hS).trans h.c4, (ho.cell (p := ⟨B, k + 5, none⟩) hB hS).trans h.c5, (ho.cell (p := ⟨B, k + 6, none⟩) hB hS).trans h.c6, h.strs.kept ho hD, h.fit, h.high, h.lsn⟩
/-- Images that a slice at ao leads to, in block B; the items of their pages lie in blocks of T. -/
structure Ims (w : World) (T : Nat → Prop) (B : Nat) (ao : Option Addr) (l : List Im) : Prop where
  at_ : 0 < l.length → ∃ o, ao = some ⟨B, o, none⟩ ∧ ∀ j (h : j < l.length), ∃ D a c, ImAt w B (o + j * 7) l[j] D a c ∧ (0 < l[j].body.items.length → T D)
  lt : 0 < l.length → B < w.heap.size
  len : l.length ≤ 17592186043904
theorem Ims.nil (w : World) (T : Nat → Prop) (B : Nat) (ao : Option Addr) : Ims w T B ao [] := ⟨fun h => absurd h (by simp), fun h => absurd h (by simp), by simp⟩
theorem Ims.kept {S T : Nat → Prop} {w w' : World} {B : Nat} {ao : Option Addr} {l : List Im} (h : Ims w T B ao l) (ho : Only S w w') (hS : 0 < l.length → ¬ S B) (hT : ∀ d, T d → ¬ S d) : Ims w' T B ao l :=
  ⟨fun h0 => by
    obtain ⟨o, e, hc⟩ := h.at_ h0
    refine ⟨o, e, fun j hj => ?_⟩
    obtain ⟨D, a, c, hi, hD⟩ := hc j hj
    exact ⟨D, a, c, hi.kept (h.lt h0) ho (hS h0) (fun h1 => hT D (hD h1)), hD⟩, fun h0 => Nat.lt_of_lt_of_le (h.lt h0) ho.size, h.len⟩
theorem Zs.more {w w' : World} {B : Nat} {ao : Option Addr} {l : List Int} (h : Zs w B ao l) (ho : Only (fun _ => False) w w') : Zs w' B ao l := h.kept ho (fun _ h => h)
theorem Prs.more {w w' : World} {B : Nat} {ao : Option Addr} {l : List (Int × Int)} (h : Prs w B ao l) (ho : Only (fun _ => False) w w') : Prs w' B ao l := h.kept ho (fun _ h => h)
theorem Ims.more {w w' : World} {T : Nat → Prop} {B : Nat} {ao : Option Addr} {l : List Im} (h : Ims w T B ao l) (ho : Only (fun _ => False) w w') : Ims w' T B ao l := h.kept ho (fun _ h => h) (fun _ _ h => h)
/-- Where a record's lists lie. -/
structure Loc where
  a1 : Option Addr
  a2 : Option Addr
  a3 : Option Addr
  a4 : Option Addr
  a5 : Option Addr
  c1 : Nat
  c2 : Nat
  c3 : Nat
  c4 : Nat
  c5 : Nat
  b1 : Nat
  b2 : Nat
  b3 : Nat
  b4 : Nat
  b5 : Nat
abbrev Rc.cells (r : Rc) (L : Loc) : Array Value :=
  #[.int .i64 r.lsn, .int .i64 r.prev, .int .i64 r.next, .int .u8 r.kind, .int .i64 r.xid, .int .i64 r.page, .int .i64 r.slot, .int .i64 r.old, .int .i64 r.new, .int .i64 r.redo, .string r.data,
    .slice L.a1 r.slots.length L.c1, .slice L.a2 r.more.length L.c2, .slice L.a3 r.images.length L.c3, .slice L.a4 r.pages.length L.c4, .slice L.a5 r.txns.length L.c5]
/-- What a record's lists hold. -/
structure RcAt (w : World) (r : Rc) (L : Loc) : Prop where
  slots : Zs w L.b1 L.a1 r.slots
  more : Zs w L.b2 L.a2 r.more
  images : ∃ T, Ims w T L.b3 L.a3 r.images
  pages : Prs w L.b4 L.a4 r.pages
  txns : Prs w L.b5 L.a5 r.txns
  f1 : Fit L.a1 r.slots.length L.c1
  f2 : Fit L.a2 r.more.length L.c2
  data : r.data.size ≤ 140737488355328
  kind : 0 ≤ r.kind ∧ r.kind ≤ 255
theorem RcAt.go {w w' : World} {r : Rc} {L : Loc} (h : RcAt w r L) (ho : Only (fun _ => False) w w') : RcAt w' r L := by
  obtain ⟨T, hi⟩ := h.images
  exact ⟨h.slots.more ho, h.more.more ho, ⟨T, hi.more ho⟩, h.pages.more ho, h.txns.more ho, h.f1, h.f2, h.data, h.kind⟩
/-- A record in block b, cell by cell. -/
structure Bx (w : World) (b : Nat) (r : Rc) (L : Loc) : Prop where
  c0 : w.cell? ⟨b, 0, none⟩ = some (.int .i64 r.lsn)
  c1 : w.cell? ⟨b, 1, none⟩ = some (.int .i64 r.prev)
  c2 : w.cell? ⟨b, 2, none⟩ = some (.int .i64 r.next)
  c3 : w.cell? ⟨b, 3, none⟩ = some (.int .u8 r.kind)
  c4 : w.cell? ⟨b, 4, none⟩ = some (.int .i64 r.xid)
  c5 : w.cell? ⟨b, 5, none⟩ = some (.int .i64 r.page)
  c6 : w.cell? ⟨b, 6, none⟩ = some (.int .i64 r.slot)
  c7 : w.cell? ⟨b, 7, none⟩ = some (.int .i64 r.old)
  c8 : w.cell? ⟨b, 8, none⟩ = some (.int .i64 r.new)
  c9 : w.cell? ⟨b, 9, none⟩ = some (.int .i64 r.redo)
  c10 : w.cell? ⟨b, 10, none⟩ = some (.string r.data)
  c11 : w.cell? ⟨b, 11, none⟩ = some (.slice L.a1 r.slots.length L.c1)
  c12 : w.cell? ⟨b, 12, none⟩ = some (.slice L.a2 r.more.length L.c2)
  c13 : w.cell? ⟨b, 13, none⟩ = some (.slice L.a3 r.images.length L.c3)
  c14 : w.cell? ⟨b, 14, none⟩ = some (.slice L.a4 r.pages.length L.c4)
  c15 : w.cell? ⟨b, 15, none⟩ = some (.slice L.a5 r.txns.length L.c5)
  lt : b < w.heap.size
theorem Bx.new (w : World) (r : Rc) (L : Loc) : Bx (w.alloc (.cells (r.cells L) 47)) w.heap.size r L :=
  ⟨by simp, by simp, by simp, by simp, by simp, by simp, by simp, by simp, by simp, by simp, by simp, by simp, by simp, by simp, by simp, by simp, by simp⟩
theorem Bx.kept {S : Nat → Prop} {w w' : World} {b : Nat} {r : Rc} {L : Loc} (h : Bx w b r L) (ho : Only S w w') (hS : ¬ S b) : Bx w' b r L := by
  have k : ∀ (j : Nat) (v : Value), w.cell? ⟨b, j, none⟩ = some v → w'.cell? ⟨b, j, none⟩ = some v := fun j v hj => (ho.cell (p := ⟨b, j, none⟩) h.lt hS).trans hj
  exact ⟨k _ _ h.c0, k _ _ h.c1, k _ _ h.c2, k _ _ h.c3, k _ _ h.c4, k _ _ h.c5, k _ _ h.c6, k _ _ h.c7, k _ _ h.c8, k _ _ h.c9, k _ _ h.c10, k _ _ h.c11, k _ _ h.c12, k _ _ h.c13, k _ _ h.c14, k _ _ h.c15, Nat.lt_of_lt_of_le h.lt ho.size⟩
theorem Bx.more {w w' : World} {b : Nat} {r : Rc} {L : Loc} (h : Bx w b r L) (ho : Only (fun _ => False) w w') : Bx w' b r L := h.kept ho (fun h => h)
end Go.Proofs.YtpnbhddmdfcjdaaGreat
