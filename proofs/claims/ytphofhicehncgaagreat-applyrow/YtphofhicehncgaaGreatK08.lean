/- Records as plain data: what their bytes are, and which record bytes begin with. -/
import Derived.Test.YtphofhicehncgaaGreatK05
import Derived.Deep.RegionWith
import Derived.Deep.DeepCutAuto
import Derived.Lib.Repeat
import Derived.Test.YtphofhicehncgaaGreatK07
namespace Go.Proofs.YtphofhicehncgaaGreat
open Go.RowKit

/-- Bytes laid since W0, in blocks of their own. -/
structure Lay (W0 w : World) (v : Value) (l : List UInt8) : Prop where
  row : ∃ row, Row w W0.heap.size v row l
  only : Only (fun k => W0.heap.size ≤ k) W0 w
theorem Lay.more {W0 w w' : World} {v : Value} {l : List UInt8} (h : Lay W0 w v l) (ho : Only (fun _ => False) w w') : Lay W0 w' v l := by
  obtain ⟨row, hr⟩ := h.row
  exact ⟨⟨row, hr.kept ho (fun _ _ h => h)⟩, h.only.trans ho (fun _ _ h => h.elim)⟩
theorem Lay.text {W0 w : World} {v : Value} {l : List UInt8} (h : Lay W0 w v l) (s : ByteArray) (hn : l.length + s.size ≤ 158329674399744) :
    ∃ v' w', (Builtin.append_ #[75, 9] 75 #[v, .string s]).run Tryz.prog w = .ok v' w' ∧ Lay W0 w' v' (l ++ bl s) := by
  obtain ⟨i0, hi, hz0, hz1, hz2⟩ := info_parts Tryz.infoByte
  obtain ⟨row, hr⟩ := h.row
  obtain ⟨v', w', hrun, h2, h3, _⟩ := append_string (P := Tryz.prog) w W0.heap.size 75 9 75 5 i0 Tryz.underlying75 Tryz.underlying9 hi hz0 hz1 hz2 v l.length (cells l) hr.own s hn h.only.size
  refine ⟨v', w', hrun, ⟨⟨v'.ownBlock, ?_, rfl⟩, h.only.trans (Only.grown (S := fun k => W0.heap.size ≤ k) h3 (fun k hk => (World.ownsRow.lt hr.own k hk).1)) (fun _ _ h => h)⟩⟩
  have e : l.length + s.size = (l ++ bl s).length := by simp
  rw [cells_append, ← e]
  exact h2
theorem Lay.two {W0 w : World} {v : Value} {l : List UInt8} (h : Lay W0 w v l) (x y : Int) (hx0 : 0 ≤ x) (hx1 : x < 256) (hy0 : 0 ≤ y) (hy1 : y < 256) (hn : l.length + 2 ≤ 158329674399744) :
    ∃ v' w', (Builtin.append_ #[75, 75] 75 #[v, .slice (some ⟨w.heap.size, 0, none⟩) 2 2]).run Tryz.prog (w.alloc (.cells #[.int .u8 x, .int .u8 y] 5)) = .ok v' w' ∧ Lay W0 w' v' (l ++ [u8 x, u8 y]) := by
  obtain ⟨i0, hi, hz0, hz1, hz2⟩ := info_parts Tryz.infoByte
  have h' := h.more (onlyA w (.cells #[.int .u8 x, .int .u8 y] 5))
  obtain ⟨row, hr⟩ := h'.row
  have ex := u8_to x hx0 hx1
  have ey := u8_to y hy0 hy1
  obtain ⟨v', w', hrun, h2, h3, _⟩ := append_bytes (P := Tryz.prog) _ W0.heap.size 75 75 5 i0 Tryz.underlying75 hi hz0 hz1 hz2 v l.length (cells l) hr.own ⟨w.heap.size, 0, none⟩ 2 2 (cells [u8 x, u8 y]) rfl
    (fun j u hu => by
      match j, hu with
      | 0, hu => simp [cells] at hu; rw [← hu, add_at, ex]; simp
      | 1, hu => simp [cells] at hu; rw [← hu, add_at, ey]; simp)
    (by intro u hu; simp [cells] at hu; rcases hu with rfl | rfl <;> rfl) hn (by decide) h'.only.size
  refine ⟨v', w', hrun, ⟨⟨v'.ownBlock, ?_, rfl⟩, h'.only.trans (Only.grown (S := fun k => W0.heap.size ≤ k) h3 (fun k hk => (World.ownsRow.lt hr.own k hk).1)) (fun _ _ h => h)⟩⟩
  have e : l.length + 2 = (l ++ [u8 x, u8 y]).length := by simp
  rw [cells_append, ← e]
  exact h2
theorem only_below {w w' : World} (hb : Below w.heap.size w w') : Only (fun _ => False) w w' := ⟨hb.os, hb.tape, hb.output, hb.size, fun k hk _ => hb.block k hk⟩
theorem big_int (n : Int) (k : Nat) (w : World) (hk : 1 ≤ k) (hk8 : k ≤ 8) (h0 : 0 ≤ n) (hn : n < 9223372036854775808) :
    Calls Tryz.prog 55 #[.int .i64 n, .int .i64 k] w fun e w' => e = .returned (.string (str (bigF k n.toNat))) ∧ Only (fun _ => False) w w' := by
  obtain ⟨m, rfl⟩ := Int.eq_ofNat_of_zero_le h0
  rw [Int.toNat_natCast]
  exact big_any m k w hk hk8 (by omega)

theorem big_nat (n k : Nat) (w : World) (hk : 1 ≤ k) (hk8 : k ≤ 8) (hn : n < 9223372036854775808) :
    Calls Tryz.prog 55 #[.int .i64 n, .int .i64 k] w fun e w' => e = .returned (.string (str (bigF k n))) ∧ Only (fun _ => False) w w' := big_any n k w hk hk8 hn
theorem cat_eq (a : List UInt8) (s : ByteArray) : (⟨a.toArray⟩ : ByteArray) ++ s = ⟨(a ++ s.data.toList).toArray⟩ := by
  obtain ⟨⟨l⟩⟩ := s
  apply ByteArray.ext
  simp
set_option maxRecDepth 100000 in
theorem str_cat (a b : List UInt8) : str a ++ str b = str (a ++ b) := cat_eq a ⟨b.toArray⟩
theorem rep_zero (c : Nat) : Lib.repeatL (⟨#[0]⟩ : ByteArray).data.toList c = List.replicate c 0 := by
  induction c with
  | zero => rfl
  | succ c ih => rw [Lib.repeatL, ih, List.replicate_succ]; rfl
theorem lay_new {W0 w1 : World} {n : Nat} {v : Value} (hz : W0.heap.size = n) (hw : w1.ownsRow n 5 1 v 0 []) (hg : W0.grownBy w1 none) : Lay W0 w1 v [] := by
  subst hz
  exact ⟨⟨v.ownBlock, hw, rfl⟩, Only.grown hg (fun k hk => by cases hk)⟩
theorem size_conv (wr : World) (a k v r : Int) (h : ByteArray) (B cp : Nat) (ao : Option Addr) (l : List ByteArray) (hS : Strs wr B ao l) (hh : h.size ≤ 255) (hl : l.length ≤ 255) (u : Value) (X : ByteArray)
    (hcv : ∀ W, Only (fun _ => False) wr W → (convert 75 9 u).run Tryz.prog W = .ok (.string X) W) (N : Nat) (hN : 20 + h.size + isz l = N) (W : World) (hW : Only (fun _ => False) wr W) :
    Calls Tryz.prog 130 #[.agg #[.int .i64 a, .int .i64 k, .int .i64 v, .int .i64 r, .string h, .slice ao l.length cp]] W fun e w' => e = .returned (.int .i64 (N : Int)) ∧ (convert 75 9 u).run Tryz.prog w' = .ok (.string X) w' ∧ Hid (Only (fun _ => False) wr w') := by
  have h1 := psize_any W a k v r h B cp ao l (hS.more hW) (by omega)
  have h2 : wrap64 (20 + h.size + isz l) = (N : Int) := by
    rw [w64_few hS.size (by omega) hl]
    omega
  rw [h2] at h1
  exact h1.mono (fun e w' hx => ⟨hx.1, hcv _ (o2 hW hx.2), o2 hW hx.2⟩)
end Go.Proofs.YtphofhicehncgaaGreat

namespace Go.Proofs.YtphofhicehncgaaGreat
open Go.RowKit

instance (p : Pg) : Decidable p.inRange := by unfold Pg.inRange; exact inferInstance
instance (p : Pg) : Decidable p.fits := by unfold Pg.fits; exact inferInstance
/-- What Encode answers. -/
def Pg.out (p : Pg) : List UInt8 × Int := if p.inRange then (if p.fits then (p.enc, 0) else ([], 3)) else ([], 4)
theorem out_ok {p : Pg} (h1 : p.inRange) (h2 : p.fits) : p.out = (p.enc, 0) := by unfold Pg.out; rw [if_pos h1, if_pos h2]
theorem out_long {p : Pg} (h1 : p.inRange) (h2 : ¬ p.fits) : p.out = ([], 3) := by unfold Pg.out; rw [if_pos h1, if_neg h2]
theorem out_range {p : Pg} (h1 : ¬ p.inRange) : p.out = ([], 4) := by unfold Pg.out; rw [if_neg h1]

end Go.Proofs.YtphofhicehncgaaGreat

namespace Go.Proofs.YtphofhicehncgaaGreat
open Go.RowKit

structure Im where
  page : Int
  body : Pg
structure Rc where
  lsn : Int
  prev : Int
  next : Int
  kind : Int
  xid : Int
  page : Int
  slot : Int
  old : Int
  new : Int
  redo : Int
  data : ByteArray
  slots : List Int
  more : List Int
  images : List Im
  pages : List (Int × Int)
  txns : List (Int × Int)
def Rc.none : Rc := ⟨0, 0, 0, 0, 0, 0, 0, 0, 0, 0, ⟨#[]⟩, [], [], [], [], []⟩

/-- The greatest number. -/
abbrev top : Int := 4611686018427387904
/-- What a Reader is: what is left, what was wrong first. -/
abbrev St := List UInt8 × Int
def rN (z : Int) (s : St) : Int × St := if s.2 = 0 then ((rdN z s.1).1, ((rdN z s.1).2.1, (rdN z s.1).2.2)) else (0, s)
def rT (z : Int) (s : St) : List UInt8 × St := if s.2 = 0 then ((rdT z s.1).1, ((rdT z s.1).2.1, (rdT z s.1).2.2)) else ([], s)
theorem rN_bd (z : Int) (s : St) : 0 ≤ (rN z s).1 ∧ (rN z s).1 < 9223372036854775808 := by
  unfold rN
  split
  · have := rdN_facts z s.1; exact ⟨this.1, this.2.1⟩
  · simp
theorem rdN_le (z : Int) (l : List UInt8) (hz : 0 ≤ z) : (rdN z l).1 ≤ z := by
  unfold rdN
  split
  · split
    · exact hz
    · simp only; omega
  · exact hz
theorem rN_le (z : Int) (s : St) (hz : 0 ≤ z) : (rN z s).1 ≤ z := by
  unfold rN
  split
  · exact rdN_le z s.1 hz
  · exact hz
theorem rdN_len (z : Int) (l : List UInt8) : (rdN z l).2.1.length ≤ l.length := (rdN_facts z l).2.2
theorem rN_len (z : Int) (s : St) : (rN z s).2.1.length ≤ s.1.length := by
  unfold rN
  split
  · exact rdN_len z s.1
  · exact Nat.le_refl _
theorem rT_len (z : Int) (s : St) : (rT z s).2.1.length ≤ s.1.length := by
  unfold rT
  split
  · unfold rdT
    have := rdN_len z s.1
    split
    · split
      · simp
      · simp; omega
    · simp
  · exact Nat.le_refl _
theorem rT_most (z : Int) (s : St) (hz : 0 ≤ z) : ((rT z s).1.length : Int) ≤ z := by
  unfold rT
  split
  · unfold rdT
    have := rdN_le z s.1 hz
    have h0 := (rdN_facts z s.1).1
    split
    · split
      · simpa using hz
      · simp only [List.length_take]; omega
    · simpa using hz
  · simpa using hz
theorem rN_lay (z n : Int) (rest : List UInt8) (h0 : 0 ≤ n) (h1 : n ≤ z) (h2 : n < 9223372036854775808) : rN z (sev n.toNat ++ rest, 0) = (n, (rest, 0)) := by
  obtain ⟨m, rfl⟩ := Int.eq_ofNat_of_zero_le h0
  have h := rd_sev 9 0 m 0 rest rfl (by omega) (fun h => by omega) (by omega)
  have h' : rd 0 0 (sev m ++ rest) = ((m : Int), ((sev m).length : Int), 0) := by
    have e : sev m = sevF 9 m := rfl
    rw [e, h]; simp
  unfold rN
  rw [if_pos rfl, Int.toNat_natCast]
  simp only [rdN_ok h' (by omega : ¬ max z 0 < (m : Int))]
  simp
theorem rT_lay (z : Int) (t rest : List UInt8) (h1 : (t.length : Int) ≤ z) (h2 : t.length < 9223372036854775808) : rT z ((sev t.length ++ t) ++ rest, 0) = (t, (rest, 0)) := by
  have h := rN_lay z (t.length : Int) (t ++ rest) (by omega) h1 (by omega)
  unfold rN at h
  rw [if_pos rfl, Int.toNat_natCast] at h
  simp only [Prod.mk.injEq] at h
  obtain ⟨e1, e2, e3⟩ := h
  unfold rT
  rw [if_pos rfl, List.append_assoc]
  simp only
  rw [rdT_ok e3 (by rw [e1, e2]; simp; omega), e1, e2]
  simp

/-- So many things that bytes begin with, one behind the other. -/
def takeL {α : Type} (one : St → α × St) : Nat → List α → St → List α × St
  | 0, acc, s => (acc, s)
  | k + 1, acc, s => if (one s).2.2 = 0 then takeL one k (acc ++ [(one s).1]) (one s).2 else ([], (one s).2)
theorem takeL_stop {α : Type} {one : St → α × St} {k : Nat} {acc : List α} {s : St} (h : (one s).2.2 ≠ 0) : takeL one (k + 1) acc s = ([], (one s).2) := by rw [takeL, if_neg h]
theorem takeL_next {α : Type} {one : St → α × St} {k : Nat} {acc : List α} {s : St} (h : (one s).2.2 = 0) : takeL one (k + 1) acc s = takeL one k (acc ++ [(one s).1]) (one s).2 := by rw [takeL, if_pos h]
def rL {α : Type} (one : St → α × St) (most : Int) (s : St) : List α × St := takeL one (rN most s).1.toNat [] (rN most s).2
theorem takeL_laid {α : Type} (one : St → α × St) (lay : α → List UInt8) (l acc : List α) (rest : List UInt8) (h : ∀ x ∈ l, ∀ t, one (lay x ++ t, 0) = (x, (t, 0))) : takeL one l.length acc ((l.map lay).flatten ++ rest, 0) = (acc ++ l, (rest, 0)) := by
  induction l generalizing acc with
  | nil => simp [takeL]
  | cons x l ih =>
    have hx := h x (by simp) ((l.map lay).flatten ++ rest)
    rw [List.map_cons, List.flatten_cons, List.append_assoc, List.length_cons, takeL_next (by rw [hx]), hx]
    simp only
    rw [ih _ (fun y hy => h y (by simp [hy]))]
    simp
theorem rL_laid {α : Type} (one : St → α × St) (lay : α → List UInt8) (most : Int) (l : List α) (rest : List UInt8) (hm : (l.length : Int) ≤ most) (h2 : l.length < 9223372036854775808) (h : ∀ x ∈ l, ∀ t, one (lay x ++ t, 0) = (x, (t, 0))) :
    rL one most (sev l.length ++ ((l.map lay).flatten ++ rest), 0) = (l, (rest, 0)) := by
  have h1 := rN_lay most (l.length : Int) ((l.map lay).flatten ++ rest) (by omega) hm (by omega)
  rw [Int.toNat_natCast] at h1
  unfold rL
  rw [h1]
  simp only [Int.toNat_natCast]
  rw [takeL_laid one lay l [] rest h, List.nil_append]

/-- Bytes without the noughts at their end. -/
def bare (l : List UInt8) : List UInt8 := (l.reverse.dropWhile (· == 0)).reverse
theorem dw_rep (l : List UInt8) : l = List.replicate (l.length - (l.dropWhile (· == 0)).length) 0 ++ l.dropWhile (· == 0) := by
  induction l with
  | nil => rfl
  | cons a t ih =>
    by_cases h : a = 0
    · subst h
      have hl : (t.dropWhile (· == 0)).length ≤ t.length := (List.dropWhile_sublist _).length_le
      have e : (List.dropWhile (· == 0) (0 :: t)) = t.dropWhile (· == 0) := by simp
      rw [e, List.length_cons, Nat.succ_sub hl, List.replicate_succ, List.cons_append, ← ih]
    · have e : (List.dropWhile (· == 0) (a :: t)) = a :: t := by simp [h]
      rw [e]; simp
theorem bare_len (l : List UInt8) : (bare l).length ≤ l.length := by
  unfold bare
  rw [List.length_reverse]
  have := (List.dropWhile_sublist (· == (0 : UInt8)) (l := l.reverse)).length_le
  simpa using this
theorem bare_pad (l : List UInt8) : bare l ++ List.replicate (l.length - (bare l).length) 0 = l := by
  have h := dw_rep l.reverse
  have h2 := congrArg List.reverse h
  rw [List.reverse_reverse, List.reverse_append, List.reverse_replicate, List.length_reverse] at h2
  unfold bare
  rw [List.length_reverse]
  exact h2.symm

/-- The parts of a body. -/
def textL (s : ByteArray) : List UInt8 := sev s.size ++ bl s
def imL (i : Im) : List UInt8 := sev i.page.toNat ++ (sev (bare i.body.enc).length ++ bare i.body.enc)
def prL (p : Int × Int) : List UInt8 := sev p.1.toNat ++ sev p.2.toNat
def Rc.lay (r : Rc) : List UInt8 :=
  nums [r.lsn, r.prev, r.next, r.kind, r.xid, r.page, r.slot, r.old, r.new, r.redo] ++ (textL r.data ++ (sev r.slots.length ++ (nums r.slots ++ (sev r.more.length ++ (nums r.more ++ (sev r.images.length ++ ((r.images.map imL).flatten ++ (sev r.pages.length ++ ((r.pages.map prL).flatten ++ (sev r.txns.length ++ (r.txns.map prL).flatten))))))))))
def mb (n : Int) : Prop := 0 ≤ n ∧ n ≤ top
instance (n : Int) : Decidable (mb n) := by unfold mb; exact inferInstance
structure Rc.inRange (r : Rc) : Prop where
  one : 1 ≤ r.lsn
  ten : ∀ n ∈ [r.lsn, r.prev, r.next, r.redo, r.xid, r.page, r.slot, r.old, r.new], mb n
  slots : ∀ n ∈ r.slots, mb n
  more : ∀ n ∈ r.more, mb n
  images : ∀ i ∈ r.images, mb i.page
  pages : ∀ p ∈ r.pages, mb p.1 ∧ mb p.2
  txns : ∀ p ∈ r.txns, mb p.1 ∧ mb p.2
structure Rc.short (r : Rc) : Prop where
  data : r.data.size ≤ 512
  slots : r.slots.length ≤ 255
  more : r.more.length ≤ 255
  images : r.images.length ≤ 4
  pages : r.pages.length ≤ 8192
  txns : r.txns.length ≤ 1024
/-- What Encode says of the first image's page that has an error. -/
def imErr : List Im → Int
  | [] => 0
  | i :: t => if i.body.out.2 = 0 then imErr t else i.body.out.2
structure Rc.valid (r : Rc) : Prop where
  k0 : 1 ≤ r.kind
  k1 : r.kind ≤ 13
  rng : r.inRange
  short : r.short
  ims : imErr r.images = 0
  len : r.lay.length ≤ 65535
/-- What body answers: o is it. -/
structure Rc.Out (r : Rc) (o : List UInt8 × Int) : Prop where
  kind : ¬ (1 ≤ r.kind ∧ r.kind ≤ 13) → o = ([], 41)
  rng : (1 ≤ r.kind ∧ r.kind ≤ 13) → ¬ r.inRange → o = ([], 4)
  short : (1 ≤ r.kind ∧ r.kind ≤ 13) → r.inRange → ¬ r.short → o = ([], 3)
  ims : (1 ≤ r.kind ∧ r.kind ≤ 13) → r.inRange → r.short → imErr r.images ≠ 0 → o = ([], imErr r.images)
  len : (1 ≤ r.kind ∧ r.kind ≤ 13) → r.inRange → r.short → imErr r.images = 0 → 65535 < r.lay.length → o = ([], 3)
  ok : r.valid → o = (r.lay, 0)
theorem Rc.Out.cases {r : Rc} {o : List UInt8 × Int} (h : r.Out o) : (r.valid ∧ o = (r.lay, 0)) ∨ (¬ r.valid ∧ o.1 = [] ∧ o.2 ≠ 0) := by
  by_cases hk : 1 ≤ r.kind ∧ r.kind ≤ 13
  · by_cases hr : r.inRange
    · by_cases hs : r.short
      · by_cases hi : imErr r.images = 0
        · by_cases hl : 65535 < r.lay.length
          · rw [h.len hk hr hs hi hl]; exact .inr ⟨fun v => by have := v.len; omega, rfl, by decide⟩
          · exact .inl ⟨⟨hk.1, hk.2, hr, hs, hi, by omega⟩, h.ok ⟨hk.1, hk.2, hr, hs, hi, by omega⟩⟩
        · rw [h.ims hk hr hs hi]; exact .inr ⟨fun v => hi v.ims, rfl, hi⟩
      · rw [h.short hk hr hs]; exact .inr ⟨fun v => hs v.short, rfl, by decide⟩
    · rw [h.rng hk hr]; exact .inr ⟨fun v => hr v.rng, rfl, by decide⟩
  · rw [h.kind hk]; exact .inr ⟨fun v => hk ⟨v.k0, v.k1⟩, rfl, by decide⟩
theorem Rc.Out.one {r : Rc} {o p : List UInt8 × Int} (h : r.Out o) (h' : r.Out p) : o = p := by
  by_cases hk : 1 ≤ r.kind ∧ r.kind ≤ 13
  · by_cases hr : r.inRange
    · by_cases hs : r.short
      · by_cases hi : imErr r.images = 0
        · by_cases hl : 65535 < r.lay.length
          · rw [h.len hk hr hs hi hl, h'.len hk hr hs hi hl]
          · rw [h.ok ⟨hk.1, hk.2, hr, hs, hi, by omega⟩, h'.ok ⟨hk.1, hk.2, hr, hs, hi, by omega⟩]
        · rw [h.ims hk hr hs hi, h'.ims hk hr hs hi]
      · rw [h.short hk hr hs, h'.short hk hr hs]
    · rw [h.rng hk hr, h'.rng hk hr]
  · rw [h.kind hk, h'.kind hk]
theorem imErr_all {l : List Im} (h : imErr l = 0) : ∀ i ∈ l, i.body.out = (i.body.enc, 0) ∧ i.body.inRange ∧ i.body.fits := by
  induction l with
  | nil => intro i hi; cases hi
  | cons j t ih =>
    rw [imErr] at h
    split at h
    · rename_i hj
      intro i hi
      rcases List.mem_cons.1 hi with rfl | hi
      · unfold Pg.out at hj ⊢
        split at hj
        · rename_i h1
          split at hj
          · rename_i h2
            rw [if_pos h1, if_pos h2]; exact ⟨rfl, h1, h2⟩
          · simp at hj
        · simp at hj
      · exact ih h i hi
    · rename_i hj
      exact absurd h hj

/-- What is read of a body. -/
def rIm (s : St) : Im × St := (⟨(rN top s).1, (dec ((rT 512 (rN top s).2).1 ++ List.replicate (512 - (rT 512 (rN top s).2).1.length) 0)).1⟩, (rT 512 (rN top s).2).2)
def rPr (s : St) : (Int × Int) × St := (((rN top s).1, (rN top (rN top s).2).1), (rN top (rN top s).2).2)
/-- The steps of parts. -/
structure Steps (l : List UInt8) (r : Rc) (e : St) : Prop where
  ex : ∃ (s1 s2 s3 s4 s5 s6 s7 s8 s9 s10 s11 s12 s13 s14 s15 : St) (d : List UInt8), rN top (l, 0) = (r.lsn, s1) ∧ rN top s1 = (r.prev, s2) ∧ rN top s2 = (r.next, s3) ∧ rN 13 s3 = (r.kind, s4) ∧ rN top s4 = (r.xid, s5) ∧ rN top s5 = (r.page, s6) ∧ rN top s6 = (r.slot, s7) ∧ rN top s7 = (r.old, s8) ∧
    rN top s8 = (r.new, s9) ∧ rN top s9 = (r.redo, s10) ∧ rT 512 s10 = (d, s11) ∧ r.data = str d ∧ rL (rN top) 255 s11 = (r.slots, s12) ∧ rL (rN top) 255 s12 = (r.more, s13) ∧ rL rIm 4 s13 = (r.images, s14) ∧ rL rPr 8192 s14 = (r.pages, s15) ∧ rL rPr 1024 s15 = (r.txns, e)
theorem Steps.one {l : List UInt8} {r r' : Rc} {e e' : St} (h : Steps l r e) (h' : Steps l r' e') : r = r' ∧ e = e' := by
  obtain ⟨s1, s2, s3, s4, s5, s6, s7, s8, s9, s10, s11, s12, s13, s14, s15, d, a1, a2, a3, a4, a5, a6, a7, a8, a9, a10, a11, a12, a13, a14, a15, a16, a17⟩ := h.ex
  obtain ⟨t1, t2, t3, t4, t5, t6, t7, t8, t9, t10, t11, t12, t13, t14, t15, d', b1, b2, b3, b4, b5, b6, b7, b8, b9, b10, b11, b12, b13, b14, b15, b16, b17⟩ := h'.ex
  have st : ∀ {α : Type} {x x' : α} {u u' : St} {p : α × St}, p = (x, u) → p = (x', u') → x = x' ∧ u = u' := by
    intro α x x' u u' p h1 h2; rw [h1] at h2; simpa using h2
  obtain ⟨c1, rfl⟩ := st a1 b1
  obtain ⟨c2, rfl⟩ := st a2 b2
  obtain ⟨c3, rfl⟩ := st a3 b3
  obtain ⟨c4, rfl⟩ := st a4 b4
  obtain ⟨c5, rfl⟩ := st a5 b5
  obtain ⟨c6, rfl⟩ := st a6 b6
  obtain ⟨c7, rfl⟩ := st a7 b7
  obtain ⟨c8, rfl⟩ := st a8 b8
  obtain ⟨c9, rfl⟩ := st a9 b9
  obtain ⟨c10, rfl⟩ := st a10 b10
  obtain ⟨rfl, rfl⟩ := st a11 b11
  obtain ⟨c12, rfl⟩ := st a13 b13
  obtain ⟨c13, rfl⟩ := st a14 b14
  obtain ⟨c14, rfl⟩ := st a15 b15
  obtain ⟨c15, rfl⟩ := st a16 b16
  obtain ⟨c16, rfl⟩ := st a17 b17
  refine ⟨?_, rfl⟩
  obtain ⟨_, _, _, _, _, _, _, _, _, _, _, _, _, _, _, _⟩ := r
  obtain ⟨_, _, _, _, _, _, _, _, _, _, _, _, _, _, _, _⟩ := r'
  simp only at c1 c2 c3 c4 c5 c6 c7 c8 c9 c10 a12 b12 c12 c13 c14 c15 c16
  subst c1 c2 c3 c4 c5 c6 c7 c8 c9 c10 a12 b12 c12 c13 c14 c15 c16
  rfl
theorem nums_cons (z : Int) (l : List Int) : nums (z :: l) = sev z.toNat ++ nums l := by simp [nums]
theorem nums_nil : nums [] = [] := rfl
theorem nums_map (l : List Int) : nums l = (l.map fun z => sev z.toNat).flatten := rfl
theorem pr_laid (p : Int × Int) (t : List UInt8) (h1 : mb p.1) (h2 : mb p.2) : rPr (prL p ++ t, 0) = (p, (t, 0)) := by
  unfold rPr prL
  unfold mb top at h1 h2
  rw [List.append_assoc, rN_lay top p.1 _ h1.1 h1.2 (by omega)]
  simp only
  rw [rN_lay top p.2 _ h2.1 h2.2 (by omega)]
theorem im_laid (i : Im) (t : List UInt8) (h1 : mb i.page) (hv : i.body.valid) : rIm (imL i ++ t, 0) = (i, (t, 0)) := by
  have hl := enc_len i.body hv.fit.2.2
  have hb := bare_len i.body.enc
  have hp := bare_pad i.body.enc
  rw [hl] at hb hp
  unfold rIm imL
  unfold mb top at h1
  rw [List.append_assoc, rN_lay top i.page _ h1.1 h1.2 (by omega)]
  simp only
  rw [rT_lay 512 (bare i.body.enc) t (by omega) (by omega)]
  simp only
  rw [hp, dec_enc i.body hv]
/-- What is laid is read as it was. -/
theorem steps_lay (r : Rc) (hv : r.valid) (hl : ∀ i ∈ r.images, i.body.lsn < 9223372036854775808) : Steps r.lay r ([], 0) := by
  obtain ⟨k0, k1, hr, hs, hi, hlen⟩ := hv
  have ha := imErr_all hi
  have ten := hr.ten
  simp only [List.mem_cons, List.not_mem_nil, or_false, forall_eq_or_imp, forall_eq] at ten
  obtain ⟨t0, t1, t2, t3, t4, t5, t6, t7, t8⟩ := ten
  have st : ∀ (z n : Int) (rest : List UInt8), 0 ≤ n → n ≤ z → z ≤ top → rN z (sev n.toNat ++ rest, 0) = (n, (rest, 0)) := fun z n rest h0 h1 h2 => rN_lay z n rest h0 h1 (by unfold top at h2; omega)
  have top_ := Int.le_refl top
  have hd := hs.data
  have hsl := hs.slots
  have hml := hs.more
  have hil := hs.images
  have hpl := hs.pages
  have htl := hs.txns
  have one : ∀ n, mb n → ∀ t, rN top ((fun z : Int => sev z.toNat) n ++ t, 0) = (n, (t, 0)) := fun n hn t => st top n t hn.1 hn.2 top_
  have h16 := rL_laid rPr prL 1024 r.txns [] (by omega) (by omega) (fun p hp t => pr_laid p t (hr.txns p hp).1 (hr.txns p hp).2)
  have h15 := rL_laid rPr prL 8192 r.pages (sev r.txns.length ++ ((r.txns.map prL).flatten ++ [])) (by omega) (by omega) (fun p hp t => pr_laid p t (hr.pages p hp).1 (hr.pages p hp).2)
  have h14 := rL_laid rIm imL 4 r.images (sev r.pages.length ++ ((r.pages.map prL).flatten ++ (sev r.txns.length ++ ((r.txns.map prL).flatten ++ [])))) (by omega) (by omega) (fun i hi t => im_laid i t (hr.images i hi) ⟨(ha i hi).2.1, (ha i hi).2.2, hl i hi⟩)
  have h13 := rL_laid (rN top) (fun z : Int => sev z.toNat) 255 r.more (sev r.images.length ++ ((r.images.map imL).flatten ++ (sev r.pages.length ++ ((r.pages.map prL).flatten ++ (sev r.txns.length ++ ((r.txns.map prL).flatten ++ [])))))) (by omega) (by omega) (fun n hn t => one n (hr.more n hn) t)
  have h12 := rL_laid (rN top) (fun z : Int => sev z.toNat) 255 r.slots (sev r.more.length ++ ((r.more.map fun z : Int => sev z.toNat).flatten ++ (sev r.images.length ++ ((r.images.map imL).flatten ++ (sev r.pages.length ++ ((r.pages.map prL).flatten ++ (sev r.txns.length ++ ((r.txns.map prL).flatten ++ [])))))))) (by omega) (by omega) (fun n hn t => one n (hr.slots n hn) t)
  have h11 := rT_lay 512 (bl r.data) (sev r.slots.length ++ ((r.slots.map fun z : Int => sev z.toNat).flatten ++ (sev r.more.length ++ ((r.more.map fun z : Int => sev z.toNat).flatten ++ (sev r.images.length ++ ((r.images.map imL).flatten ++ (sev r.pages.length ++ ((r.pages.map prL).flatten ++ (sev r.txns.length ++ ((r.txns.map prL).flatten ++ [])))))))))) (by rw [bl_len]; omega) (by rw [bl_len]; omega)
  rw [bl_len] at h11
  have key : r.lay = sev r.lsn.toNat ++ (sev r.prev.toNat ++ (sev r.next.toNat ++ (sev r.kind.toNat ++ (sev r.xid.toNat ++ (sev r.page.toNat ++ (sev r.slot.toNat ++ (sev r.old.toNat ++ (sev r.new.toNat ++ (sev r.redo.toNat ++ ((sev r.data.size ++ bl r.data) ++ (sev r.slots.length ++ ((r.slots.map fun z : Int => sev z.toNat).flatten ++ (sev r.more.length ++ ((r.more.map fun z : Int => sev z.toNat).flatten ++ (sev r.images.length ++ ((r.images.map imL).flatten ++ (sev r.pages.length ++ ((r.pages.map prL).flatten ++ (sev r.txns.length ++ ((r.txns.map prL).flatten ++ [])))))))))))))))))))) := by
    unfold Rc.lay textL
    simp only [nums_cons, nums_nil, List.append_assoc, List.append_nil]
    simp only [nums_map]
  rw [key]
  exact ⟨⟨_, _, _, _, _, _, _, _, _, _, _, _, _, _, _, _, st top _ _ t0.1 t0.2 top_, st top _ _ t1.1 t1.2 top_, st top _ _ t2.1 t2.2 top_, st 13 _ _ (by omega) k1 (by decide), st top _ _ t4.1 t4.2 top_, st top _ _ t5.1 t5.2 top_, st top _ _ t6.1 t6.2 top_, st top _ _ t7.1 t7.2 top_, st top _ _ t8.1 t8.2 top_, st top _ _ t3.1 t3.2 top_, h11, (str_bl r.data).symm, h12, h13, h14, h15, h16⟩⟩

def Rc.enc (r : Rc) : List UInt8 := bigF 4 r.lay.length ++ (bigF 4 (sum r.lay).toNat ++ r.lay)
theorem renc_len (r : Rc) : r.enc.length = 8 + r.lay.length := by simp only [Rc.enc, List.length_append, bigF_len]; omega
/-- Which record bytes begin with: the answer. -/
structure DecIs (l : List UInt8) (r : Rc) (n c : Int) : Prop where
  short : l.length < 8 → r = .none ∧ n = 0 ∧ c = 40
  zero : 8 ≤ l.length → (ofTo (l.take 4) = 0 ∨ 65535 < ofTo (l.take 4)) → r = .none ∧ n = 0 ∧ c = 41
  cut : 8 ≤ l.length → ¬ (ofTo (l.take 4) = 0 ∨ 65535 < ofTo (l.take 4)) → (l.length : Int) - 8 < ofTo (l.take 4) → r = .none ∧ n = 0 ∧ c = 40
  bad : 8 ≤ l.length → ¬ (ofTo (l.take 4) = 0 ∨ 65535 < ofTo (l.take 4)) → ¬ (l.length : Int) - 8 < ofTo (l.take 4) → sum ((l.drop 8).take (ofTo (l.take 4)).toNat) ≠ ofTo ((l.drop 4).take 4) → r = .none ∧ n = 0 ∧ c = 30
  rest : 8 ≤ l.length → ¬ (ofTo (l.take 4) = 0 ∨ 65535 < ofTo (l.take 4)) → ¬ (l.length : Int) - 8 < ofTo (l.take 4) → sum ((l.drop 8).take (ofTo (l.take 4)).toNat) = ofTo ((l.drop 4).take 4) →
    ∃ q e, Steps ((l.drop 8).take (ofTo (l.take 4)).toNat) q e ∧ (∀ i ∈ q.images, i.body.lsn < 9223372036854775808) ∧ ((e = ([], 0) ∧ q.valid ∧ q.lay = (l.drop 8).take (ofTo (l.take 4)).toNat ∧ r = q ∧ n = 8 + ofTo (l.take 4) ∧ c = 0) ∨ (¬ (e = ([], 0) ∧ q.valid ∧ q.lay = (l.drop 8).take (ofTo (l.take 4)).toNat) ∧ r = .none ∧ n = 0 ∧ c = 41))
theorem lay_pos (r : Rc) : 0 < r.lay.length := by
  have h : 0 < (sev r.lsn.toNat).length := by
    unfold sev
    rw [sevF]
    split <;> simp
  unfold Rc.lay
  rw [List.length_append, nums_cons, List.length_append]
  omega
/-- What is laid is read as it was, whatever stands behind. -/
theorem dec_back {r q : Rc} {behind : List UInt8} {n c : Int} (hv : r.valid) (hl : ∀ i ∈ r.images, i.body.lsn < 9223372036854775808) (h : DecIs (r.enc ++ behind) q n c) : q = r ∧ n = r.enc.length ∧ c = 0 := by
  have hlen := hv.len
  have hp := lay_pos r
  have hs := sum_bd r.lay
  have e4 : (r.enc ++ behind).take 4 = bigF 4 r.lay.length := by
    unfold Rc.enc
    rw [List.append_assoc]
    exact List.take_left' (bigF_len _ _)
  have e8 : ((r.enc ++ behind).drop 4).take 4 = bigF 4 (sum r.lay).toNat := by
    unfold Rc.enc
    rw [List.append_assoc, List.drop_left' (bigF_len _ _), List.append_assoc]
    exact List.take_left' (bigF_len _ _)
  have ed : (r.enc ++ behind).drop 8 = r.lay ++ behind := by
    unfold Rc.enc
    rw [show (8 : Nat) = 4 + 4 from rfl, ← List.drop_drop, List.append_assoc, List.drop_left' (bigF_len _ _), List.append_assoc, List.drop_left' (bigF_len _ _)]
  have o4 := ofTo_big 4 r.lay.length (by omega) (by omega)
  have o8 := ofTo_big 4 (sum r.lay).toNat (by omega) (by omega)
  have hz : (r.enc ++ behind).length = 8 + r.lay.length + behind.length := by rw [List.length_append, renc_len]
  have et : (r.lay ++ behind).take (ofTo (bigF 4 r.lay.length)).toNat = r.lay := by rw [o4, Int.toNat_natCast]; exact List.take_left' rfl
  have hrest := h.rest (by omega) (by rw [e4, o4]; omega) (by rw [e4, o4, hz]; omega) (by rw [e4, ed, et, e8, o8]; omega)
  rw [e4, ed, et, o4] at hrest
  obtain ⟨q', e, hst, hq, hc⟩ := hrest
  obtain ⟨rfl, rfl⟩ := hst.one (steps_lay r hv hl)
  rcases hc with ⟨_, _, _, rfl, rfl, rfl⟩ | ⟨hn, _⟩
  · exact ⟨rfl, by rw [renc_len]; omega, rfl⟩
  · exact absurd ⟨rfl, hv, rfl⟩ hn
theorem dec_cut {r q : Rc} {k : Nat} {n c : Int} (hv : r.valid) (hk : k < r.enc.length) (h : DecIs (r.enc.take k) q n c) : c = 40 := by
  have hlen := hv.len
  have hp := lay_pos r
  rw [renc_len] at hk
  have hz : (r.enc.take k).length = k := by rw [List.length_take, renc_len]; omega
  by_cases h8 : k < 8
  · exact (h.short (by omega)).2.2
  · have e4 : (r.enc.take k).take 4 = bigF 4 r.lay.length := by
      rw [List.take_take, Nat.min_eq_left (by omega)]
      exact List.take_left' (bigF_len _ _)
    have o4 := ofTo_big 4 r.lay.length (by omega) (by omega)
    exact (h.cut (by omega) (by rw [e4, o4]; omega) (by rw [e4, o4, hz]; omega)).2.2
/-- What is read is laid as the same bytes. -/
theorem dec_there {l : List UInt8} {r : Rc} {n c : Int} (h : DecIs l r n c) : (c = 0 ∧ r.valid ∧ (∀ i ∈ r.images, i.body.lsn < 9223372036854775808) ∧ n = r.enc.length ∧ r.enc.length ≤ l.length ∧ l.take r.enc.length = r.enc) ∨ (r = .none ∧ n = 0 ∧ (c = 40 ∨ c = 41 ∨ c = 30)) := by
  by_cases h8 : l.length < 8
  · obtain ⟨a, b, d⟩ := h.short h8; exact .inr ⟨a, b, .inl d⟩
  · by_cases hz : ofTo (l.take 4) = 0 ∨ 65535 < ofTo (l.take 4)
    · obtain ⟨a, b, d⟩ := h.zero (by omega) hz; exact .inr ⟨a, b, .inr (.inl d)⟩
    · by_cases hc : (l.length : Int) - 8 < ofTo (l.take 4)
      · obtain ⟨a, b, d⟩ := h.cut (by omega) hz hc; exact .inr ⟨a, b, .inl d⟩
      · by_cases hs : sum ((l.drop 8).take (ofTo (l.take 4)).toNat) = ofTo ((l.drop 4).take 4)
        · obtain ⟨q, e, hst, hq, hx⟩ := h.rest (by omega) hz hc hs
          rcases hx with ⟨_, hv, hlay, rfl, rfl, rfl⟩ | ⟨_, a, b, d⟩
          · have h0 := ofTo_bd (l.take 4)
            have hl4 : (l.take 4).length = 4 := by rw [List.length_take]; omega
            have hl8 : ((l.drop 4).take 4).length = 4 := by rw [List.length_take, List.length_drop]; omega
            have hll : r.lay.length = (ofTo (l.take 4)).toNat := by rw [hlay, List.length_take, List.length_drop]; omega
            have b4 := big_ofTo (l.take 4) (by omega)
            have b8 := big_ofTo ((l.drop 4).take 4) (by omega)
            rw [hl4] at b4
            rw [hl8] at b8
            have he : r.enc = l.take r.enc.length := by
              rw [renc_len]
              unfold Rc.enc
              rw [hll, b4, hlay, hs, b8]
              have e1 : l.take (8 + (ofTo (l.take 4)).toNat) = l.take 4 ++ ((l.drop 4).take 4 ++ (l.drop 8).take (ofTo (l.take 4)).toNat) := by
                rw [show 8 + (ofTo (l.take 4)).toNat = 4 + (4 + (ofTo (l.take 4)).toNat) by omega, List.take_add, List.take_add, List.drop_drop]
              exact e1.symm
            have hn := renc_len r
            exact .inl ⟨rfl, hv, hq, by omega, by omega, he.symm⟩
          · exact .inr ⟨a, b, .inr (.inl d)⟩
        · obtain ⟨a, b, d⟩ := h.bad (by omega) hz hc hs; exact .inr ⟨a, b, .inr (.inr d)⟩
/-- Two records that may be are the same if their bytes are. -/
theorem enc_inj {a b : Rc} (ha : a.valid) (hb : b.valid) (hla : ∀ i ∈ a.images, i.body.lsn < 9223372036854775808) (hlb : ∀ i ∈ b.images, i.body.lsn < 9223372036854775808) (h : a.enc = b.enc) : a = b := by
  have hl : a.lay = b.lay := by
    have h1 := congrArg (List.drop 8) h
    have e : ∀ r : Rc, r.enc.drop 8 = r.lay := fun r => by
      unfold Rc.enc
      rw [show (8 : Nat) = 4 + 4 from rfl, ← List.drop_drop, List.drop_left' (bigF_len _ _), List.drop_left' (bigF_len _ _)]
    rw [e, e] at h1
    exact h1
  have s1 := steps_lay a ha hla
  have s2 := steps_lay b hb hlb
  rw [hl] at s1
  exact (s1.one s2).1
end Go.Proofs.YtphofhicehncgaaGreat
