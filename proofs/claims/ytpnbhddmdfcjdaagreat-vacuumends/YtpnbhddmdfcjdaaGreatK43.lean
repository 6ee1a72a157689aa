/- Parts. -/
import Derived.Test.YtpnbhddmdfcjdaaGreatK42
set_option maxRecDepth 100000
namespace Go.Proofs.YtpnbhddmdfcjdaaGreat
open Go.RowKit
/-- What a record's kind does to its page. -/
noncomputable def doesP (m : Int) (p : Pg) (R : Rc) : Pg × Int :=
  if R.kind = 11 then (cutR m p R.new, cid m p R.new)
  else if R.kind = 10 then (p.chg (frzL R p.items), (frzL R p.items).2)
  else if R.kind = 9 then (p.chg (clnL R.slots p.items), (clnL R.slots p.items).2)
  else if R.kind = 8 then (setR m p R.xid 3, setC m p R.xid 3)
  else if R.kind = 7 then (setR m p R.xid 2, setC m p R.xid 2)
  else if R.kind = 4 then lvP p R
  else if R.kind = 3 then enP p R
  else if R.kind = 6 then (p.chg (undL R p.items), (undL R p.items).2)
  else if R.kind = 2 then (p.chg (chgL (cgE R.old R.new) [R.slot] p.items), (chgL (cgE R.old R.new) [R.slot] p.items).2)
  else insP p R
/-- Whether a record of a kind changes its page. -/
def ownK (k : Int) : Bool := decide (k = 1 ∨ k = 2 ∨ k = 3 ∨ k = 4 ∨ k = 6 ∨ k = 7 ∨ k = 8 ∨ k = 9 ∨ k = 10 ∨ k = 11)
theorem fnOf_own (b s2 s3 : Nat) (k : Int) : (fnOf b s2 s3 k).isSome = ownK k := by
  unfold fnOf ownK
  by_cases h11 : k = 11
  · simp [h11]
  by_cases h10 : k = 10
  · simp [h10]
  by_cases h9 : k = 9
  · simp [h9]
  by_cases h8 : k = 8
  · simp [h8]
  by_cases h7 : k = 7
  · simp [h7]
  by_cases h4 : k = 4
  · simp [h4]
  by_cases h3 : k = 3
  · simp [h3]
  by_cases h6 : k = 6
  · simp [h6]
  by_cases h2 : k = 2
  · simp [h2]
  by_cases h1 : k = 1
  · simp [h1]
  simp [h1, h2, h3, h4, h6, h7, h8, h9, h10, h11]
/-- What is known of a record and of numbers that come with it. -/
structure Rk (w : World) (m : Int) (R : Rc) (L : Loc) : Prop where
  at_ : RcAt w R L
  m : I64 m
  xid : I64 R.xid
  new : I64 R.new
/-- What is there when a deed is called: the page's list, a copy of its own; the variables that closures captured. -/
structure Cd (w W : World) (m : Int) (sl : Value) (l : List ByteArray) (b s2 s3 : Nat) : Prop where
  only : Only (fun _ => False) w W
  ls : Ls W w.heap.size sl l
  siz : ∀ s ∈ l, s.size ≤ 140737488355328
  len : l.length ≤ 8796093021952
  b : One W b (.int .i64 m)
  s2 : One W s2 (.int .u8 2)
  s3 : One W s3 (.int .u8 3)
theorem deed_1 (w W : World) (m a k v r : Int) (h : ByteArray) (sl : Value) (l : List ByteArray) (b s2 s3 : Nat) (R : Rc) (L : Loc) (hR : Rk w m R L) (hh : h.size ≤ 140737488355328) (c : Cd w W m sl l b s2 s3) (hk : R.kind = 1) : Calls Tryz.prog 72 #[.agg #[.int .i64 a, .int .i64 k, .int .i64 v, .int .i64 r, .string h, sl], .agg (R.cells L)] W fun e w' => DeR W w' sl e (doesP m ⟨a, k, v, r, h, l⟩ R).1 (doesP m ⟨a, k, v, r, h, l⟩ R).2 := by
  unfold doesP
  rw [hk]
  have hl : l.length ≤ 8796093022207 := by have := c.len; omega
  have hn1 : 0 < R.slots.length → ¬ sl.ownBlock = some L.b1 := fun h0 q => by have := hR.at_.slots.lt h0; have := (World.ownsRow.lt c.ls _ q).1; omega
  have hn2 : 0 < R.more.length → ¬ sl.ownBlock = some L.b2 := fun h0 q => by have := hR.at_.more.lt h0; have := (World.ownsRow.lt c.ls _ q).1; omega
  exact apinsert_any W a k v r h w.heap.size sl l c.ls c.siz c.len hh R L hR.at_.data
theorem deed_2 (w W : World) (m a k v r : Int) (h : ByteArray) (sl : Value) (l : List ByteArray) (b s2 s3 : Nat) (R : Rc) (L : Loc) (hR : Rk w m R L) (_hh : h.size ≤ 140737488355328) (c : Cd w W m sl l b s2 s3) (hk : R.kind = 2) : Calls Tryz.prog 73 #[.agg #[.int .i64 a, .int .i64 k, .int .i64 v, .int .i64 r, .string h, sl], .agg (R.cells L)] W fun e w' => DeR W w' sl e (doesP m ⟨a, k, v, r, h, l⟩ R).1 (doesP m ⟨a, k, v, r, h, l⟩ R).2 := by
  unfold doesP
  rw [hk]
  have hl : l.length ≤ 8796093022207 := by have := c.len; omega
  have hn1 : 0 < R.slots.length → ¬ sl.ownBlock = some L.b1 := fun h0 q => by have := hR.at_.slots.lt h0; have := (World.ownsRow.lt c.ls _ q).1; omega
  have hn2 : 0 < R.more.length → ¬ sl.ownBlock = some L.b2 := fun h0 q => by have := hR.at_.more.lt h0; have := (World.ownsRow.lt c.ls _ q).1; omega
  exact mark_any W a k v r h w.heap.size sl l c.ls c.siz hl R L hR.new
theorem deed_3 (w W : World) (m a k v r : Int) (h : ByteArray) (sl : Value) (l : List ByteArray) (b s2 s3 : Nat) (R : Rc) (L : Loc) (hR : Rk w m R L) (_hh : h.size ≤ 140737488355328) (c : Cd w W m sl l b s2 s3) (hk : R.kind = 3) : Calls Tryz.prog 75 #[.agg #[.int .i64 a, .int .i64 k, .int .i64 v, .int .i64 r, .string h, sl], .agg (R.cells L)] W fun e w' => DeR W w' sl e (doesP m ⟨a, k, v, r, h, l⟩ R).1 (doesP m ⟨a, k, v, r, h, l⟩ R).2 := by
  unfold doesP
  rw [hk]
  have hl : l.length ≤ 8796093022207 := by have := c.len; omega
  have hn1 : 0 < R.slots.length → ¬ sl.ownBlock = some L.b1 := fun h0 q => by have := hR.at_.slots.lt h0; have := (World.ownsRow.lt c.ls _ q).1; omega
  have hn2 : 0 < R.more.length → ¬ sl.ownBlock = some L.b2 := fun h0 q => by have := hR.at_.more.lt h0; have := (World.ownsRow.lt c.ls _ q).1; omega
  exact apenter_any W a k v r h w.heap.size sl l c.ls c.siz c.len R L
theorem deed_4 (w W : World) (m a k v r : Int) (h : ByteArray) (sl : Value) (l : List ByteArray) (b s2 s3 : Nat) (R : Rc) (L : Loc) (hR : Rk w m R L) (_hh : h.size ≤ 140737488355328) (c : Cd w W m sl l b s2 s3) (hk : R.kind = 4) : Calls Tryz.prog 76 #[.agg #[.int .i64 a, .int .i64 k, .int .i64 v, .int .i64 r, .string h, sl], .agg (R.cells L)] W fun e w' => DeR W w' sl e (doesP m ⟨a, k, v, r, h, l⟩ R).1 (doesP m ⟨a, k, v, r, h, l⟩ R).2 := by
  unfold doesP
  rw [hk]
  have hl : l.length ≤ 8796093022207 := by have := c.len; omega
  have hn1 : 0 < R.slots.length → ¬ sl.ownBlock = some L.b1 := fun h0 q => by have := hR.at_.slots.lt h0; have := (World.ownsRow.lt c.ls _ q).1; omega
  have hn2 : 0 < R.more.length → ¬ sl.ownBlock = some L.b2 := fun h0 q => by have := hR.at_.more.lt h0; have := (World.ownsRow.lt c.ls _ q).1; omega
  exact apleave_any W a k v r h w.heap.size sl l c.ls c.siz c.len R L
theorem deed_6 (w W : World) (m a k v r : Int) (h : ByteArray) (sl : Value) (l : List ByteArray) (b s2 s3 : Nat) (R : Rc) (L : Loc) (hR : Rk w m R L) (_hh : h.size ≤ 140737488355328) (c : Cd w W m sl l b s2 s3) (hk : R.kind = 6) : Calls Tryz.prog 74 #[.agg #[.int .i64 a, .int .i64 k, .int .i64 v, .int .i64 r, .string h, sl], .agg (R.cells L)] W fun e w' => DeR W w' sl e (doesP m ⟨a, k, v, r, h, l⟩ R).1 (doesP m ⟨a, k, v, r, h, l⟩ R).2 := by
  unfold doesP
  rw [hk]
  have hl : l.length ≤ 8796093022207 := by have := c.len; omega
  have hn1 : 0 < R.slots.length → ¬ sl.ownBlock = some L.b1 := fun h0 q => by have := hR.at_.slots.lt h0; have := (World.ownsRow.lt c.ls _ q).1; omega
  have hn2 : 0 < R.more.length → ¬ sl.ownBlock = some L.b2 := fun h0 q => by have := hR.at_.more.lt h0; have := (World.ownsRow.lt c.ls _ q).1; omega
  exact undo_any W a k v r h w.heap.size sl l c.ls c.siz hl R L hR.new
theorem deed_7 (w W : World) (m a k v r : Int) (h : ByteArray) (sl : Value) (l : List ByteArray) (b s2 s3 : Nat) (R : Rc) (L : Loc) (hR : Rk w m R L) (_hh : h.size ≤ 140737488355328) (c : Cd w W m sl l b s2 s3) (hk : R.kind = 7) : Calls Tryz.prog 71 #[.agg #[.int .i64 a, .int .i64 k, .int .i64 v, .int .i64 r, .string h, sl], .agg (R.cells L), .pointer (some ⟨b, 0, none⟩), .pointer (some ⟨s2, 0, none⟩)] W fun e w' => DeR W w' sl e (doesP m ⟨a, k, v, r, h, l⟩ R).1 (doesP m ⟨a, k, v, r, h, l⟩ R).2 := by
  unfold doesP
  rw [hk]
  have hl : l.length ≤ 8796093022207 := by have := c.len; omega
  have hn1 : 0 < R.slots.length → ¬ sl.ownBlock = some L.b1 := fun h0 q => by have := hR.at_.slots.lt h0; have := (World.ownsRow.lt c.ls _ q).1; omega
  have hn2 : 0 < R.more.length → ¬ sl.ownBlock = some L.b2 := fun h0 q => by have := hR.at_.more.lt h0; have := (World.ownsRow.lt c.ls _ q).1; omega
  exact apended1_any W a k v r h w.heap.size sl l c.ls c.siz c.len R L m b s2 2 c.b c.s2 (by decide) hR.m hR.xid
theorem deed_8 (w W : World) (m a k v r : Int) (h : ByteArray) (sl : Value) (l : List ByteArray) (b s2 s3 : Nat) (R : Rc) (L : Loc) (hR : Rk w m R L) (_hh : h.size ≤ 140737488355328) (c : Cd w W m sl l b s2 s3) (hk : R.kind = 8) : Calls Tryz.prog 71 #[.agg #[.int .i64 a, .int .i64 k, .int .i64 v, .int .i64 r, .string h, sl], .agg (R.cells L), .pointer (some ⟨b, 0, none⟩), .pointer (some ⟨s3, 0, none⟩)] W fun e w' => DeR W w' sl e (doesP m ⟨a, k, v, r, h, l⟩ R).1 (doesP m ⟨a, k, v, r, h, l⟩ R).2 := by
  unfold doesP
  rw [hk]
  have hl : l.length ≤ 8796093022207 := by have := c.len; omega
  have hn1 : 0 < R.slots.length → ¬ sl.ownBlock = some L.b1 := fun h0 q => by have := hR.at_.slots.lt h0; have := (World.ownsRow.lt c.ls _ q).1; omega
  have hn2 : 0 < R.more.length → ¬ sl.ownBlock = some L.b2 := fun h0 q => by have := hR.at_.more.lt h0; have := (World.ownsRow.lt c.ls _ q).1; omega
  exact apended1_any W a k v r h w.heap.size sl l c.ls c.siz c.len R L m b s3 3 c.b c.s3 (by decide) hR.m hR.xid
theorem deed_9 (w W : World) (m a k v r : Int) (h : ByteArray) (sl : Value) (l : List ByteArray) (b s2 s3 : Nat) (R : Rc) (L : Loc) (hR : Rk w m R L) (_hh : h.size ≤ 140737488355328) (c : Cd w W m sl l b s2 s3) (hk : R.kind = 9) : Calls Tryz.prog 77 #[.agg #[.int .i64 a, .int .i64 k, .int .i64 v, .int .i64 r, .string h, sl], .agg (R.cells L)] W fun e w' => DeR W w' sl e (doesP m ⟨a, k, v, r, h, l⟩ R).1 (doesP m ⟨a, k, v, r, h, l⟩ R).2 := by
  unfold doesP
  rw [hk]
  have hl : l.length ≤ 8796093022207 := by have := c.len; omega
  have hn1 : 0 < R.slots.length → ¬ sl.ownBlock = some L.b1 := fun h0 q => by have := hR.at_.slots.lt h0; have := (World.ownsRow.lt c.ls _ q).1; omega
  have hn2 : 0 < R.more.length → ¬ sl.ownBlock = some L.b2 := fun h0 q => by have := hR.at_.more.lt h0; have := (World.ownsRow.lt c.ls _ q).1; omega
  exact (clean_any W a k v r h w.heap.size sl l c.ls c.siz R L (hR.at_.slots.more c.only) hn1).mono (fun e w' hq => hq.der (Nat.le_trans (clnL_len _ _) hl))
theorem deed_10 (w W : World) (m a k v r : Int) (h : ByteArray) (sl : Value) (l : List ByteArray) (b s2 s3 : Nat) (R : Rc) (L : Loc) (hR : Rk w m R L) (_hh : h.size ≤ 140737488355328) (c : Cd w W m sl l b s2 s3) (hk : R.kind = 10) : Calls Tryz.prog 78 #[.agg #[.int .i64 a, .int .i64 k, .int .i64 v, .int .i64 r, .string h, sl], .agg (R.cells L)] W fun e w' => DeR W w' sl e (doesP m ⟨a, k, v, r, h, l⟩ R).1 (doesP m ⟨a, k, v, r, h, l⟩ R).2 := by
  unfold doesP
  rw [hk]
  have hl : l.length ≤ 8796093022207 := by have := c.len; omega
  have hn1 : 0 < R.slots.length → ¬ sl.ownBlock = some L.b1 := fun h0 q => by have := hR.at_.slots.lt h0; have := (World.ownsRow.lt c.ls _ q).1; omega
  have hn2 : 0 < R.more.length → ¬ sl.ownBlock = some L.b2 := fun h0 q => by have := hR.at_.more.lt h0; have := (World.ownsRow.lt c.ls _ q).1; omega
  exact freeze_any W a k v r h w.heap.size sl l c.ls c.siz hl R L (hR.at_.slots.more c.only) hn1 (hR.at_.more.more c.only) hn2
theorem deed_11 (w W : World) (m a k v r : Int) (h : ByteArray) (sl : Value) (l : List ByteArray) (b s2 s3 : Nat) (R : Rc) (L : Loc) (hR : Rk w m R L) (_hh : h.size ≤ 140737488355328) (c : Cd w W m sl l b s2 s3) (hk : R.kind = 11) : Calls Tryz.prog 79 #[.agg #[.int .i64 a, .int .i64 k, .int .i64 v, .int .i64 r, .string h, sl], .agg (R.cells L), .pointer (some ⟨b, 0, none⟩)] W fun e w' => DeR W w' sl e (doesP m ⟨a, k, v, r, h, l⟩ R).1 (doesP m ⟨a, k, v, r, h, l⟩ R).2 := by
  unfold doesP
  rw [hk]
  have hl : l.length ≤ 8796093022207 := by have := c.len; omega
  have hn1 : 0 < R.slots.length → ¬ sl.ownBlock = some L.b1 := fun h0 q => by have := hR.at_.slots.lt h0; have := (World.ownsRow.lt c.ls _ q).1; omega
  have hn2 : 0 < R.more.length → ¬ sl.ownBlock = some L.b2 := fun h0 q => by have := hR.at_.more.lt h0; have := (World.ownsRow.lt c.ls _ q).1; omega
  exact apcut1_any W a k v r h w.heap.size sl l c.ls c.siz c.len R L m b c.b hR.m hR.new
theorem ld_kind {w : World} {p : Addr} {v : Value} (h : w.cell? p = some v) : (loadVar 42 p).run Tryz.prog w = .ok v w := by simp [loadVar, go_sem, h]
/-- A page as it is behind a record. -/
def Pg.at (p : Pg) (n : Int) : Pg := ⟨n, p.kind, p.level, p.right, p.high, p.items⟩
noncomputable def doneP (R : Rc) (x : Pg × Int) : Pg × Int := if x.2 = 0 then (x.1.at R.lsn, 0) else (.none, x.2)
noncomputable def doP (m : Int) (p : Pg) (page : Int) (R : Rc) : Pg × Int := match imP page R.images with
  | some q => (q.at R.lsn, 0)
  | none => if ownK R.kind = true ∧ page = R.page ∧ p.lsn < R.lsn then doneP R (doesP m p R) else (p, 0)
/-- What comes to Do. -/
structure Di (w : World) (m : Int) (p : Pg) (B cp : Nat) (ao : Option Addr) (R : Rc) (L : Loc) : Prop where
  strs : Strs w B ao p.items
  fit : Fit ao p.items.length cp
  len : p.items.length ≤ 8796093021952
  high : p.high.size ≤ 140737488355328
  rk : Rk w m R L
theorem Pag.set0 {w : World} {b : Nat} {v0 v1 v2 v3 v4 v5 : Value} (h : Pag w b v0 v1 v2 v3 v4 v5) (x : Value) : Pag (w.setCell ⟨b, 0, none⟩ x) b x v1 v2 v3 v4 v5 := by
  have oth : ∀ (j : Nat) (y : Value), 0 ≠ j → w.cell? ⟨b, j, none⟩ = some y → (w.setCell ⟨b, 0, none⟩ x).cell? ⟨b, j, none⟩ = some y := fun j y hij hx => (World.cell?_setCell_other _ _ _ _ (by intro e; injection e with _ e2; exact hij e2)).trans hx
  exact ⟨World.cell?_setCell_same _ _ _ h.c0, oth 1 _ (by omega) h.c1, oth 2 _ (by omega) h.c2, oth 3 _ (by omega) h.c3, oth 4 _ (by omega) h.c4, oth 5 _ (by omega) h.c5, by simpa using h.f0, by simpa using h.f1, by simpa using h.f2, by simpa using h.f3, by simpa using h.f4, by simpa using h.f5, by simpa using h.lt⟩
theorem BoxR.set {w W : World} {a k v r a' k' v' r' : Int} {h h' : ByteArray} {sl sl' : Value} {R : Rc} {L : Loc} (x : BoxR w W a k v r h sl R L) : BoxR w ((((((W.setCell ⟨w.heap.size, 0, none⟩ (.int .i64 a')).setCell ⟨w.heap.size, 1, none⟩ (.int .i64 k')).setCell ⟨w.heap.size, 2, none⟩ (.int .i64 v')).setCell ⟨w.heap.size, 3, none⟩ (.int .i64 r')).setCell ⟨w.heap.size, 4, none⟩ (.string h')).setCell ⟨w.heap.size, 5, none⟩ sl') a' k' v' r' h' sl' R L := by
  have h6 := Only.six W w.heap.size (.int .i64 a') (.int .i64 k') (.int .i64 v') (.int .i64 r') (.string h') sl'
  exact ⟨x.pag.six _ _ _ _ _ _, x.rc.kept h6 (by omega), x.res.kept h6 (by omega), x.only.trans h6 (fun i hi e => by omega)⟩
set_option maxRecDepth 100000 in
set_option maxHeartbeats 3200000 in
theorem do_as (w : World) (m a k v r page : Int) (h : ByteArray) (B cp : Nat) (ao : Option Addr) (l : List ByteArray) (R : Rc) (L : Loc) (hD : Di w m ⟨a, k, v, r, h, l⟩ B cp ao R L) (hno : imP page R.images = none) (hc : ¬ (ownK R.kind = true ∧ page = R.page ∧ a < R.lsn)) :
    Calls Tryz.prog 16 #[.int .i64 m, .agg #[.int .i64 a, .int .i64 k, .int .i64 v, .int .i64 r, .string h, .slice ao l.length cp], .int .i64 page, .agg (R.cells L)] w fun e w' => Res w w' e ⟨a, k, v, r, h, l⟩ 0 := by
  have HB := hide (boxR_new w a k v r h (.slice ao l.length cp) R L)
  have HIM : Hid (∀ W, Only (fun _ => False) w W → Calls Tryz.prog 38 #[.int .i64 page, .agg (R.cells L)] W fun e w' => ImQ W w' e (imP page R.images)) := fun W ho => imageOf_any W page R L (by obtain ⟨T, q⟩ := hD.rk.at_.images; exact ⟨T, q.more ho⟩)
  rw [hno] at HIM
  have HCP : Hid (∀ W, Only (fun _ => False) w W → Calls Tryz.prog 39 #[.agg #[.int .i64 a, .int .i64 k, .int .i64 v, .int .i64 r, .string h, .slice ao l.length cp]] W fun e w' => ∃ ao2 cp2, e = .returned (.agg #[.int .i64 a, .int .i64 k, .int .i64 v, .int .i64 r, .string h, .slice ao2 l.length cp2]) ∧ Ls w' W.heap.size (.slice ao2 l.length cp2) l ∧ Only (fun _ => False) W w') := fun W ho => copied_any W a k v r h B cp ao l (hD.strs.more ho)
  have HSZ := hide hD.strs.size
  have HLN := hide hD.len
  have HRK := hide hD.rk
  have HHH := hide hD.high
  clear hD hno
  have HC : Hid ((ownK R.kind = false) ∨ (ownK R.kind = true ∧ (page == R.page) = false) ∨ (ownK R.kind = true ∧ page = R.page ∧ R.lsn ≤ a)) := by
    unfold Hid
    cases h1 : ownK R.kind with
    | false => exact .inl rfl
    | true =>
      by_cases h2 : page = R.page
      · exact .inr (.inr ⟨rfl, h2, Classical.byContradiction fun h3 => hc ⟨h1, h2, by omega⟩⟩)
      · exact .inr (.inl ⟨rfl, by simpa using h2⟩)
  clear hc
  go_enter Tryz.func16, Tryz.ntmps16
  go_upto_region 1 with fail
  obtain ⟨W0, hW0⟩ : ∃ x, boxR w a k v r h (.slice ao l.length cp) R L = x := ⟨_, rfl⟩
  rw [hW0] at HB
  unfold boxR at hW0
  rw [hW0]
  clear hW0
  go_wp2_with (refine wpList_load_rc rfl (.tmp 7) rfl (w.heap.size + 1) rfl R L HB.out.rc.range ?_; go_frame)
  refine (HIM.out _ HB.out.only).mono ?_
  rintro e w1 ⟨rfl, ho1⟩
  have HB1 := hide ((HB.out.more ho1).more (onlyA w1 (.cells #[.int .i64 0, .int .i64 0, .int .i64 0, .int .i64 0, .string ⟨#[]⟩, .slice none 0 0] 30)))
  clear ho1 HB HIM
  go_upto_region 2 with fail
  obtain ⟨w2, hw2⟩ : ∃ x, w1.alloc (.cells #[.int .i64 0, .int .i64 0, .int .i64 0, .int .i64 0, .string ⟨#[]⟩, .slice none 0 0] 30) = x := ⟨_, rfl⟩
  rw [hw2] at HB1 ⊢
  clear hw2
  obtain ⟨p0, p1, p2, p3, p4, p5, _⟩ := HB1.out.pag
  go_wp2_with fail
  refine (HCP.out _ HB1.out.only).mono ?_
  rintro e w3 ⟨ao2, cp2, rfl, hl3, ho3⟩
  have HB3 := hide (HB1.out.more ho3)
  have HLT : Hid (w.heap.size + 1 + 1 < w2.heap.size ∧ ∀ j, (Value.slice ao2 l.length cp2).ownBlock = some j → w2.heap.size ≤ j) := ⟨HB1.out.res.lt, fun j hj => (World.ownsRow.lt hl3 j hj).1⟩
  have HL3 := hide hl3
  clear ho3 hl3 p0 p1 p2 p3 p4 p5 HB1 HCP
  obtain ⟨p0, p1, p2, p3, p4, p5, t0, t1, t2, t3, t4, t5, pl⟩ := HB3.out.pag
  go_upto_region 6 with fail
  have HB4 := hide (HB3.out.set (a' := a) (k' := k) (v' := v) (r' := r) (h' := h) (sl' := .slice ao2 l.length cp2))
  have HL4 := hide (HL3.out.kept (Only.six w3 w.heap.size (.int .i64 a) (.int .i64 k) (.int .i64 v) (.int .i64 r) (.string h) (.slice ao2 l.length cp2)) (fun j hj e => by have := HLT.out.1; have := HLT.out.2 j hj; omega))
  obtain ⟨w4, hw4⟩ : ∃ x, (((((w3.setCell ⟨w.heap.size, 0, none⟩ (.int .i64 a)).setCell ⟨w.heap.size, 1, none⟩ (.int .i64 k)).setCell ⟨w.heap.size, 2, none⟩ (.int .i64 v)).setCell ⟨w.heap.size, 3, none⟩ (.int .i64 r)).setCell ⟨w.heap.size, 4, none⟩ (.string h)).setCell ⟨w.heap.size, 5, none⟩ (.slice ao2 l.length cp2) = x := ⟨_, rfl⟩
  rw [hw4] at HB4 HL4 ⊢
  clear hw4 HL3 HB3 p0 p1 p2 p3 p4 p5 t0 t1 t2 t3 t4 t5 pl
  have HKD : Hid (0 ≤ R.kind ∧ R.kind ≤ 255) := HRK.out.at_.kind
  have HDS : Hid (∀ W, Calls Tryz.prog 40 #[.int .i64 m] W fun e w' => ∃ mb b s2 s3, e = .returned (.map (some mb)) ∧ Hid ((Instr.lookup 93 (.map (some mb)) (.int .u8 R.kind) true).run Tryz.prog w' = .ok (.tuple #[(fnOf b s2 s3 R.kind).getD .nilFunc, .bool (ownK R.kind)]) w') ∧ Hid (One w' b (.int .i64 m) ∧ One w' s2 (.int .u8 2) ∧ One w' s3 (.int .u8 3)) ∧ Only (fun _ => False) W w') := fun W => (deeds_any W m).mono (fun e w' hq => by
    obtain ⟨mb, b, s2, s3, rfl, hM, h1, h2, h3, ho, _⟩ := hq
    have hlk := hM.look R.kind HKD.out.1 HKD.out.2
    rw [fnOf_own] at hlk
    exact ⟨mb, b, s2, s3, rfl, hlk, ⟨h1, h2, h3⟩, ho⟩)
  clear HKD
  go_cut [12, 13] (fun d t wc => ∃ b s2 s3, d = (fnOf b s2 s3 R.kind).getD .nilFunc ∧ t = .bool (ownK R.kind) ∧ Hid (BoxR w wc a k v r h (.slice ao2 l.length cp2) R L) ∧ Hid (Ls wc w2.heap.size (.slice ao2 l.length cp2) l) ∧ Hid (One wc b (.int .i64 m) ∧ One wc s2 (.int .u8 2) ∧ One wc s3 (.int .u8 3)))
  case first =>
    refine wp_region_noPanic ?_
    refine wp_region_held_drew (S := fun W => Only (fun _ => False) w4 W) (by kernel_rfl) (Only.drew _ w4) (fun hHeld => ?_)
    refine wpAnyH_take (i := 0) (oi := { dst := some 30, op := Op.move (Operand.tmp 0), type := 3, pos := "apply.go:30", after := #[], guard := none }) (v := .int .i64 m) rfl (by kernel_rfl) (by kernel_rfl) (by kernel_rfl) (fun _ _ _ h => h) (Or.inl ⟨by rfl, fun w' hSw => by clear hSw; go_simp⟩) (by assumption) ?_
    simp only [Act.put, List.setIfInBounds_toArray, List.set_cons_zero, List.set_cons_succ]
    refine wpAnyH_take (i := 2) (oi := { dst := some 32, op := Op.fieldAddr 47 (Operand.tmp 7) 3, type := 0, pos := "apply.go:30", after := #[], guard := none }) (v := .pointer (some ⟨(w.heap.size + 1), 3, none⟩)) rfl (by kernel_rfl) (by kernel_rfl) (by kernel_rfl) (fun _ _ _ h => h) (Or.inl ⟨by rfl, fun w' hSw => by clear hSw; go_simp⟩) (by assumption) ?_
    simp only [Act.put, List.setIfInBounds_toArray, List.set_cons_zero, List.set_cons_succ]
    refine wpAnyH_take (i := 3) (oi := { dst := some 33, op := Op.load 42 (Operand.tmp 32), type := 42, pos := "apply.go:30", after := #[{ on := 2, ground := Ground.data }], guard := none }) (v := .int .u8 R.kind) rfl (by kernel_rfl) (by kernel_rfl) (by kernel_rfl) (fun _ _ _ h => h) (yieldsIf_load_cell (by rfl) 42 _ rfl _ rfl (fun W hW => (HB4.out.rc.more hW).c3) (fun W hc => ld_kind hc)) (by assumption) ?_
    simp only [Act.put, List.setIfInBounds_toArray, List.set_cons_zero, List.set_cons_succ]
    refine wpAnyH_ready (rs := [1]) (by kernel_rfl) (by simp) ?_
    refine AllReadyH.cons (o := { dst := some 31, op := Op.call { callee := Callee.value (Operand.func 40), args := #[Operand.tmp 30], argTypes := #[3] }, type := 93, pos := "apply.go:30", after := #[{ on := 0, ground := Ground.data }], guard := none }) rfl (fun K hK => ?_) (AllReadyH.nil)
    go_simp
    refine (HDS.out _).mono ?_
    rintro e x1 ⟨mb, b, s2, s3, rfl, HLK, HON, hx⟩
    have HX1 := hide (o2 (Only.drew _ w4) hx)
    clear hx
    have hlk := HLK.out
    refine hK.out _ _ (HX1.out) (fun hHeld => ?_)
    clear hK K
    try simp only [Act.put, List.setIfInBounds_toArray, List.set_cons_zero, List.set_cons_succ]
    refine wpAnyH_ready (rs := [4]) (by kernel_rfl) (by simp) ?_
    refine AllReadyH.cons (o := { dst := some 34, op := Op.lookup 93 (Operand.tmp 31) (Operand.tmp 33) true, type := 92, pos := "apply.go:30", after := #[{ on := 1, ground := Ground.data }, { on := 3, ground := Ground.data }], guard := none }) rfl (fun K hK => ?_) (AllReadyH.nil)
    go_simp
    refine hK.out _ _ (HX1.out) (fun hHeld => ?_)
    clear hK K
    try simp only [Act.put, List.setIfInBounds_toArray, List.set_cons_zero, List.set_cons_succ]
    refine wpAnyH_take (i := 5) (oi := { dst := some 29, op := Op.move (Operand.tmp 34), type := 92, pos := "apply.go:30", after := #[{ on := 4, ground := Ground.data }], guard := none }) (v := .tuple #[(fnOf b s2 s3 R.kind).getD .nilFunc, .bool (ownK R.kind)]) rfl (by kernel_rfl) (by kernel_rfl) (by kernel_rfl) (fun _ _ _ h => h) (Or.inl ⟨by rfl, fun w' hSw => by clear hSw; go_simp⟩) (by assumption) ?_
    simp only [Act.put, List.setIfInBounds_toArray, List.set_cons_zero, List.set_cons_succ]
    refine wpAnyH_take (i := 6) (oi := { dst := some 35, op := Op.extract (Operand.tmp 29) 0, type := 91, pos := "apply.go:30", after := #[{ on := 5, ground := Ground.data }], guard := none }) (v := (fnOf b s2 s3 R.kind).getD .nilFunc) rfl (by kernel_rfl) (by kernel_rfl) (by kernel_rfl) (fun _ _ _ h => h) (Or.inl ⟨by rfl, fun w' hSw => by clear hSw; go_simp⟩) (by assumption) ?_
    simp only [Act.put, List.setIfInBounds_toArray, List.set_cons_zero, List.set_cons_succ]
    refine wpAnyH_take (i := 7) (oi := { dst := some 36, op := Op.extract (Operand.tmp 29) 1, type := 4, pos := "apply.go:30", after := #[{ on := 5, ground := Ground.data }, { on := 8, ground := Ground.gcOnly Departure.lateStores }], guard := none }) (v := .bool (ownK R.kind)) rfl (by kernel_rfl) (by kernel_rfl) (by kernel_rfl) (fun _ _ _ h => h) (Or.inl ⟨by rfl, fun w' hSw => by clear hSw; go_simp⟩) (by assumption) ?_
    simp only [Act.put, List.setIfInBounds_toArray, List.set_cons_zero, List.set_cons_succ]
    refine wpAnyH_take (i := 8) (oi := { dst := some 12, op := Op.assign (Operand.tmp 35), type := 91, pos := "apply.go:30", after := #[{ on := 6, ground := Ground.data }, { on := 1, ground := Ground.chain }, { on := 0, ground := Ground.phase }, { on := 1, ground := Ground.phase }, { on := 2, ground := Ground.phase }, { on := 3, ground := Ground.phase }, { on := 4, ground := Ground.phase }, { on := 5, ground := Ground.phase }, { on := 6, ground := Ground.phase }, { on := 7, ground := Ground.textOnly Departure.lateStores }], guard := none }) (v := (fnOf b s2 s3 R.kind).getD .nilFunc) rfl (by kernel_rfl) (by kernel_rfl) (by kernel_rfl) (fun _ _ _ h => h) (Or.inl ⟨by rfl, fun w' hSw => by clear hSw; go_simp⟩) (by assumption) ?_
    simp only [Act.put, List.setIfInBounds_toArray, List.set_cons_zero, List.set_cons_succ]
    refine wpAnyH_take (i := 9) (oi := { dst := some 13, op := Op.assign (Operand.tmp 36), type := 4, pos := "apply.go:30", after := #[{ on := 7, ground := Ground.data }, { on := 8, ground := Ground.chain }, { on := 0, ground := Ground.phase }, { on := 1, ground := Ground.phase }, { on := 2, ground := Ground.phase }, { on := 3, ground := Ground.phase }, { on := 4, ground := Ground.phase }, { on := 5, ground := Ground.phase }, { on := 6, ground := Ground.phase }, { on := 7, ground := Ground.phase }, { on := 8, ground := Ground.phase }], guard := none }) (v := .bool (ownK R.kind)) rfl (by kernel_rfl) (by kernel_rfl) (by kernel_rfl) (fun _ _ _ h => h) (Or.inl ⟨by rfl, fun w' hSw => by clear hSw; go_simp⟩) (by assumption) ?_
    simp only [Act.put, List.setIfInBounds_toArray, List.set_cons_zero, List.set_cons_succ]
    refine wpAnyH_done (by kernel_rfl) ?_ _
    refine NoPanic.normal ?_
    go_wp2_with fail
    go_meet
    exact ⟨b, s2, s3, rfl, rfl, hide (HB4.out.more HX1.out), hide (HL4.out.more HX1.out), HON⟩
  case rest =>
    obtain ⟨b, s2, s3, rfl, rfl, HB5, HL5, HON⟩ := hcut
    obtain ⟨F, hF⟩ : ∃ F, (fnOf b s2 s3 R.kind).getD .nilFunc = F := ⟨_, rfl⟩
    rw [hF]
    clear hF HON HDS HB4 HL4
    have HFN : Hid (Res w ((((((wc.setCell ⟨w.heap.size + 1 + 1, 0, none⟩ (.int .i64 a)).setCell ⟨w.heap.size + 1 + 1, 1, none⟩ (.int .i64 k)).setCell ⟨w.heap.size + 1 + 1, 2, none⟩ (.int .i64 v)).setCell ⟨w.heap.size + 1 + 1, 3, none⟩ (.int .i64 r)).setCell ⟨w.heap.size + 1 + 1, 4, none⟩ (.string h)).setCell ⟨w.heap.size + 1 + 1, 5, none⟩ (.slice ao2 l.length cp2)) (.returned (.tuple #[.agg #[.int .i64 a, .int .i64 k, .int .i64 v, .int .i64 r, .string h, .slice ao2 l.length cp2], .int .i64 0])) ⟨a, k, v, r, h, l⟩ 0) := by
      have h6 := Only.six wc (w.heap.size + 1 + 1) (.int .i64 a) (.int .i64 k) (.int .i64 v) (.int .i64 r) (.string h) (.slice ao2 l.length cp2)
      obtain ⟨B6, ao6, cp6, e6, hS6, hF6, hb6, _⟩ := HL5.out.strs (by have : l.length ≤ 8796093021952 := HLN.out; omega) HSZ.out
      cases e6
      exact ⟨B6, ao2, cp2, rfl, hS6.kept h6 (fun h0 e => by have := hb6 h0; have := HLT.out.1; omega), hF6, HB5.out.only.trans h6 (fun i hi e => by omega), fun h0 => by have := hb6 h0; have := HLT.out.1; omega⟩
    have r5 := HB5.out.rc.c5
    have r0 := HB5.out.rc.c0
    obtain ⟨p0, p1, p2, p3, p4, p5, _⟩ := HB5.out.pag
    obtain ⟨q0, q1, q2, q3, q4, q5, g0, g1, g2, g3, g4, g5, ql⟩ := HB5.out.res
    rcases HC.out with h1 | ⟨h1, h2⟩ | ⟨h1, h2, h3⟩
    · rw [h1]
      clear h1 HC
      go_wp2_with fail
      refine bodyPost_ret (results_page rfl rfl (Pag.six HB5.out.res _ _ _ _ _ _)) rfl ?_
      exact HFN.out
    · rw [h1]
      have h2n : ¬ page = R.page := by simpa using h2
      clear h1 HC
      go_wp2_with fail
      refine bodyPost_ret (results_page rfl rfl (Pag.six HB5.out.res _ _ _ _ _ _)) rfl ?_
      exact HFN.out
    · rw [h1]
      rw [← h2] at r5
      have h4 : ¬ a < R.lsn := by omega
      clear h1 h2 HC
      go_wp2_with fail
      refine bodyPost_ret (results_page rfl rfl (Pag.six HB5.out.res _ _ _ _ _ _)) rfl ?_
      exact HFN.out
set_option maxRecDepth 100000 in
set_option maxHeartbeats 3200000 in
theorem do_img (w : World) (m a k v r page : Int) (h : ByteArray) (cp : Nat) (ao : Option Addr) (n : Nat) (R : Rc) (L : Loc) (hR : RcAt w R L) (q : Pg) (hq : imP page R.images = some q) :
    Calls Tryz.prog 16 #[.int .i64 m, .agg #[.int .i64 a, .int .i64 k, .int .i64 v, .int .i64 r, .string h, .slice ao n cp], .int .i64 page, .agg (R.cells L)] w fun e w' => Res w w' e (q.at R.lsn) 0 := by
  have HB := hide (boxR_new w a k v r h (.slice ao n cp) R L)
  have HIM : Hid (∀ W, Only (fun _ => False) w W → Calls Tryz.prog 38 #[.int .i64 page, .agg (R.cells L)] W fun e w' => ImQ W w' e (imP page R.images)) := fun W ho => imageOf_any W page R L (by obtain ⟨T, q⟩ := hR.images; exact ⟨T, q.more ho⟩)
  rw [hq] at HIM
  clear hR hq
  go_enter Tryz.func16, Tryz.ntmps16
  go_upto_region 1 with fail
  obtain ⟨W0, hW0⟩ : ∃ x, boxR w a k v r h (.slice ao n cp) R L = x := ⟨_, rfl⟩
  rw [hW0] at HB
  unfold boxR at hW0
  rw [hW0]
  clear hW0
  go_wp2_with (refine wpList_load_rc rfl (.tmp 7) rfl (w.heap.size + 1) rfl R L HB.out.rc.range ?_; go_frame)
  refine (HIM.out _ HB.out.only).mono ?_
  rintro e w1 ⟨ao2, cp2, rfl, hl1, hs1, hn1, ho1⟩
  have HLT : Hid (w.heap.size + 1 + 1 < W0.heap.size ∧ ∀ j, (Value.slice ao2 q.items.length cp2).ownBlock = some j → W0.heap.size ≤ j ∧ j < w1.heap.size) := ⟨HB.out.res.lt, fun j hj => World.ownsRow.lt hl1 j hj⟩
  have HW1 : Hid (W0.heap.size ≤ w1.heap.size) := ho1.size
  have HA := hide (onlyA w1 (.cells #[.int .i64 q.lsn, .int .i64 q.kind, .int .i64 q.level, .int .i64 q.right, .string q.high, .slice ao2 q.items.length cp2] 30))
  have HP := hide (Pag.new w1 (.int .i64 q.lsn) (.int .i64 q.kind) (.int .i64 q.level) (.int .i64 q.right) (.string q.high) (.slice ao2 q.items.length cp2))
  have HB1 := hide ((HB.out.more ho1).more HA.out)
  have HL1 := hide (hl1.more HA.out)
  have HS1 := hide hs1
  have HN1 := hide hn1
  clear ho1 hl1 hs1 hn1 HB HIM HA
  go_upto_region 2 with fail
  obtain ⟨b, hb⟩ : ∃ b, w1.heap.size = b := ⟨_, rfl⟩
  rw [hb] at HP HLT HW1 ⊢
  clear hb
  obtain ⟨w2, hw2⟩ : ∃ x, w1.alloc (.cells #[.int .i64 q.lsn, .int .i64 q.kind, .int .i64 q.level, .int .i64 q.right, .string q.high, .slice ao2 q.items.length cp2] 30) = x := ⟨_, rfl⟩
  rw [hw2] at HP HB1 HL1 ⊢
  clear hw2
  obtain ⟨c0, c1, c2, c3, c4, c5, f0, f1, f2, f3, f4, f5, _⟩ := HP.out
  have r0 := HB1.out.rc.c0
  go_upto_region 4 with fail
  have hs0 := Only.setCell (S := fun j => j = b) w2 ⟨b, 0, none⟩ (.int .i64 R.lsn) rfl
  have HP2 := hide (HP.out.set0 (.int .i64 R.lsn))
  have HQ2 := hide (HB1.out.res.kept hs0 (by have := HLT.out.1; have := HW1.out; omega))
  have HL2 := hide (HL1.out.kept hs0 (fun j hj e => by have := (HLT.out.2 j hj).2; omega))
  have HO2 : Hid (Only (fun _ => False) w (w2.setCell ⟨b, 0, none⟩ (.int .i64 R.lsn))) := HB1.out.only.trans hs0 (fun i hi e => by have := HLT.out.1; have := HW1.out; omega)
  obtain ⟨w3, hw3⟩ : ∃ x, w2.setCell ⟨b, 0, none⟩ (.int .i64 R.lsn) = x := ⟨_, rfl⟩
  rw [hw3] at HP2 HQ2 HL2 HO2 ⊢
  clear hw3 hs0 c0 c1 c2 c3 c4 c5 f0 f1 f2 f3 f4 f5 r0 HP HB1 HL1
  obtain ⟨c0, c1, c2, c3, c4, c5, _⟩ := HP2.out
  obtain ⟨q0, q1, q2, q3, q4, q5, g0, g1, g2, g3, g4, g5, ql⟩ := HQ2.out
  go_wp2_with fail
  refine bodyPost_ret (results_page rfl rfl (Pag.six HQ2.out _ _ _ _ _ _)) rfl ?_
  have h6 := Only.six w3 (w.heap.size + 1 + 1) (.int .i64 R.lsn) (.int .i64 q.kind) (.int .i64 q.level) (.int .i64 q.right) (.string q.high) (.slice ao2 q.items.length cp2)
  obtain ⟨B6, ao6, cp6, e6, hS6, hF6, hb6, _⟩ := HL2.out.strs HN1.out HS1.out
  cases e6
  exact ⟨B6, ao2, cp2, rfl, hS6.kept h6 (fun h0 e => by have := hb6 h0; have := HLT.out.1; omega), hF6, HO2.out.trans h6 (fun i hi e => by omega), fun h0 => by have := hb6 h0; have := HLT.out.1; omega⟩
end Go.Proofs.YtpnbhddmdfcjdaaGreat
