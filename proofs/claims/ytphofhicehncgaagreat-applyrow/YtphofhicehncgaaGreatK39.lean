/- What a record does to a page, as plain data; each deed by its kind. -/
import Derived.Test.YtphofhicehncgaaGreatK16
import Derived.Test.YtphofhicehncgaaGreatK30
import Derived.Test.YtphofhicehncgaaGreatK37
import Derived.Test.YtphofhicehncgaaGreatK38
namespace Go.Proofs.YtphofhicehncgaaGreat
open Go.RowKit

set_option maxRecDepth 100000 in
set_option maxHeartbeats 1600000 in
theorem copied_any (w : World) (a k v r : Int) (h : ByteArray) (B cp : Nat) (ao : Option Addr) (l : List ByteArray) (hS : Strs w B ao l) :
    Calls Tryz.prog 8 #[.agg #[.int .i64 a, .int .i64 k, .int .i64 v, .int .i64 r, .string h, .slice ao l.length cp]] w fun e w' => ∃ ao2 cp2, e = .returned (.agg #[.int .i64 a, .int .i64 k, .int .i64 v, .int .i64 r, .string h, .slice ao2 l.length cp2]) ∧ Ls w' w.heap.size (.slice ao2 l.length cp2) l ∧ Only (fun _ => False) w w' := by
  have HB1 := hide (boxes_one w a k v r h (.slice ao l.length cp))
  have HB2 := hide (boxes_two w a k v r h (.slice ao l.length cp))
  have HO := hide (boxes_only w a k v r h (.slice ao l.length cp))
  have HCL : Hid (∀ W, Only (fun _ => False) w W → Calls Tryz.prog 14 #[.slice ao l.length cp] W fun e w' => ∃ ao2 cp2, e = .returned (.slice ao2 l.length cp2) ∧ Ls w' W.heap.size (.slice ao2 l.length cp2) l ∧ Only (fun _ => False) W w') := fun W ho => by
    refine (clone_any W B cp ao l (hS.more ho)).mono ?_
    rintro e w' ⟨v2, rfl, hl2, ho2⟩
    obtain ⟨B2, ao2, cp2, rfl, _⟩ := hl2.strs hS.len hS.size
    exact ⟨ao2, cp2, rfl, hl2, ho2⟩
  clear hS
  go_enter Tryz.func8, Tryz.ntmps8
  go_upto_region 1 with fail
  obtain ⟨W0, hW0⟩ : ∃ x, boxes w a k v r h (.slice ao l.length cp) = x := ⟨_, rfl⟩
  rw [hW0] at HB1 HB2 HO
  unfold boxes at hW0
  rw [hW0]
  clear hW0
  have p5 := HB1.out.c5
  go_wp2_with fail
  refine (HCL.out _ HO.out).mono ?_
  rintro e w1 ⟨ao2, cp2, rfl, hl1, ho1⟩
  have hz0 := HO.out.size
  have hz1 := HB2.out.lt
  have HP1 := hide (HB1.out.more ho1)
  have HQ1 := hide (HB2.out.more ho1)
  have HO1 := hide (o2 HO.out ho1)
  have HP2 := hide (HP1.out.set5 (.slice ao2 l.length cp2))
  have hs5 := Only.setCell (S := fun j => j = w.heap.size) w1 ⟨w.heap.size, 5, none⟩ (.slice ao2 l.length cp2) rfl
  have HQ2 := hide (HQ1.out.kept hs5 (by omega))
  have HO2 := hide (HO1.out.trans hs5 (fun i hi e => by omega))
  have hown : ∀ j, (Value.slice ao2 l.length cp2).ownBlock = some j → W0.heap.size ≤ j := fun j hj => (World.ownsRow.lt hl1 j hj).1
  have HL2 := hide (hl1.kept hs5 (fun j hj e => by have := hown j hj; omega))
  have HOW := hide hown
  have HZ1 := hide hz1
  clear p5 hl1 ho1 hs5 hown HCL hz0 hz1
  obtain ⟨c0, c1, c2, c3, c4, c5, f0, f1, f2, f3, f4, f5, _⟩ := HP1.out
  go_upto_region 2 with fail
  obtain ⟨w2, hw2⟩ : ∃ x, w1.setCell ⟨w.heap.size, 5, none⟩ (.slice ao2 l.length cp2) = x := ⟨_, rfl⟩
  rw [hw2] at HP2 HQ2 HO2 HL2 ⊢
  clear hw2 c0 c1 c2 c3 c4 c5 f0 f1 f2 f3 f4 f5 HP1 HQ1 HO1
  obtain ⟨c0, c1, c2, c3, c4, c5, _⟩ := HP2.out
  obtain ⟨q0, q1, q2, q3, q4, q5, g0, g1, g2, g3, g4, g5, ql⟩ := HQ2.out
  go_wp2_with fail
  refine bodyPost_ret (results_page1 rfl rfl (Pag.six HQ2.out _ _ _ _ _ _)) rfl ?_
  have h6 := Only.six w2 (w.heap.size + 1) (.int .i64 a) (.int .i64 k) (.int .i64 v) (.int .i64 r) (.string h) (.slice ao2 l.length cp2)
  refine ⟨ao2, cp2, rfl, ?_, HO2.out.trans h6 (fun i hi e => by omega)⟩
  have hl3 := HL2.out.kept h6 (fun j hj e => by have := HOW.out j hj; have := HZ1.out; omega)
  obtain ⟨e1, e2⟩ := hl3
  refine ⟨e1, e2.imp id ?_⟩
  rintro ⟨g, cap, cur, hv, hg, hh⟩
  exact ⟨g, cap, cur, hv, Nat.le_trans HO.out.size hg, hh⟩
/-- The first image of a page. -/
def imP (page : Int) : List Im → Option Pg
  | [] => none
  | i :: t => if i.page = page then some i.body else imP page t
/-- What imageOf answers. -/
def ImQ (w w' : World) (e : Ending) (o : Option Pg) : Prop := match o with
  | some p => ∃ ao cp, e = .returned (.tuple #[.agg #[.int .i64 p.lsn, .int .i64 p.kind, .int .i64 p.level, .int .i64 p.right, .string p.high, .slice ao p.items.length cp], .bool true]) ∧ Ls w' w.heap.size (.slice ao p.items.length cp) p.items ∧ (∀ s ∈ p.items, s.size ≤ 140737488355328) ∧ p.items.length ≤ 8796093022207 ∧ Only (fun _ => False) w w'
  | none => e = .returned (.tuple #[.agg #[.int .i64 0, .int .i64 0, .int .i64 0, .int .i64 0, .string ⟨#[]⟩, .slice none 0 0], .bool false]) ∧ Only (fun _ => False) w w'
/-- The variables of imageOf: the record and the page that is answered. -/
structure Iv (w W : World) (R : Rc) (L : Loc) : Prop where
  rc : Bx W w.heap.size R L
  res : Pag W (w.heap.size + 1) (.int .i64 0) (.int .i64 0) (.int .i64 0) (.int .i64 0) (.string ⟨#[]⟩) (.slice none 0 0)
  only : Only (fun _ => False) w W
theorem Iv.more {w W W' : World} {R : Rc} {L : Loc} (x : Iv w W R L) (ho : Only (fun _ => False) W W') : Iv w W' R L := ⟨x.rc.more ho, x.res.more ho, o2 x.only ho⟩
theorem iv_new (w : World) (R : Rc) (L : Loc) : Iv w ((w.alloc (.cells (R.cells L) 34)).alloc (.cells #[.int .i64 0, .int .i64 0, .int .i64 0, .int .i64 0, .string ⟨#[]⟩, .slice none 0 0] 25)) R L := by
  have e3 := Pag.new (w.alloc (.cells (R.cells L) 34)) (.int .i64 0) (.int .i64 0) (.int .i64 0) (.int .i64 0) (.string ⟨#[]⟩) (.slice none 0 0)
  rw [World.size_alloc] at e3
  exact ⟨(Bx.new w R L).more (onlyA _ _), e3, o2 (onlyA _ _) (onlyA _ _)⟩
/-- An image in a variable of its own. -/
structure Ib (w : World) (b : Nat) (i : Im) (ao : Option Addr) (cp : Nat) : Prop where
  c0 : w.cell? ⟨b, 0, none⟩ = some (.int .i64 i.page)
  c1 : w.cell? ⟨b, 1, none⟩ = some (.int .i64 i.body.lsn)
  c2 : w.cell? ⟨b, 2, none⟩ = some (.int .i64 i.body.kind)
  c3 : w.cell? ⟨b, 3, none⟩ = some (.int .i64 i.body.level)
  c4 : w.cell? ⟨b, 4, none⟩ = some (.int .i64 i.body.right)
  c5 : w.cell? ⟨b, 5, none⟩ = some (.string i.body.high)
  c6 : w.cell? ⟨b, 6, none⟩ = some (.slice ao i.body.items.length cp)
theorem ib_new (w : World) (i : Im) (ao : Option Addr) (cp : Nat) : Ib (w.alloc (.cells #[.int .i64 i.page, .int .i64 i.body.lsn, .int .i64 i.body.kind, .int .i64 i.body.level, .int .i64 i.body.right, .string i.body.high, .slice ao i.body.items.length cp] 40)) w.heap.size i ao cp :=
  ⟨by simp, by simp, by simp, by simp, by simp, by simp, by simp⟩
set_option maxRecDepth 100000 in
set_option maxHeartbeats 3200000 in
theorem imageOf_any (w : World) (page : Int) (R : Rc) (L : Loc) (hI : ∃ T, Ims w T L.b3 L.a3 R.images) :
    Calls Tryz.prog 7 #[.int .i64 page, .agg (R.cells L)] w fun e w' => ImQ w w' e (imP page R.images) := by
  obtain ⟨T, hI⟩ := hI
  have HI := hide hI
  have hil := hI.len
  have HV0 := hide (iv_new w R L)
  obtain ⟨X, hX⟩ : ∃ X, imP page R.images = X := ⟨_, rfl⟩
  rw [hX]
  have HX := hide hX
  clear hX hI
  go_enter Tryz.func7, Tryz.ntmps7
  go_upto_region 1 with fail
  obtain ⟨W0, hW0⟩ : ∃ x, (w.alloc (.cells (R.cells L) 34)).alloc (.cells #[.int .i64 0, .int .i64 0, .int .i64 0, .int .i64 0, .string ⟨#[]⟩, .slice none 0 0] 25) = x := ⟨_, rfl⟩
  rw [hW0] at HV0 ⊢
  clear hW0
  have r13 := HV0.out.rc.c13
  go_wp2_with fail
  clear r13
  go_loopw [11] (fun i wr => ∃ (j : Nat), j ≤ R.images.length ∧ i = .int .i64 (j : Int) ∧ Hid (Iv w wr R L) ∧ Hid (imP page (R.images.drop j) = X)) (fun i _ => R.images.length - (intOf i).toNat)
  case atStart => exact ⟨0, Nat.zero_le _, rfl, HV0, HX⟩
  case round =>
    clear HV0 HX
    obtain ⟨j, hj, rfl, HV, HX⟩ := hrel
    by_cases hlt : j < R.images.length
    · obtain ⟨zo, hza, hc⟩ := (HI.out.more HV.out.only).at_ (by omega)
      obtain ⟨D, ia, ic, him, _⟩ := hc j hlt
      have hlk : (j : Int) < (R.images.length : Int) := by omega
      rw [List.drop_eq_getElem_cons hlt, imP] at HX
      obtain ⟨i, hi⟩ : ∃ i, R.images[j] = i := ⟨_, rfl⟩
      rw [hi] at him HX
      have HIS : Hid (∀ W, Only (fun _ => False) wr W → Strs W D ia i.body.items) := fun W ho => him.strs.more ho
      obtain ⟨d0, d1, d2, d3, d4, d5, d6, _⟩ := him
      have hjo : zo + j * 7 = zo + j * 7 := rfl
      clear hc hi
      rw [hza]
      have HA := hide (onlyA wr (.cells #[.int .i64 i.page, .int .i64 i.body.lsn, .int .i64 i.body.kind, .int .i64 i.body.level, .int .i64 i.body.right, .string i.body.high, .slice ia i.body.items.length ic] 40))
      have HB := hide (ib_new wr i ia ic)
      have HV1 := hide (HV.out.more HA.out)
      go_upto_region 4 with fail
      obtain ⟨b, hb⟩ : ∃ b, wr.heap.size = b := ⟨_, rfl⟩
      rw [hb] at HB ⊢
      clear hb
      obtain ⟨W1, hW1⟩ : ∃ x, wr.alloc (.cells #[.int .i64 i.page, .int .i64 i.body.lsn, .int .i64 i.body.kind, .int .i64 i.body.level, .int .i64 i.body.right, .string i.body.high, .slice ia i.body.items.length ic] 40) = x := ⟨_, rfl⟩
      rw [hW1] at HA HB HV1 ⊢
      clear hW1 d0 d1 d2 d3 d4 d5 d6 HV
      obtain ⟨e0, e1, e2, e3, e4, e5, e6⟩ := HB.out
      by_cases hp : i.page = page
      · rw [if_pos hp] at HX
        have HP := hide hp
        rw [hp] at e0
        clear hp
        go_wp2_with fail
        refine (copied_any W1 i.body.lsn i.body.kind i.body.level i.body.right i.body.high D ic ia i.body.items (HIS.out _ HA.out)).mono ?_
        rintro e w2 ⟨ao2, cp2, rfl, hl2, ho2⟩
        have HV2 := hide (HV1.out.more ho2)
        have HL2 := hide hl2
        have HZ : Hid (W1.heap.size ≤ w2.heap.size ∧ w.heap.size + 1 < W1.heap.size) := ⟨ho2.size, HV1.out.res.lt⟩
        clear e0 e1 e2 e3 e4 e5 e6 hl2 ho2
        obtain ⟨q0, q1, q2, q3, q4, q5, g0, g1, g2, g3, g4, g5, ql⟩ := HV2.out.res
        go_wp2_with fail
        refine bodyPost_ret (results_page rfl rfl (Pag.six HV2.out.res _ _ _ _ _ _)) rfl ?_
        rw [← HX.out]
        have h6 := Only.six w2 (w.heap.size + 1) (.int .i64 i.body.lsn) (.int .i64 i.body.kind) (.int .i64 i.body.level) (.int .i64 i.body.right) (.string i.body.high) (.slice ao2 i.body.items.length cp2)
        have hl3 := HL2.out.kept h6 (fun j hj e => by have := (World.ownsRow.lt HL2.out j hj).1; have := HZ.out; omega)
        refine ⟨ao2, cp2, rfl, ?_, (HIS.out _ (Only.refl _ _)).size, (HIS.out _ (Only.refl _ _)).len, HV2.out.only.trans h6 (fun i hi e => by omega)⟩
        obtain ⟨e1, e2⟩ := hl3
        refine ⟨e1, e2.imp id ?_⟩
        rintro ⟨g, cap, cur, hv, hg, hh⟩
        exact ⟨g, cap, cur, hv, by have := HZ.out; omega, hh⟩
      · have hpb : (i.page == page) = false := by simpa using hp
        rw [if_neg hp] at HX
        clear hp
        go_wp2_with fail
        clear e0 e1 e2 e3 e4 e5 e6 HB
        go_roundw
        case rel => exact ⟨j + 1, by omega, by go_num, HV1, HX⟩
        case measure => simp [intOf]; omega
    · have hlk : ¬ (j : Int) < (R.images.length : Int) := by omega
      rw [List.drop_of_length_le (by omega), imP] at HX
      obtain ⟨q0, q1, q2, q3, q4, q5, g0, g1, g2, g3, g4, g5, ql⟩ := HV.out.res
      go_wp2_with fail
      refine bodyPost_ret (results_page rfl rfl (Pag.six HV.out.res _ _ _ _ _ _)) rfl ?_
      rw [← HX.out]
      exact ⟨rfl, HV.out.only.trans (Only.six _ (w.heap.size + 1) _ _ _ _ _ _) (fun i hi e => by omega)⟩
end Go.Proofs.YtphofhicehncgaaGreat

namespace Go.Proofs.YtphofhicehncgaaGreat
open Go.RowKit

/-- What a record's kind does to its page. -/
noncomputable def doesP (m : Int) (p : Pg) (R : Rc) : Pg × Int :=
  if R.kind = 11 then (cutR m p R.new, cid m p R.new)
  else if R.kind = 10 then (p.chg (frzL R p.items), (frzL R p.items).2)
  else if R.kind = 9 then (p.chg (clnL R.slots p.items), (clnL R.slots p.items).2)
  else if R.kind = 8 then (setR m p R.xid 3, setC m p R.xid 3)
  else if R.kind = 7 then (setR m p R.xid 2, setC m p R.xid 2)
  else if R.kind = 4 then lvP p R
  else if R.kind = 3 then enP p R
  else if R.kind = 6 then (p.chg (undL R p.items), (undL R p.items).2)
  else if R.kind = 2 then (p.chg (chgL (cgE R.old R.new) [R.slot] p.items), (chgL (cgE R.old R.new) [R.slot] p.items).2)
  else insP p R
/-- Whether a record of a kind changes its page. -/
def ownK (k : Int) : Bool := decide (k = 1 ∨ k = 2 ∨ k = 3 ∨ k = 4 ∨ k = 6 ∨ k = 7 ∨ k = 8 ∨ k = 9 ∨ k = 10 ∨ k = 11)
theorem fnOf_own (b s2 s3 : Nat) (k : Int) : (fnOf b s2 s3 k).isSome = ownK k := by
  unfold fnOf ownK
  by_cases h11 : k = 11
  · simp [h11]
  by_cases h10 : k = 10
  · simp [h10]
  by_cases h9 : k = 9
  · simp [h9]
  by_cases h8 : k = 8
  · simp [h8]
  by_cases h7 : k = 7
  · simp [h7]
  by_cases h4 : k = 4
  · simp [h4]
  by_cases h3 : k = 3
  · simp [h3]
  by_cases h6 : k = 6
  · simp [h6]
  by_cases h2 : k = 2
  · simp [h2]
  by_cases h1 : k = 1
  · simp [h1]
  simp [h1, h2, h3, h4, h6, h7, h8, h9, h10, h11]
/-- What is known of a record and of numbers that come with it. -/
structure Rk (w : World) (m : Int) (R : Rc) (L : Loc) : Prop where
  at_ : RcAt w R L
  m : I64 m
  xid : I64 R.xid
  new : I64 R.new
/-- What is there when a deed is called: the page's list, a copy of its own; the variables that closures captured. -/
structure Cd (w W : World) (m : Int) (sl : Value) (l : List ByteArray) (b s2 s3 : Nat) : Prop where
  only : Only (fun _ => False) w W
  ls : Ls W w.heap.size sl l
  siz : ∀ s ∈ l, s.size ≤ 140737488355328
  len : l.length ≤ 8796093021952
  b : One W b (.int .i64 m)
  s2 : One W s2 (.int .u8 2)
  s3 : One W s3 (.int .u8 3)
theorem deed_1 (w W : World) (m a k v r : Int) (h : ByteArray) (sl : Value) (l : List ByteArray) (b s2 s3 : Nat) (R : Rc) (L : Loc) (hR : Rk w m R L) (hh : h.size ≤ 140737488355328) (c : Cd w W m sl l b s2 s3) (hk : R.kind = 1) : Calls Tryz.prog 18 #[.agg #[.int .i64 a, .int .i64 k, .int .i64 v, .int .i64 r, .string h, sl], .agg (R.cells L)] W fun e w' => DeR W w' sl e (doesP m ⟨a, k, v, r, h, l⟩ R).1 (doesP m ⟨a, k, v, r, h, l⟩ R).2 := by
  unfold doesP
  rw [hk]
  have hl : l.length ≤ 8796093022207 := by have := c.len; omega
  have hn1 : 0 < R.slots.length → ¬ sl.ownBlock = some L.b1 := fun h0 q => by have := hR.at_.slots.lt h0; have := (World.ownsRow.lt c.ls _ q).1; omega
  have hn2 : 0 < R.more.length → ¬ sl.ownBlock = some L.b2 := fun h0 q => by have := hR.at_.more.lt h0; have := (World.ownsRow.lt c.ls _ q).1; omega
  exact apinsert_any W a k v r h w.heap.size sl l c.ls c.siz c.len hh R L hR.at_.data
theorem deed_2 (w W : World) (m a k v r : Int) (h : ByteArray) (sl : Value) (l : List ByteArray) (b s2 s3 : Nat) (R : Rc) (L : Loc) (hR : Rk w m R L) (_hh : h.size ≤ 140737488355328) (c : Cd w W m sl l b s2 s3) (hk : R.kind = 2) : Calls Tryz.prog 19 #[.agg #[.int .i64 a, .int .i64 k, .int .i64 v, .int .i64 r, .string h, sl], .agg (R.cells L)] W fun e w' => DeR W w' sl e (doesP m ⟨a, k, v, r, h, l⟩ R).1 (doesP m ⟨a, k, v, r, h, l⟩ R).2 := by
  unfold doesP
  rw [hk]
  have hl : l.length ≤ 8796093022207 := by have := c.len; omega
  have hn1 : 0 < R.slots.length → ¬ sl.ownBlock = some L.b1 := fun h0 q => by have := hR.at_.slots.lt h0; have := (World.ownsRow.lt c.ls _ q).1; omega
  have hn2 : 0 < R.more.length → ¬ sl.ownBlock = some L.b2 := fun h0 q => by have := hR.at_.more.lt h0; have := (World.ownsRow.lt c.ls _ q).1; omega
  exact mark_any W a k v r h w.heap.size sl l c.ls c.siz hl R L hR.new
theorem deed_3 (w W : World) (m a k v r : Int) (h : ByteArray) (sl : Value) (l : List ByteArray) (b s2 s3 : Nat) (R : Rc) (L : Loc) (hR : Rk w m R L) (_hh : h.size ≤ 140737488355328) (c : Cd w W m sl l b s2 s3) (hk : R.kind = 3) : Calls Tryz.prog 21 #[.agg #[.int .i64 a, .int .i64 k, .int .i64 v, .int .i64 r, .string h, sl], .agg (R.cells L)] W fun e w' => DeR W w' sl e (doesP m ⟨a, k, v, r, h, l⟩ R).1 (doesP m ⟨a, k, v, r, h, l⟩ R).2 := by
  unfold doesP
  rw [hk]
  have hl : l.length ≤ 8796093022207 := by have := c.len; omega
  have hn1 : 0 < R.slots.length → ¬ sl.ownBlock = some L.b1 := fun h0 q => by have := hR.at_.slots.lt h0; have := (World.ownsRow.lt c.ls _ q).1; omega
  have hn2 : 0 < R.more.length → ¬ sl.ownBlock = some L.b2 := fun h0 q => by have := hR.at_.more.lt h0; have := (World.ownsRow.lt c.ls _ q).1; omega
  exact apenter_any W a k v r h w.heap.size sl l c.ls c.siz c.len R L
theorem deed_4 (w W : World) (m a k v r : Int) (h : ByteArray) (sl : Value) (l : List ByteArray) (b s2 s3 : Nat) (R : Rc) (L : Loc) (hR : Rk w m R L) (_hh : h.size ≤ 140737488355328) (c : Cd w W m sl l b s2 s3) (hk : R.kind = 4) : Calls Tryz.prog 22 #[.agg #[.int .i64 a, .int .i64 k, .int .i64 v, .int .i64 r, .string h, sl], .agg (R.cells L)] W fun e w' => DeR W w' sl e (doesP m ⟨a, k, v, r, h, l⟩ R).1 (doesP m ⟨a, k, v, r, h, l⟩ R).2 := by
  unfold doesP
  rw [hk]
  have hl : l.length ≤ 8796093022207 := by have := c.len; omega
  have hn1 : 0 < R.slots.length → ¬ sl.ownBlock = some L.b1 := fun h0 q => by have := hR.at_.slots.lt h0; have := (World.ownsRow.lt c.ls _ q).1; omega
  have hn2 : 0 < R.more.length → ¬ sl.ownBlock = some L.b2 := fun h0 q => by have := hR.at_.more.lt h0; have := (World.ownsRow.lt c.ls _ q).1; omega
  exact apleave_any W a k v r h w.heap.size sl l c.ls c.siz c.len R L
theorem deed_6 (w W : World) (m a k v r : Int) (h : ByteArray) (sl : Value) (l : List ByteArray) (b s2 s3 : Nat) (R : Rc) (L : Loc) (hR : Rk w m R L) (_hh : h.size ≤ 140737488355328) (c : Cd w W m sl l b s2 s3) (hk : R.kind = 6) : Calls Tryz.prog 20 #[.agg #[.int .i64 a, .int .i64 k, .int .i64 v, .int .i64 r, .string h, sl], .agg (R.cells L)] W fun e w' => DeR W w' sl e (doesP m ⟨a, k, v, r, h, l⟩ R).1 (doesP m ⟨a, k, v, r, h, l⟩ R).2 := by
  unfold doesP
  rw [hk]
  have hl : l.length ≤ 8796093022207 := by have := c.len; omega
  have hn1 : 0 < R.slots.length → ¬ sl.ownBlock = some L.b1 := fun h0 q => by have := hR.at_.slots.lt h0; have := (World.ownsRow.lt c.ls _ q).1; omega
  have hn2 : 0 < R.more.length → ¬ sl.ownBlock = some L.b2 := fun h0 q => by have := hR.at_.more.lt h0; have := (World.ownsRow.lt c.ls _ q).1; omega
  exact undo_any W a k v r h w.heap.size sl l c.ls c.siz hl R L hR.new
theorem deed_7 (w W : World) (m a k v r : Int) (h : ByteArray) (sl : Value) (l : List ByteArray) (b s2 s3 : Nat) (R : Rc) (L : Loc) (hR : Rk w m R L) (_hh : h.size ≤ 140737488355328) (c : Cd w W m sl l b s2 s3) (hk : R.kind = 7) : Calls Tryz.prog 16 #[.agg #[.int .i64 a, .int .i64 k, .int .i64 v, .int .i64 r, .string h, sl], .agg (R.cells L), .pointer (some ⟨b, 0, none⟩), .pointer (some ⟨s2, 0, none⟩)] W fun e w' => DeR W w' sl e (doesP m ⟨a, k, v, r, h, l⟩ R).1 (doesP m ⟨a, k, v, r, h, l⟩ R).2 := by
  unfold doesP
  rw [hk]
  have hl : l.length ≤ 8796093022207 := by have := c.len; omega
  have hn1 : 0 < R.slots.length → ¬ sl.ownBlock = some L.b1 := fun h0 q => by have := hR.at_.slots.lt h0; have := (World.ownsRow.lt c.ls _ q).1; omega
  have hn2 : 0 < R.more.length → ¬ sl.ownBlock = some L.b2 := fun h0 q => by have := hR.at_.more.lt h0; have := (World.ownsRow.lt c.ls _ q).1; omega
  exact apended1_any W a k v r h w.heap.size sl l c.ls c.siz c.len R L m b s2 2 c.b c.s2 (by decide) hR.m hR.xid
theorem deed_8 (w W : World) (m a k v r : Int) (h : ByteArray) (sl : Value) (l : List ByteArray) (b s2 s3 : Nat) (R : Rc) (L : Loc) (hR : Rk w m R L) (_hh : h.size ≤ 140737488355328) (c : Cd w W m sl l b s2 s3) (hk : R.kind = 8) : Calls Tryz.prog 16 #[.agg #[.int .i64 a, .int .i64 k, .int .i64 v, .int .i64 r, .string h, sl], .agg (R.cells L), .pointer (some ⟨b, 0, none⟩), .pointer (some ⟨s3, 0, none⟩)] W fun e w' => DeR W w' sl e (doesP m ⟨a, k, v, r, h, l⟩ R).1 (doesP m ⟨a, k, v, r, h, l⟩ R).2 := by
  unfold doesP
  rw [hk]
  have hl : l.length ≤ 8796093022207 := by have := c.len; omega
  have hn1 : 0 < R.slots.length → ¬ sl.ownBlock = some L.b1 := fun h0 q => by have := hR.at_.slots.lt h0; have := (World.ownsRow.lt c.ls _ q).1; omega
  have hn2 : 0 < R.more.length → ¬ sl.ownBlock = some L.b2 := fun h0 q => by have := hR.at_.more.lt h0; have := (World.ownsRow.lt c.ls _ q).1; omega
  exact apended1_any W a k v r h w.heap.size sl l c.ls c.siz c.len R L m b s3 3 c.b c.s3 (by decide) hR.m hR.xid
theorem deed_9 (w W : World) (m a k v r : Int) (h : ByteArray) (sl : Value) (l : List ByteArray) (b s2 s3 : Nat) (R : Rc) (L : Loc) (hR : Rk w m R L) (_hh : h.size ≤ 140737488355328) (c : Cd w W m sl l b s2 s3) (hk : R.kind = 9) : Calls Tryz.prog 23 #[.agg #[.int .i64 a, .int .i64 k, .int .i64 v, .int .i64 r, .string h, sl], .agg (R.cells L)] W fun e w' => DeR W w' sl e (doesP m ⟨a, k, v, r, h, l⟩ R).1 (doesP m ⟨a, k, v, r, h, l⟩ R).2 := by
  unfold doesP
  rw [hk]
  have hl : l.length ≤ 8796093022207 := by have := c.len; omega
  have hn1 : 0 < R.slots.length → ¬ sl.ownBlock = some L.b1 := fun h0 q => by have := hR.at_.slots.lt h0; have := (World.ownsRow.lt c.ls _ q).1; omega
  have hn2 : 0 < R.more.length → ¬ sl.ownBlock = some L.b2 := fun h0 q => by have := hR.at_.more.lt h0; have := (World.ownsRow.lt c.ls _ q).1; omega
  exact (clean_any W a k v r h w.heap.size sl l c.ls c.siz R L (hR.at_.slots.more c.only) hn1).mono (fun e w' hq => hq.der (Nat.le_trans (clnL_len _ _) hl))
theorem deed_10 (w W : World) (m a k v r : Int) (h : ByteArray) (sl : Value) (l : List ByteArray) (b s2 s3 : Nat) (R : Rc) (L : Loc) (hR : Rk w m R L) (_hh : h.size ≤ 140737488355328) (c : Cd w W m sl l b s2 s3) (hk : R.kind = 10) : Calls Tryz.prog 24 #[.agg #[.int .i64 a, .int .i64 k, .int .i64 v, .int .i64 r, .string h, sl], .agg (R.cells L)] W fun e w' => DeR W w' sl e (doesP m ⟨a, k, v, r, h, l⟩ R).1 (doesP m ⟨a, k, v, r, h, l⟩ R).2 := by
  unfold doesP
  rw [hk]
  have hl : l.length ≤ 8796093022207 := by have := c.len; omega
  have hn1 : 0 < R.slots.length → ¬ sl.ownBlock = some L.b1 := fun h0 q => by have := hR.at_.slots.lt h0; have := (World.ownsRow.lt c.ls _ q).1; omega
  have hn2 : 0 < R.more.length → ¬ sl.ownBlock = some L.b2 := fun h0 q => by have := hR.at_.more.lt h0; have := (World.ownsRow.lt c.ls _ q).1; omega
  exact freeze_any W a k v r h w.heap.size sl l c.ls c.siz hl R L (hR.at_.slots.more c.only) hn1 (hR.at_.more.more c.only) hn2
theorem deed_11 (w W : World) (m a k v r : Int) (h : ByteArray) (sl : Value) (l : List ByteArray) (b s2 s3 : Nat) (R : Rc) (L : Loc) (hR : Rk w m R L) (_hh : h.size ≤ 140737488355328) (c : Cd w W m sl l b s2 s3) (hk : R.kind = 11) : Calls Tryz.prog 25 #[.agg #[.int .i64 a, .int .i64 k, .int .i64 v, .int .i64 r, .string h, sl], .agg (R.cells L), .pointer (some ⟨b, 0, none⟩)] W fun e w' => DeR W w' sl e (doesP m ⟨a, k, v, r, h, l⟩ R).1 (doesP m ⟨a, k, v, r, h, l⟩ R).2 := by
  unfold doesP
  rw [hk]
  have hl : l.length ≤ 8796093022207 := by have := c.len; omega
  have hn1 : 0 < R.slots.length → ¬ sl.ownBlock = some L.b1 := fun h0 q => by have := hR.at_.slots.lt h0; have := (World.ownsRow.lt c.ls _ q).1; omega
  have hn2 : 0 < R.more.length → ¬ sl.ownBlock = some L.b2 := fun h0 q => by have := hR.at_.more.lt h0; have := (World.ownsRow.lt c.ls _ q).1; omega
  exact apcut1_any W a k v r h w.heap.size sl l c.ls c.siz c.len R L m b c.b hR.m hR.new
end Go.Proofs.YtphofhicehncgaaGreat
