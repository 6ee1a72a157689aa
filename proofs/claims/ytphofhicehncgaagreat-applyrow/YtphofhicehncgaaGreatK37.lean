/- What apply's enter and leave do, and the closures that deeds lays. -/
import Derived.Test.YtphofhicehncgaaGreatK16
import Derived.Test.YtphofhicehncgaaGreatK34
import Derived.Test.YtphofhicehncgaaGreatK36
namespace Go.Proofs.YtphofhicehncgaaGreat
open Go.RowKit

/-- What an EntryOut makes of a page. -/
def lvP (p : Pg) (R : Rc) : Pg × Int := match decE (bl R.data) with
  | none => (.none, 140)
  | some e => nRem p e
/-- What an EntryIn makes of a page. -/
def enP (p : Pg) (R : Rc) : Pg × Int := if p.level = 0 then match decE (bl R.data) with
    | none => (.none, 140)
    | some e => nIns p e
  else match decS (bl R.data) with
    | none => (.none, 140)
    | some ec => nPos p ec.1 ec.2
set_option maxRecDepth 100000 in
set_option maxHeartbeats 3200000 in
theorem apleave_any (w : World) (a k v r : Int) (h : ByteArray) (base : Nat) (sl : Value) (l : List ByteArray) (hL : Ls w base sl l) (hsz : ∀ s ∈ l, s.size ≤ 140737488355328) (hln : l.length ≤ 8796093021952) (R : Rc) (L : Loc) :
    Calls Tryz.prog 22 #[.agg #[.int .i64 a, .int .i64 k, .int .i64 v, .int .i64 r, .string h, sl], .agg (R.cells L)] w fun e w' => DeR w w' sl e (lvP ⟨a, k, v, r, h, l⟩ R).1 (lvP ⟨a, k, v, r, h, l⟩ R).2 := by
  have HB := hide (boxR_new w a k v r h sl R L)
  have HOW : Hid (∀ j, sl.ownBlock = some j → j < w.heap.size) := fun j hj => (World.ownsRow.lt hL j hj).2
  unfold lvP
  cases hdc : decE (bl R.data) with
  | none =>
    dsimp only
    have HD : Hid (∀ W, Calls Tryz.prog 42 #[.string R.data] W fun e w' => e = .returned (.tuple #[.agg #[.string ⟨#[]⟩, .int .i64 0, .int .i64 0], .int .i64 140]) ∧ Only (fun _ => False) W w') := fun W => by
      have := decode_any R.data W
      rw [hdc] at this
      exact this
    go_enter Tryz.func22, Tryz.ntmps22
    go_upto_region 1 with fail
    obtain ⟨W0, hW0⟩ : ∃ x, boxR w a k v r h sl R L = x := ⟨_, rfl⟩
    rw [hW0] at HB
    unfold boxR at hW0
    rw [hW0]
    clear hW0
    have r10 := HB.out.rc.c10
    have p2 := HB.out.pag.c2
    go_wp2_with fail
    refine (HD.out _).mono ?_
    rintro x w1 ⟨rfl, ho⟩
    have HB2 := hide ((HB.out.more ho).more (onlyA w1 (.cells #[.string ⟨#[]⟩, .int .i64 0, .int .i64 0] 83)))
    clear ho r10 p2 HB HD
    go_upto_region 2 with fail
    obtain ⟨w2, hw2⟩ : ∃ x, w1.alloc (.cells #[.string ⟨#[]⟩, .int .i64 0, .int .i64 0] 83) = x := ⟨_, rfl⟩
    rw [hw2] at HB2 ⊢
    clear hw2
    obtain ⟨q0, q1, q2, q3, q4, q5, g0, g1, g2, g3, g4, g5, ql⟩ := HB2.out.res
    go_wp2_with fail
    refine bodyPost_ret (results_page rfl rfl (Pag.six HB2.out.res _ _ _ _ _ _)) rfl ?_
    exact deR_none _ 140 (((HB2.out.only.mono (fun _ _ h => h.elim)).trans (Only.six _ (w.heap.size + 1 + 1) _ _ _ _ _ _) (fun i hi e => by omega)))
  | some e =>
    dsimp only
    have HD : Hid (∀ W, Calls Tryz.prog 42 #[.string R.data] W fun x w' => x = .returned (.tuple #[.agg #[.string e.key, .int .i64 e.page, .int .i64 e.slot], .int .i64 0]) ∧ Only (fun _ => False) W w') := fun W => by
      have := decode_any R.data W
      rw [hdc] at this
      exact this
    obtain ⟨B, ao, cp, hsl, hS, hF, _, _⟩ := hL.strs (by omega) hsz
    have HRM : Hid (∀ W, Only (fun _ => False) w W → Calls Tryz.prog 46 #[.agg #[.int .i64 a, .int .i64 k, .int .i64 v, .int .i64 r, .string h, .slice ao l.length cp], .agg #[.string e.key, .int .i64 e.page, .int .i64 e.slot]] W fun x w' => DeR W w' sl x (nRem ⟨a, k, v, r, h, l⟩ e).1 (nRem ⟨a, k, v, r, h, l⟩ e).2) := fun W ho => (mremove_any W a k v r h e B cp ao l (hS.more ho) hF hln).mono (fun x w' hq => DeR.res sl hq)
    obtain ⟨P, hP⟩ : ∃ P, (nRem ⟨a, k, v, r, h, l⟩ e) = P := ⟨_, rfl⟩
    rw [hP] at HRM ⊢
    clear hP hdc hS hF hL hsz hln
    subst hsl
    go_enter Tryz.func22, Tryz.ntmps22
    go_upto_region 1 with fail
    obtain ⟨W0, hW0⟩ : ∃ x, boxR w a k v r h (.slice ao l.length cp) R L = x := ⟨_, rfl⟩
    rw [hW0] at HB
    unfold boxR at hW0
    rw [hW0]
    clear hW0
    have r10 := HB.out.rc.c10
    have p2 := HB.out.pag.c2
    go_wp2_with fail
    refine (HD.out _).mono ?_
    rintro x w1 ⟨rfl, ho⟩
    have HB2 := hide ((HB.out.more ho).more (onlyA w1 (.cells #[.string e.key, .int .i64 e.page, .int .i64 e.slot] 83)))
    have HE2 := hide (Ev.new w1 e)
    clear ho r10 p2 HB HD
    go_upto_region 2 with fail
    obtain ⟨eb, heb⟩ : ∃ b, w1.heap.size = b := ⟨_, rfl⟩
    rw [heb] at HE2 ⊢
    clear heb
    obtain ⟨w2, hw2⟩ : ∃ x, w1.alloc (.cells #[.string e.key, .int .i64 e.page, .int .i64 e.slot] 83) = x := ⟨_, rfl⟩
    rw [hw2] at HB2 HE2 ⊢
    clear hw2
    obtain ⟨p0, p1, p2, p3, p4, p5, _⟩ := HB2.out.pag
    obtain ⟨d0, d1, d2, _⟩ := HE2.out
    go_wp2_with fail
    refine (HRM.out _ HB2.out.only).mono ?_
    clear p0 p1 p2 p3 p4 p5 d0 d1 d2
    rintro e w9 hd
    have HD := hide hd
    obtain ⟨B3, ao3, cp3, rfl, _, _, ho3, _⟩ := hd
    have HQ := hide (HB2.out.res.kept ho3 (fun q => by have := HOW.out _ q; omega))
    obtain ⟨q0, q1, q2, q3, q4, q5, g0, g1, g2, g3, g4, g5, ql⟩ := HQ.out
    have hlt := HB2.out.res.lt
    clear ho3
    go_wp2_with fail
    refine bodyPost_ret (results_page rfl rfl (Pag.six HQ.out _ _ _ _ _ _)) rfl ?_
    exact deR_six HB2.out.only HD.out HOW.out _ (by omega) hlt _ _ _ _ _ _
set_option maxRecDepth 100000 in
set_option maxHeartbeats 3200000 in
theorem apenter_any (w : World) (a k v r : Int) (h : ByteArray) (base : Nat) (sl : Value) (l : List ByteArray) (hL : Ls w base sl l) (hsz : ∀ s ∈ l, s.size ≤ 140737488355328) (hln : l.length ≤ 8796093021952) (R : Rc) (L : Loc) :
    Calls Tryz.prog 21 #[.agg #[.int .i64 a, .int .i64 k, .int .i64 v, .int .i64 r, .string h, sl], .agg (R.cells L)] w fun e w' => DeR w w' sl e (enP ⟨a, k, v, r, h, l⟩ R).1 (enP ⟨a, k, v, r, h, l⟩ R).2 := by
  have HB := hide (boxR_new w a k v r h sl R L)
  have HOW : Hid (∀ j, sl.ownBlock = some j → j < w.heap.size) := fun j hj => (World.ownsRow.lt hL j hj).2
  unfold enP
  dsimp only
  by_cases hv : v = 0
  · subst hv
    rw [if_pos rfl]
    cases hdc : decE (bl R.data) with
    | none =>
      dsimp only
      have HD : Hid (∀ W, Calls Tryz.prog 42 #[.string R.data] W fun e w' => e = .returned (.tuple #[.agg #[.string ⟨#[]⟩, .int .i64 0, .int .i64 0], .int .i64 140]) ∧ Only (fun _ => False) W w') := fun W => by
        have := decode_any R.data W
        rw [hdc] at this
        exact this
      go_enter Tryz.func21, Tryz.ntmps21
      go_upto_region 1 with fail
      obtain ⟨W0, hW0⟩ : ∃ x, boxR w a k 0 r h sl R L = x := ⟨_, rfl⟩
      rw [hW0] at HB
      unfold boxR at hW0
      rw [hW0]
      clear hW0
      have r10 := HB.out.rc.c10
      have p2 := HB.out.pag.c2
      go_wp2_with fail
      refine (HD.out _).mono ?_
      rintro x w1 ⟨rfl, ho⟩
      have HB2 := hide ((HB.out.more ho).more (onlyA w1 (.cells #[.string ⟨#[]⟩, .int .i64 0, .int .i64 0] 83)))
      clear ho r10 p2 HB HD
      go_upto_region 3 with fail
      obtain ⟨w2, hw2⟩ : ∃ x, w1.alloc (.cells #[.string ⟨#[]⟩, .int .i64 0, .int .i64 0] 83) = x := ⟨_, rfl⟩
      rw [hw2] at HB2 ⊢
      clear hw2
      obtain ⟨q0, q1, q2, q3, q4, q5, g0, g1, g2, g3, g4, g5, ql⟩ := HB2.out.res
      go_wp2_with fail
      refine bodyPost_ret (results_page rfl rfl (Pag.six HB2.out.res _ _ _ _ _ _)) rfl ?_
      exact deR_none _ 140 (((HB2.out.only.mono (fun _ _ h => h.elim)).trans (Only.six _ (w.heap.size + 1 + 1) _ _ _ _ _ _) (fun i hi e => by omega)))
    | some e =>
      dsimp only
      have HD : Hid (∀ W, Calls Tryz.prog 42 #[.string R.data] W fun x w' => x = .returned (.tuple #[.agg #[.string e.key, .int .i64 e.page, .int .i64 e.slot], .int .i64 0]) ∧ Only (fun _ => False) W w') := fun W => by
        have := decode_any R.data W
        rw [hdc] at this
        exact this
      obtain ⟨B, ao, cp, hsl, hS, hF, _, _⟩ := hL.strs (by omega) hsz
      have HRM : Hid (∀ W, Only (fun _ => False) w W → Calls Tryz.prog 43 #[.agg #[.int .i64 a, .int .i64 k, .int .i64 0, .int .i64 r, .string h, .slice ao l.length cp], .agg #[.string e.key, .int .i64 e.page, .int .i64 e.slot]] W fun x w' => DeR W w' sl x (nIns ⟨a, k, 0, r, h, l⟩ e).1 (nIns ⟨a, k, 0, r, h, l⟩ e).2) := fun W ho => (minsert_any W a k 0 r h e B cp ao l (hS.more ho) hF hln).mono (fun x w' hq => DeR.res sl hq)
      obtain ⟨P, hP⟩ : ∃ P, (nIns ⟨a, k, 0, r, h, l⟩ e) = P := ⟨_, rfl⟩
      rw [hP] at HRM ⊢
      clear hP hdc hS hF hL hsz hln
      subst hsl
      go_enter Tryz.func21, Tryz.ntmps21
      go_upto_region 1 with fail
      obtain ⟨W0, hW0⟩ : ∃ x, boxR w a k 0 r h (.slice ao l.length cp) R L = x := ⟨_, rfl⟩
      rw [hW0] at HB
      unfold boxR at hW0
      rw [hW0]
      clear hW0
      have r10 := HB.out.rc.c10
      have p2 := HB.out.pag.c2
      go_wp2_with fail
      refine (HD.out _).mono ?_
      rintro x w1 ⟨rfl, ho⟩
      have HB2 := hide ((HB.out.more ho).more (onlyA w1 (.cells #[.string e.key, .int .i64 e.page, .int .i64 e.slot] 83)))
      have HE2 := hide (Ev.new w1 e)
      clear ho r10 p2 HB HD
      go_upto_region 3 with fail
      obtain ⟨eb, heb⟩ : ∃ b, w1.heap.size = b := ⟨_, rfl⟩
      rw [heb] at HE2 ⊢
      clear heb
      obtain ⟨w2, hw2⟩ : ∃ x, w1.alloc (.cells #[.string e.key, .int .i64 e.page, .int .i64 e.slot] 83) = x := ⟨_, rfl⟩
      rw [hw2] at HB2 HE2 ⊢
      clear hw2
      obtain ⟨p0, p1, p2, p3, p4, p5, _⟩ := HB2.out.pag
      obtain ⟨d0, d1, d2, _⟩ := HE2.out
      go_wp2_with fail
      refine (HRM.out _ HB2.out.only).mono ?_
      clear p0 p1 p2 p3 p4 p5 d0 d1 d2
      rintro e w9 hd
      have HD := hide hd
      obtain ⟨B3, ao3, cp3, rfl, _, _, ho3, _⟩ := hd
      have HQ := hide (HB2.out.res.kept ho3 (fun q => by have := HOW.out _ q; omega))
      obtain ⟨q0, q1, q2, q3, q4, q5, g0, g1, g2, g3, g4, g5, ql⟩ := HQ.out
      have hlt := HB2.out.res.lt
      clear ho3
      go_wp2_with fail
      refine bodyPost_ret (results_page rfl rfl (Pag.six HQ.out _ _ _ _ _ _)) rfl ?_
      exact deR_six HB2.out.only HD.out HOW.out _ (by omega) hlt _ _ _ _ _ _
  · rw [if_neg hv]
    have hvb : (v == 0) = false := by simpa using hv
    clear hv
    cases hdc : decS (bl R.data) with
    | none =>
      dsimp only
      have HD : Hid (∀ W, Calls Tryz.prog 44 #[.string R.data] W fun e w' => e = .returned (.tuple #[.agg #[.string ⟨#[]⟩, .int .i64 0, .int .i64 0], .int .i64 0, .int .i64 140]) ∧ Only (fun _ => False) W w') := fun W => by
        have := unsep_any R.data W
        rw [hdc] at this
        exact this
      go_enter Tryz.func21, Tryz.ntmps21
      go_upto_region 1 with fail
      obtain ⟨W0, hW0⟩ : ∃ x, boxR w a k v r h sl R L = x := ⟨_, rfl⟩
      rw [hW0] at HB
      unfold boxR at hW0
      rw [hW0]
      clear hW0
      have r10 := HB.out.rc.c10
      have p2 := HB.out.pag.c2
      go_wp2_with fail
      refine (HD.out _).mono ?_
      rintro x w1 ⟨rfl, ho⟩
      have HB2 := hide ((HB.out.more ho).more (onlyA w1 (.cells #[.string ⟨#[]⟩, .int .i64 0, .int .i64 0] 83)))
      clear ho r10 p2 HB HD
      go_upto_region 7 with fail
      obtain ⟨w2, hw2⟩ : ∃ x, w1.alloc (.cells #[.string ⟨#[]⟩, .int .i64 0, .int .i64 0] 83) = x := ⟨_, rfl⟩
      rw [hw2] at HB2 ⊢
      clear hw2
      obtain ⟨q0, q1, q2, q3, q4, q5, g0, g1, g2, g3, g4, g5, ql⟩ := HB2.out.res
      go_wp2_with fail
      refine bodyPost_ret (results_page rfl rfl (Pag.six HB2.out.res _ _ _ _ _ _)) rfl ?_
      exact deR_none _ 140 (((HB2.out.only.mono (fun _ _ h => h.elim)).trans (Only.six _ (w.heap.size + 1 + 1) _ _ _ _ _ _) (fun i hi e => by omega)))
    | some ec =>
      obtain ⟨e, c⟩ := ec
      dsimp only
      have HD : Hid (∀ W, Calls Tryz.prog 44 #[.string R.data] W fun x w' => x = .returned (.tuple #[.agg #[.string e.key, .int .i64 e.page, .int .i64 e.slot], .int .i64 c, .int .i64 0]) ∧ Only (fun _ => False) W w') := fun W => by
        have := unsep_any R.data W
        rw [hdc] at this
        exact this
      obtain ⟨B, ao, cp, hsl, hS, hF, _, _⟩ := hL.strs (by omega) hsz
      have HRM : Hid (∀ W, Only (fun _ => False) w W → Calls Tryz.prog 45 #[.agg #[.int .i64 a, .int .i64 k, .int .i64 v, .int .i64 r, .string h, .slice ao l.length cp], .agg #[.string e.key, .int .i64 e.page, .int .i64 e.slot], .int .i64 c] W fun x w' => DeR W w' sl x (nPos ⟨a, k, v, r, h, l⟩ e c).1 (nPos ⟨a, k, v, r, h, l⟩ e c).2) := fun W ho => (mpost_any W a k v r h e c B cp ao l (hS.more ho) hF hln).mono (fun x w' hq => DeR.res sl hq)
      obtain ⟨P, hP⟩ : ∃ P, (nPos ⟨a, k, v, r, h, l⟩ e c) = P := ⟨_, rfl⟩
      rw [hP] at HRM ⊢
      clear hP hdc hS hF hL hsz hln
      subst hsl
      go_enter Tryz.func21, Tryz.ntmps21
      go_upto_region 1 with fail
      obtain ⟨W0, hW0⟩ : ∃ x, boxR w a k v r h (.slice ao l.length cp) R L = x := ⟨_, rfl⟩
      rw [hW0] at HB
      unfold boxR at hW0
      rw [hW0]
      clear hW0
      have r10 := HB.out.rc.c10
      have p2 := HB.out.pag.c2
      go_wp2_with fail
      refine (HD.out _).mono ?_
      rintro x w1 ⟨rfl, ho⟩
      have HB2 := hide ((HB.out.more ho).more (onlyA w1 (.cells #[.string e.key, .int .i64 e.page, .int .i64 e.slot] 83)))
      have HE2 := hide (Ev.new w1 e)
      clear ho r10 p2 HB HD
      go_upto_region 7 with fail
      obtain ⟨eb, heb⟩ : ∃ b, w1.heap.size = b := ⟨_, rfl⟩
      rw [heb] at HE2 ⊢
      clear heb
      obtain ⟨w2, hw2⟩ : ∃ x, w1.alloc (.cells #[.string e.key, .int .i64 e.page, .int .i64 e.slot] 83) = x := ⟨_, rfl⟩
      rw [hw2] at HB2 HE2 ⊢
      clear hw2
      obtain ⟨p0, p1, p2, p3, p4, p5, _⟩ := HB2.out.pag
      obtain ⟨d0, d1, d2, _⟩ := HE2.out
      go_wp2_with fail
      refine (HRM.out _ HB2.out.only).mono ?_
      clear p0 p1 p2 p3 p4 p5 d0 d1 d2
      rintro e w9 hd
      have HD := hide hd
      obtain ⟨B3, ao3, cp3, rfl, _, _, ho3, _⟩ := hd
      have HQ := hide (HB2.out.res.kept ho3 (fun q => by have := HOW.out _ q; omega))
      obtain ⟨q0, q1, q2, q3, q4, q5, g0, g1, g2, g3, g4, g5, ql⟩ := HQ.out
      have hlt := HB2.out.res.lt
      clear ho3
      go_wp2_with fail
      refine bodyPost_ret (results_page rfl rfl (Pag.six HQ.out _ _ _ _ _ _)) rfl ?_
      exact deR_six HB2.out.only HD.out HOW.out _ (by omega) hlt _ _ _ _ _ _
set_option maxRecDepth 100000 in
set_option maxHeartbeats 3200000 in
theorem apended1_any (w : World) (a k v r : Int) (h : ByteArray) (base : Nat) (sl : Value) (l : List ByteArray) (hL : Ls w base sl l) (hsz : ∀ s ∈ l, s.size ≤ 140737488355328) (hln : l.length ≤ 8796093021952) (R : Rc) (L : Loc) (m : Int) (b sb s : Nat) (hb : One w b (.int .i64 m)) (hs : One w sb (.int .u8 (s : Int))) (hs4 : s < 256) (hm : I64 m) (hx : I64 R.xid) :
    Calls Tryz.prog 16 #[.agg #[.int .i64 a, .int .i64 k, .int .i64 v, .int .i64 r, .string h, sl], .agg (R.cells L), .pointer (some ⟨b, 0, none⟩), .pointer (some ⟨sb, 0, none⟩)] w fun e w' => DeR w w' sl e (setR m ⟨a, k, v, r, h, l⟩ R.xid s) (setC m ⟨a, k, v, r, h, l⟩ R.xid s) := by
  have HB := hide (boxR_new w a k v r h sl R L)
  have HOW : Hid (∀ j, sl.ownBlock = some j → j < w.heap.size) := fun j hj => (World.ownsRow.lt hL j hj).2
  obtain ⟨B, ao, cp, hsl, hS, hF, _, _⟩ := hL.strs (by omega) hsz
  have HRM : Hid (∀ W, Only (fun _ => False) w W → Calls Tryz.prog 17 #[.int .i64 m, .agg #[.int .i64 a, .int .i64 k, .int .i64 v, .int .i64 r, .string h, .slice ao l.length cp], .int .i64 R.xid, .int .u8 (s : Int)] W fun x w' => DeR W w' sl x (setR m ⟨a, k, v, r, h, l⟩ R.xid s) (setC m ⟨a, k, v, r, h, l⟩ R.xid s)) := fun W ho => (cset_any W m a k v r R.xid h cp B ao l s hm hx (hS.more ho) hs4).mono (fun x w' hq => DeR.res sl hq)
  obtain ⟨P, hP⟩ : ∃ P, (setR m ⟨a, k, v, r, h, l⟩ R.xid s) = P := ⟨_, rfl⟩
  obtain ⟨C, hC⟩ : ∃ C, (setC m ⟨a, k, v, r, h, l⟩ R.xid s) = C := ⟨_, rfl⟩
  rw [hP, hC] at HRM ⊢
  clear hP hC hS hF hL hsz hln hm hx
  subst hsl
  go_enter Tryz.func16, Tryz.ntmps16
  go_upto_region 1 with fail
  obtain ⟨W0, hW0⟩ : ∃ x, boxR w a k v r h (.slice ao l.length cp) R L = x := ⟨_, rfl⟩
  rw [hW0] at HB
  unfold boxR at hW0
  rw [hW0]
  clear hW0
  obtain ⟨p0, p1, p2, p3, p4, p5, _⟩ := HB.out.pag
  have r4 := HB.out.rc.c4
  have d1 := (hb.more HB.out.only).c
  have d2 := (hs.more HB.out.only).c
  go_wp2_with fail
  refine (HRM.out _ HB.out.only).mono ?_
  clear p0 p1 p2 p3 p4 p5
  rintro e w9 hd
  have HD := hide hd
  obtain ⟨B3, ao3, cp3, rfl, _, _, ho3, _⟩ := hd
  have HQ := hide (HB.out.res.kept ho3 (fun q => by have := HOW.out _ q; omega))
  obtain ⟨q0, q1, q2, q3, q4, q5, g0, g1, g2, g3, g4, g5, ql⟩ := HQ.out
  have hlt := HB.out.res.lt
  clear ho3
  go_wp2_with fail
  refine bodyPost_ret (results_page rfl rfl (Pag.six HQ.out _ _ _ _ _ _)) rfl ?_
  exact deR_six HB.out.only HD.out HOW.out _ (by omega) hlt _ _ _ _ _ _
set_option maxRecDepth 100000 in
set_option maxHeartbeats 3200000 in
theorem apcut1_any (w : World) (a k v r : Int) (h : ByteArray) (base : Nat) (sl : Value) (l : List ByteArray) (hL : Ls w base sl l) (hsz : ∀ s ∈ l, s.size ≤ 140737488355328) (hln : l.length ≤ 8796093021952) (R : Rc) (L : Loc) (m : Int) (b : Nat) (hb : One w b (.int .i64 m)) (hm : I64 m) (hx : I64 R.new) :
    Calls Tryz.prog 25 #[.agg #[.int .i64 a, .int .i64 k, .int .i64 v, .int .i64 r, .string h, sl], .agg (R.cells L), .pointer (some ⟨b, 0, none⟩)] w fun e w' => DeR w w' sl e (cutR m ⟨a, k, v, r, h, l⟩ R.new) (cid m ⟨a, k, v, r, h, l⟩ R.new) := by
  have HB := hide (boxR_new w a k v r h sl R L)
  have HOW : Hid (∀ j, sl.ownBlock = some j → j < w.heap.size) := fun j hj => (World.ownsRow.lt hL j hj).2
  obtain ⟨B, ao, cp, hsl, hS, hF, _, _⟩ := hL.strs (by omega) hsz
  have HRM : Hid (∀ W, Only (fun _ => False) w W → Calls Tryz.prog 26 #[.int .i64 m, .agg #[.int .i64 a, .int .i64 k, .int .i64 v, .int .i64 r, .string h, .slice ao l.length cp], .int .i64 R.new] W fun x w' => DeR W w' sl x (cutR m ⟨a, k, v, r, h, l⟩ R.new) (cid m ⟨a, k, v, r, h, l⟩ R.new)) := fun W ho => (ccut_any W m a k v r R.new h cp B ao l hm hx (hS.more ho)).mono (fun x w' hq => DeR.res sl hq)
  obtain ⟨P, hP⟩ : ∃ P, (cutR m ⟨a, k, v, r, h, l⟩ R.new) = P := ⟨_, rfl⟩
  obtain ⟨C, hC⟩ : ∃ C, (cid m ⟨a, k, v, r, h, l⟩ R.new) = C := ⟨_, rfl⟩
  rw [hP, hC] at HRM ⊢
  clear hP hC hS hF hL hsz hln hm hx
  subst hsl
  go_enter Tryz.func25, Tryz.ntmps25
  go_upto_region 1 with fail
  obtain ⟨W0, hW0⟩ : ∃ x, boxR w a k v r h (.slice ao l.length cp) R L = x := ⟨_, rfl⟩
  rw [hW0] at HB
  unfold boxR at hW0
  rw [hW0]
  clear hW0
  obtain ⟨p0, p1, p2, p3, p4, p5, _⟩ := HB.out.pag
  have r8 := HB.out.rc.c8
  have d1 := (hb.more HB.out.only).c
  go_wp2_with fail
  refine (HRM.out _ HB.out.only).mono ?_
  clear p0 p1 p2 p3 p4 p5
  rintro e w9 hd
  have HD := hide hd
  obtain ⟨B3, ao3, cp3, rfl, _, _, ho3, _⟩ := hd
  have HQ := hide (HB.out.res.kept ho3 (fun q => by have := HOW.out _ q; omega))
  obtain ⟨q0, q1, q2, q3, q4, q5, g0, g1, g2, g3, g4, g5, ql⟩ := HQ.out
  have hlt := HB.out.res.lt
  clear ho3
  go_wp2_with fail
  refine bodyPost_ret (results_page rfl rfl (Pag.six HQ.out _ _ _ _ _ _)) rfl ?_
  exact deR_six HB.out.only HD.out HOW.out _ (by omega) hlt _ _ _ _ _ _
end Go.Proofs.YtphofhicehncgaaGreat
