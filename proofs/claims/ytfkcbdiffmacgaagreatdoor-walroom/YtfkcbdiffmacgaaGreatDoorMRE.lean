/- Lists of records and of acts with a record that came in, opened. -/
import Derived.Test.YtfkcbdiffmacgaaGreatDoorMWD
import Derived.Test.YtfkcbdiffmacgaaGreatDoorMWB
import Derived.Test.YtfkcbdiffmacgaaGreatDoorMWC
import Derived.Test.YtfkcbdiffmacgaaGreatDoorPCat
import Derived.ProofKit
import Derived.OpenShut
import Derived.ShutString
import Derived.SizedLaws
import Derived.Deep.Strs
import Derived.Test.YtfkcbdiffmacgaaGreatDoorCards
import Derived.Test.YtfkcbdiffmacgaaGreatDoorTie
import Derived.Deep.DeepHandedRow
import Derived.Lib.LaidTab
import Derived.Test.YtfkcbdiffmacgaaGreatDoorRRec
import Derived.Deep.Draws
import Derived.Deep.Grids
namespace Go.Proofs.YtfkcbdiffmacgaaGreatDoor
open Go.RowKit

/-- A disk at work: what its sectors are told by. -/
structure Dk.Wk (D : Dk) (n : Nat) (f : Nat → List UInt8) : Prop where
  dead : D.dead = false
  armed : D.armed = 0
  len : D.old.length = n
  cur : ∀ k, k < n → D.cur k = f k
theorem Dk.Wk.new (n : Nat) : (Dk.new n).Wk n (fun _ => List.replicate 64 0) := by
  refine ⟨rfl, rfl, by simp [Dk.new], fun k hk => ?_⟩
  unfold Dk.cur Dk.new
  simp [List.getD_eq_getElem?_getD, hk]
theorem Dk.Wk.put {D : Dk} {n : Nat} {f : Nat → List UInt8} (h : D.Wk n f) (k : Nat) (b : List UInt8) : ((D.put k b).act).Wk n (fun j => if j = k then b else f j) := by
  refine ⟨?_, ?_, h.len, fun j hj => ?_⟩
  · show (if D.armed = 0 then D.dead else _) = false
    rw [if_pos h.armed]
    exact h.dead
  · show (if D.armed = 0 then 0 else _) = (0 : Int)
    rw [if_pos h.armed]
  · have hc := h.cur j hj
    unfold Dk.cur at hc ⊢
    show ((if j = k then some b else D.fresh j).getD (D.old.getD j [])) = _
    by_cases e : j = k
    · rw [if_pos e, if_pos e]
      rfl
    · rw [if_neg e, if_neg e]
      exact hc
theorem Dk.Wk.writes {D : Dk} {n : Nat} {f : Nat → List UInt8} (cs : List (List UInt8)) (k : Nat) (h : D.Wk n f) : (D.writes k cs).2 = 0 ∧ (D.writes k cs).1.Wk n (fun j => if k ≤ j ∧ j < k + cs.length then cs.getD (j - k) [] else f j) := by
  induction cs generalizing D f k with
  | nil =>
    refine ⟨rfl, ?_⟩
    have e : (fun j => if k ≤ j ∧ j < k + ([] : List (List UInt8)).length then ([] : List (List UInt8)).getD (j - k) [] else f j) = f := by
      funext j
      rw [if_neg (by simp)]
    rw [e]
    exact h
  | cons b r ih =>
    have hw : D.writes k (b :: r) = Dk.writes (D.put k b).act (k + 1) r := by
      rw [Dk.writes, if_neg (by rw [h.armed]; omega)]
    rw [hw]
    obtain ⟨h1, h2⟩ := ih (k + 1) (h.put k b)
    refine ⟨h1, ?_⟩
    have e : (fun j => if k + 1 ≤ j ∧ j < k + 1 + r.length then r.getD (j - (k + 1)) [] else if j = k then b else f j) = (fun j => if k ≤ j ∧ j < k + (b :: r).length then (b :: r).getD (j - k) [] else f j) := by
      funext j
      by_cases hj : j = k
      · subst hj
        rw [if_neg (by omega), if_pos rfl, if_pos (by simp), Nat.sub_self]
        rfl
      · rw [if_neg hj]
        by_cases hr : k + 1 ≤ j ∧ j < k + 1 + r.length
        · rw [if_pos hr, if_pos (by rw [List.length_cons]; omega), show j - k = (j - (k + 1)) + 1 by omega, List.getD_cons_succ]
        · rw [if_neg hr, if_neg (by rw [List.length_cons]; omega)]
    rw [← e]
    exact h2
theorem Dk.Wk.sync {D : Dk} {n : Nat} {f : Nat → List UInt8} (h : D.Wk n f) : D.sync.2 = 0 ∧ D.sync.1.Wk n f := by
  have e : D.sync = (D.act.synced, 0) := by
    unfold Dk.sync
    rw [h.dead, h.armed]
    rfl
  rw [e]
  refine ⟨rfl, ?_, ?_, ?_, fun k hk => ?_⟩
  · show (if D.armed = 0 then D.dead else _) = false
    rw [if_pos h.armed]
    exact h.dead
  · show (if D.armed = 0 then 0 else _) = (0 : Int)
    rw [if_pos h.armed]
  · show ((List.range D.old.length).map _).length = n
    rw [List.length_map, List.length_range, h.len]
  · show (none : Option (List UInt8)).getD (((List.range D.old.length).map D.act.cur).getD k []) = f k
    rw [Option.getD_none, List.getD_eq_getElem?_getD, List.getElem?_map, List.getElem?_range (by rw [h.len]; exact hk)]
    exact h.cur k hk
theorem Dk.Wk.write {D : Dk} {n : Nat} {f : Nat → List UInt8} (h : D.Wk n f) (a c : Nat) (l : List UInt8) (hl : l.length = 64 * c) (ha : a + c ≤ n) : (D.write (a : Int) l).2 = 0 ∧ (D.write (a : Int) l).1.Wk n (fun j => if a ≤ j ∧ j < a + c then (l.drop (64 * (j - a))).take 64 else f j) := by
  have e : D.write (a : Int) l = D.writes a (chunks c l) := by
    unfold Dk.write
    rw [h.dead, h.len, hl]
    rw [if_neg (by simp), if_pos (by
      refine ⟨by omega, ?_⟩
      unfold hasB
      simp
      omega), Int.toNat_natCast, show 64 * c / 64 = c by omega]
  rw [e]
  obtain ⟨h1, h2⟩ := Dk.Wk.writes (chunks c l) a h
  refine ⟨h1, h2.dead, h2.armed, h2.len, fun k hk => ?_⟩
  rw [h2.cur k hk, chunks_len]
  by_cases hr : a ≤ k ∧ k < a + c
  · rw [if_pos hr, if_pos hr, List.getD_eq_getElem?_getD, chunks_get c l (k - a) (by omega)]
    rfl
  · rw [if_neg hr, if_neg hr]
/-- The chapter's record. -/
def sm : Rc := ⟨0, 0, 0, 8, 0, 1, 0, 0, 0, 0, ⟨#[]⟩, [], [], [], [], []⟩
theorem sm1_lay : (sm.at_ 1).lay = [1, 0, 0, 8, 0, 1, 0, 0, 0, 0, 0, 0, 0, 0, 0, 0] := by decide +kernel
theorem sm25_lay : (sm.at_ 25).lay = [25, 0, 0, 8, 0, 1, 0, 0, 0, 0, 0, 0, 0, 0, 0, 0] := by decide +kernel
theorem sm1_valid : (sm.at_ 1).valid :=
  ⟨by decide, by decide, ⟨by decide, by decide, (fun n h => by cases h), (fun n h => by cases h), (fun n h => by cases h), (fun n h => by cases h), (fun n h => by cases h)⟩, ⟨by decide, by decide, by decide, by decide, by decide, by decide⟩, rfl, by rw [sm1_lay]; decide⟩
theorem sm25_valid : (sm.at_ 25).valid :=
  ⟨by decide, by decide, ⟨by decide, by decide, (fun n h => by cases h), (fun n h => by cases h), (fun n h => by cases h), (fun n h => by cases h), (fun n h => by cases h)⟩, ⟨by decide, by decide, by decide, by decide, by decide, by decide⟩, rfl, by rw [sm25_lay]; decide⟩
theorem sm1_len : (sm.at_ 1).enc.length = 24 := by rw [renc_len, sm1_lay]; rfl
theorem sm25_len : (sm.at_ 25).enc.length = 24 := by rw [renc_len, sm25_lay]; rfl
theorem sm_at (w : World) : RcAt w sm Loc.none :=
  ⟨Zs.nil _ _ _, Zs.nil _ _ _, ⟨fun _ => True, Ims.nil _ _ _ _⟩, Prs.nil _ _ _, Prs.nil _ _ _, ⟨fun _ => rfl, Nat.le_refl _, Nat.zero_le _⟩, ⟨fun _ => rfl, Nat.le_refl _, Nat.zero_le _⟩, Nat.zero_le _, ⟨by decide, by decide⟩⟩
theorem run_build_sm (w : World) : (Instr.build 37 #[(3, .int .u8 8), (5, .int .i64 1)]).run Tryz.prog w = .ok (.agg (sm.cells Loc.none)) w := run_build w 37 _ _ (by kernel_rfl)
end Go.Proofs.YtfkcbdiffmacgaaGreatDoor

namespace Go.Proofs.YtfkcbdiffmacgaaGreatDoor
open Go.RowKit

section
variable {ops : Array Oper} {rest : List Oper} {o : Oper} {a : Act} {w : World} {Q : Exit → Act → World → Prop}
theorem wpList_build_sm (hg : o.guard = none) (hop : o.op = .build 37 #[(3, .const (.int .u8 8)), (5, .const (.int .i64 1))]) (h : wpList Tryz.prog ops Q rest (a.put o.dst (.agg (sm.cells Loc.none))) w) : wpList Tryz.prog ops Q (o :: rest) a w := by
  refine wpList_plain hg fun K hK => ?_
  unfold Oper.wp execOp
  have e : (#[(3, Operand.const (.int .u8 8)), (5, .const (.int .i64 1))] : Array (Nat × Operand)).map (fun x => (x.1, a.eval x.2)) = #[(3, .int .u8 8), (5, .int .i64 1)] := by
    simp only [List.map_toArray, List.map_cons, List.map_nil]
    rfl
  simp only [hop, e, Sem.run_bind, Sem.run_pure, Result.andThen_ok, run_build_sm]
  exact hK _ _ h
end
set_option maxRecDepth 100000 in
set_option maxHeartbeats 800000 in
theorem wsmall_any (w : World) : Calls Tryz.prog 15 #[] w fun e w' => e = .returned (.agg (sm.cells Loc.none)) ∧ Only (fun _ => False) w w' := by
  have HTH := hide (there_new w Rc.none Loc.none)
  have HO := hide (onlyA w (.cells (Rc.none.cells Loc.none) 37))
  go_enter Tryz.func15, Tryz.ntmps15
  go_upto_region 1 with fail
  go_wp2_with (refine wpList_build_sm rfl rfl ?_; go_frame; refine wpList_put_rec rfl (.tmp 0) (.tmp 1) rfl w.heap.size rfl sm Loc.none rfl HTH.out ?_; intro W9 HW9; go_frame)
  refine bodyPost_ret (results_cell1 rfl rfl HW9.out.load) rfl ?_
  exact ⟨rfl, HO.out.trans HW9.out.only (fun i hi e => by omega)⟩
theorem LogAt.owned {W : World} {l d frm n base : Nat} (h : LogAt W l d (Lg.new frm n) 0 none 0 (.slice none 0 0)) : LogOw W l d (Lg.new frm n) base (.slice none 0 0) (.slice none 0 0) :=
  ⟨h.c0, h.c1, h.c2, h.c3, h.c4, h.c5, h.c6, h.c7, h.c8, h.fz, h.lt, ⟨World.ownsRow_nil _ _ _ _, rfl⟩, World.ownsRow_nil _ _ _ _, (by simp [Value.ownBlock]), (by simp [Value.ownBlock]), (fun k e => by simp [Value.ownBlock] at e)⟩
abbrev zs64 : List UInt8 := List.replicate 64 0
def exS : List UInt8 := (sm.at_ 1).enc ++ (sm.at_ 25).enc
theorem exS_len : exS.length = 48 := by unfold exS; rw [List.length_append, sm1_len, sm25_len]
theorem exS_ne : exS ≠ [] := by intro h; have := exS_len; rw [h] at this; simp at this
def exG1 : Lg := (Lg.new 2 4).app (sm.at_ 1).enc
def exG2 : Lg := exG1.app (sm.at_ 25).enc
theorem exG1_tail : exG1.tail = 25 := by show 1 + (sm.at_ 1).enc.length = 25; rw [sm1_len]
theorem exG2_tail : exG2.tail = 49 := by show exG1.tail + (sm.at_ 25).enc.length = 49; rw [exG1_tail, sm25_len]
theorem exG1_stream : exG1.stream = (sm.at_ 1).enc := by show [] ++ _ = _; rfl
theorem exG2_stream : exG2.stream = exS := by show exG1.stream ++ _ = _; rw [exG1_stream]; rfl
theorem exG0_ok : (Lg.new 2 4).Ok := ⟨by decide, by decide, by decide, by decide, by decide, by decide, by decide, by decide, by decide⟩
theorem exG1_ok : exG1.Ok := ⟨by decide, by rw [exG1_tail]; decide, by rw [exG1_tail]; decide, by rw [exG1_tail]; decide, by decide, by decide, by decide, by decide, by rw [exG1_stream, sm1_len]; decide⟩
theorem exG2_ok : exG2.Ok := ⟨by decide, by rw [exG2_tail]; decide, by rw [exG2_tail]; decide, by rw [exG2_tail]; decide, by decide, by decide, by decide, by decide, by rw [exG2_stream, exS_len]; decide⟩
def exF (j : Nat) : List UInt8 := if j = 2 then holdL 0 exS else zs64
theorem hold64 : (holdL 0 exS).length = 64 := hold_len 0 exS (by rw [exS_len]; omega)
theorem exF_len (j : Nat) : (exF j).length = 64 := by
  unfold exF
  split
  · exact hold64
  · simp [zs64]
theorem ex_format {D : Dk} (h : D.Wk 10 (fun _ => zs64)) : (D.write 2 (List.replicate (4 * 64) 0)).2 = 0 ∧ (D.write 2 (List.replicate (4 * 64) 0)).1.sync.2 = 0 ∧ (D.write 2 (List.replicate (4 * 64) 0)).1.sync.1.Wk 10 (fun _ => zs64) := by
  obtain ⟨h1, h2⟩ := h.write 2 4 (List.replicate (4 * 64) 0) (by rw [List.length_replicate]) (by omega)
  have e : (fun j => if 2 ≤ j ∧ j < 2 + 4 then ((List.replicate (4 * 64) (0 : UInt8)).drop (64 * (j - 2))).take 64 else zs64) = (fun _ => zs64) := by
    funext j
    split
    · rw [List.drop_replicate, List.take_replicate, show min 64 (4 * 64 - 64 * (j - 2)) = 64 by omega]
    · rfl
  rw [e] at h2
  exact ⟨h1, h2.sync.1, h2.sync.2⟩
theorem exG2_block0 : exG2.block 0 = exS := by
  unfold Lg.block
  rw [exG2_stream, Nat.zero_sub, Nat.zero_mul, List.drop_zero, List.take_of_length_le (by rw [exS_len]; omega)]
theorem ex_flush {D : Dk} (h : D.Wk 10 (fun _ => zs64)) : (exG2.flush D).2.1 = 0 ∧ (exG2.flush D).2.2 = 49 ∧ (exG2.flush D).1.Wk 10 exF := by
  have hw := h.write 2 1 (holdL 0 (exG2.block 0)) (by rw [exG2_block0, hold64]) (by omega)
  rw [exG2_block0] at hw
  have e : (fun j => if 2 ≤ j ∧ j < 2 + 1 then ((holdL 0 exS).drop (64 * (j - 2))).take 64 else zs64) = exF := by
    funext j
    unfold exF
    by_cases hj : j = 2
    · subst hj
      rw [if_pos (by omega), if_pos rfl, Nat.sub_self, Nat.mul_zero, List.drop_zero, List.take_of_length_le (by rw [hold64]; omega)]
    · rw [if_neg (by omega), if_neg hj]
  obtain ⟨w1', w2'⟩ := hw
  rw [e] at w2'
  have w1 : (D.write 2 (holdL 0 exS)).2 = 0 := w1'
  have w2 : (D.write 2 (holdL 0 exS)).1.Wk 10 exF := w2'
  have hl1 : exG2.lay1 0 D = D.write 2 (holdL 0 exS) := by
    unfold Lg.lay1
    rw [exG2_block0]
    rfl
  have hls : exG2.lays ((exG2.flushed - 1) / 54) ((exG2.tail - 2) / 54 + 1 - (exG2.flushed - 1) / 54) D = ((D.write 2 (holdL 0 exS)).1, 0) := by
    rw [exG2_tail]
    show exG2.lays 0 1 D = _
    rw [lays_step, hl1, if_pos w1]
    rfl
  have hs := w2.sync
  unfold Lg.flush
  simp only [hls, if_true]
  rw [if_pos hs.1]
  exact ⟨rfl, exG2_tail, hs.2⟩
theorem sec_of {D : Dk} (h : D.Wk 10 exF) (k : Nat) (hk : k < 4) : secL (D.bytes 2 4) 4 k = exF (2 + k) := by
  have hb : D.bytes 2 4 = exF 2 ++ (exF 3 ++ (exF 4 ++ (exF 5 ++ []))) := by
    show (([0, 1, 2, 3] : List Nat).map fun i => D.cur (2 + i)).flatten = _
    simp only [List.map_cons, List.map_nil, List.flatten_cons, List.flatten_nil]
    rw [h.cur _ (by omega), h.cur _ (by omega), h.cur _ (by omega), h.cur _ (by omega)]
  unfold secL
  rw [hb, Nat.mod_eq_of_lt hk]
  have l2 := exF_len 2
  have l3 := exF_len 3
  have l4 := exF_len 4
  have l5 := exF_len 5
  have d : ∀ (n : Nat) (a b : List UInt8), a.length = 64 → (a ++ b).drop (n + 64) = b.drop n := fun n a b ha => by
    rw [Nat.add_comm, ← List.drop_drop, List.drop_left' ha]
  have t : ∀ (a b : List UInt8), a.length = 64 → (a ++ b).take 64 = a := fun a b ha => List.take_left' ha
  rcases (show k = 0 ∨ k = 1 ∨ k = 2 ∨ k = 3 by omega) with rfl | rfl | rfl | rfl
  · rw [Nat.zero_mul, List.drop_zero, t _ _ l2]
  · rw [show 1 * 64 = 0 + 64 by rfl, d 0 _ _ l2, List.drop_zero, t _ _ l3]
  · rw [show 2 * 64 = 64 + 64 by rfl, d 64 _ _ l2, show 64 = 0 + 64 by rfl, d 0 _ _ l3, List.drop_zero, t _ _ l4]
  · rw [show 3 * 64 = 128 + 64 by rfl, d 128 _ _ l2, show 128 = 64 + 64 by rfl, d 64 _ _ l3, show 64 = 0 + 64 by rfl, d 0 _ _ l4, List.drop_zero, t _ _ l5]
def exR : List Rc := [sm.at_ 1, sm.at_ 25]
theorem exR_enc : encR exR = exS := by simp [encR, exR, exS]
theorem exR_tk : tk 1 exR exR.length = 49 := by
  unfold tk
  rw [List.take_length, exR_enc, exS_len]
theorem exR_chn : Chn 1 exR := by
  refine ⟨fun i hi => ?_⟩
  have hi2 : i = 0 ∨ i = 1 := by have : exR.length = 2 := rfl; omega
  rcases hi2 with rfl | rfl
  · exact ⟨sm1_valid, (fun im h => by cases h), by show (1 : Int) = _; unfold tk; simp [encR]⟩
  · refine ⟨sm25_valid, (fun im h => by cases h), ?_⟩
    show (25 : Int) = _
    unfold tk
    have : (encR (exR.take 1)).length = 24 := by show (encR [sm.at_ 1]).length = 24; simp [encR, sm1_len]
    rw [this]
    rfl
theorem ex_same {D : Dk} (h : D.Wk 10 exF) (k : Nat) (hk : k < 4) : secL (D.bytes 2 4) 4 k = holdL k ((Lg.found 2 4 1 [] exR).block k) := by
  rw [sec_of h k hk]
  have hst : (Lg.found 2 4 1 [] exR).stream = exS := by show [] ++ encR exR = _; rw [exR_enc]; rfl
  by_cases h0 : k = 0
  · subst h0
    have : (Lg.found 2 4 1 [] exR).block 0 = exS := by
      unfold Lg.block
      rw [hst, Nat.zero_sub, Nat.zero_mul, List.drop_zero, List.take_of_length_le (by rw [exS_len]; omega)]
    rw [this]
    rfl
  · have : (Lg.found 2 4 1 [] exR).block k = [] := by
      unfold Lg.block
      rw [hst]
      have hb0 : (Lg.found 2 4 1 [] exR).b0 = 0 := rfl
      rw [hb0, List.drop_of_length_le (by rw [exS_len]; omega)]
      rfl
    rw [this]
    unfold exF holdL
    rw [if_neg (by omega), if_pos rfl]
theorem ex_tells {D : Dk} (h : D.Wk 10 exF) : tellsL (secL (D.bytes 2 4) 4 0) 0 = [] ++ encR exR := by
  rw [sec_of h 0 (by omega), exR_enc]
  show tellsL (holdL 0 exS) 0 = exS
  exact tells_hold 0 exS (by omega) (by rw [exS_len]; omega)
end Go.Proofs.YtfkcbdiffmacgaaGreatDoor

namespace Go.Proofs.YtfkcbdiffmacgaaGreatDoor
open Go.RowKit

theorem LogOw.hi7 {W : World} {l d : Nat} {G : Lg} {base : Nat} {v7 v8 : Value} (h : LogOw W l d G base v7 v8) (k : Nat) (hk : v7.ownBlock = some k) : base ≤ k := by
  rcases h.row.own.2 with ⟨hv, hn⟩ | ⟨g, cap, cur, hv, hb, r⟩
  · rw [hv] at hk; simp [Value.ownBlock] at hk
  · rw [hv] at hk
    simp [Value.ownBlock] at hk
    omega
theorem LogOw.hi8 {W : World} {l d : Nat} {G : Lg} {base : Nat} {v7 v8 : Value} (h : LogOw W l d G base v7 v8) (k : Nat) (hk : v8.ownBlock = some k) : base ≤ k := by
  rcases h.pl.2 with ⟨hv, hn⟩ | ⟨g, cap, cur, hv, hb, r⟩
  · rw [hv] at hk; simp [Value.ownBlock] at hk
  · rw [hv] at hk
    simp [Value.ownBlock] at hk
    omega
/-- A log of its own on a disk, made since w. -/
structure Aw (w W : World) (l d g m base : Nat) (D : Dk) (G : Lg) (v7 v8 : Value) : Prop where
  log : LogOw W l d G base v7 v8
  dsk : Dsk W d g m D
  only : Only (fun _ => False) w W
  hd : w.heap.size ≤ d
  hg : w.heap.size ≤ g
  hm : w.heap.size ≤ m
  hl : w.heap.size ≤ l
  bd : d < base
  bg : g < base
  bm : m < base
  bl : l < base
  nl : ¬ own d g m l
  bb : base ≤ W.heap.size
theorem Aw.more {w W W' : World} {l d g m base : Nat} {D : Dk} {G : Lg} {v7 v8 : Value} (h : Aw w W l d g m base D G v7 v8) (ho : Only (fun _ => False) W W') : Aw w W' l d g m base D G v7 v8 :=
  ⟨h.log.more ho, h.dsk.kept ho (fun h => h) (fun h => h) (fun h => h), o2 h.only ho, h.hd, h.hg, h.hm, h.hl, h.bd, h.bg, h.bm, h.bl, h.nl, Nat.le_trans h.bb ho.size⟩
theorem aw_app {w W : World} {l d g m base : Nat} {D : Dk} {G : Lg} {v7 v8 : Value} (h : Aw w W l d g m base D G v7 v8) (ok : G.Ok) (hv : (sm.at_ G.tail).valid) (hroom : (sm.at_ G.tail).enc.length ≤ G.room) (hpl : G.places.length ≤ 1000000000) :
    Calls Tryz.prog 10 #[.pointer (some ⟨l, 0, none⟩), .agg (sm.cells Loc.none)] W fun e w' => e = .returned (.tuple #[.int .i64 (G.tail : Int), .int .i64 0]) ∧ ∃ v7' v8', Aw w w' l d g m base D (G.app (sm.at_ G.tail).enc) v7' v8' := by
  refine (append_ok W l d G base v7 v8 h.log ok h.bb sm Loc.none (sm_at W) hv hroom hpl).mono ?_
  rintro e w' ⟨he, v7', v8', hlo, ho, -, -⟩
  refine ⟨he, v7', v8', hlo, ?_, ?_, h.hd, h.hg, h.hm, h.hl, h.bd, h.bg, h.bm, h.bl, h.nl, Nat.le_trans h.bb ho.size⟩
  · have no : ∀ k, k < base → k ≠ l → ¬ (k = l ∨ some k = v7.ownBlock ∨ some k = v8.ownBlock) := by
      rintro k hk hkl (e | e | e)
      · exact hkl e
      · have := h.log.hi7 k e.symm; omega
      · have := h.log.hi8 k e.symm; omega
    have nl := h.nl
    unfold own at nl
    exact h.dsk.kept ho (no _ h.bd (fun e => nl (.inl e.symm))) (no _ h.bg (fun e => nl (.inr (.inl e.symm)))) (no _ h.bm (fun e => nl (.inr (.inr e.symm))))
  · refine h.only.trans ho ?_
    rintro i hi (e | e | e)
    · have := h.hl; omega
    · have := h.log.hi7 i e.symm; have := h.hl; have := h.bl; omega
    · have := h.log.hi8 i e.symm; have := h.hl; have := h.bl; omega
theorem aw_new (w : World) : Calls Tryz.prog 6 #[.int .i64 10] w fun e w' => ∃ d g m, e = .returned (.tuple #[.pointer (some ⟨d, 0, none⟩), .int .i64 0]) ∧ Dsk w' d g m (Dk.new 10) ∧ Only (fun _ => False) w w' ∧ w.heap.size ≤ d ∧ w.heap.size ≤ g ∧ w.heap.size ≤ m ∧ d < w'.heap.size ∧ g < w'.heap.size ∧ m < w'.heap.size := by
  refine (new_ok w 10 (by omega) (by omega)).mono ?_
  rintro e w' ⟨he, hD, ho⟩
  have := hD.lt
  exact ⟨_, _, _, he, hD, ho, by omega, by omega, by omega, by omega, by omega, by omega⟩
theorem aw_format {w W : World} {d g m : Nat} (hD : Dsk W d g m (Dk.new 10)) (ho : Only (fun _ => False) w W) (hd : w.heap.size ≤ d) (hg : w.heap.size ≤ g) (hm : w.heap.size ≤ m) (h1 : d < W.heap.size) (h2 : g < W.heap.size) (h3 : m < W.heap.size) :
    Calls Tryz.prog 7 #[.pointer (some ⟨d, 0, none⟩), .int .i64 2, .int .i64 4] W fun e w' => ∃ l D base, e = .returned (.tuple #[.pointer (some ⟨l, 0, none⟩), .int .i64 0]) ∧ D.Wk 10 (fun _ => zs64) ∧ Aw w w' l d g m base D (Lg.new 2 4) (.slice none 0 0) (.slice none 0 0) := by
  have hx := ex_format (Dk.Wk.new 10)
  have hf : fitsB (Dk.new 10).old.length ((2 : Nat) : Int) ((4 : Nat) : Int) = true := by
    rw [(Dk.Wk.new 10).len]
    rfl
  refine Calls.mono (format_ok W d g m (Dk.new 10) hD 2 4 hf hx.1 hx.2.1) ?_
  rintro e w' ⟨l, he, hD', hL, hl, ho'⟩
  refine ⟨l, _, w'.heap.size, he, hx.2.2, hL.owned, hD', ?_, hd, hg, hm, ?_, ?_, ?_, ?_, hL.lt, ?_, Nat.le_refl _⟩
  · refine ho.trans ho' ?_
    rintro i hi (e | e | e) <;> omega
  · have := ho.size; omega
  · have := ho'.size; omega
  · have := ho'.size; omega
  · have := ho'.size; omega
  · rintro (e | e | e) <;> omega
theorem aw_room {w W : World} {l d g m base : Nat} {D : Dk} {v7 v8 : Value} (h : Aw w W l d g m base D (Lg.new 2 4) v7 v8) : Calls Tryz.prog 8 #[.pointer (some ⟨l, 0, none⟩)] W fun e w' => e = .returned (.int .i64 108) ∧ Aw w w' l d g m base D (Lg.new 2 4) v7 v8 := by
  refine (h.log.room_ exG0_ok).mono ?_
  rintro e w' ⟨he, ho⟩
  exact ⟨he, h.more ho⟩
theorem aw_small {w W : World} {l d g m base : Nat} {D : Dk} {G : Lg} {v7 v8 : Value} (h : Aw w W l d g m base D G v7 v8) : Calls Tryz.prog 15 #[] W fun e w' => e = .returned (.agg (sm.cells Loc.none)) ∧ Aw w w' l d g m base D G v7 v8 := by
  refine (wsmall_any W).mono ?_
  rintro e w' ⟨he, ho⟩
  exact ⟨he, h.more ho⟩
theorem aw_app1 {w W : World} {l d g m base : Nat} {D : Dk} {v7 v8 : Value} (h : Aw w W l d g m base D (Lg.new 2 4) v7 v8) : Calls Tryz.prog 10 #[.pointer (some ⟨l, 0, none⟩), .agg (sm.cells Loc.none)] W fun e w' => e = .returned (.tuple #[.int .i64 1, .int .i64 0]) ∧ ∃ v7' v8', Aw w w' l d g m base D exG1 v7' v8' := by
  refine Calls.mono (aw_app h exG0_ok sm1_valid (by show (sm.at_ 1).enc.length ≤ 108; rw [sm1_len]; omega) (by show 0 ≤ _; omega)) ?_
  exact fun e w' hx => hx
theorem aw_app2 {w W : World} {l d g m base : Nat} {D : Dk} {v7 v8 : Value} (h : Aw w W l d g m base D exG1 v7 v8) : Calls Tryz.prog 10 #[.pointer (some ⟨l, 0, none⟩), .agg (sm.cells Loc.none)] W fun e w' => e = .returned (.tuple #[.int .i64 25, .int .i64 0]) ∧ ∃ v7' v8', Aw w w' l d g m base D exG2 v7' v8' := by
  have ht : ((exG1.tail : Nat) : Int) = 25 := by rw [exG1_tail]; rfl
  have hrm : exG1.room = 84 := by show 54 * 2 - (exG1.tail - 1) - 0 = 84; rw [exG1_tail]
  have hx := aw_app h exG1_ok (by rw [ht]; exact sm25_valid) (by rw [ht, sm25_len, hrm]; omega) (by show 1 ≤ _; omega)
  rw [ht] at hx
  exact hx
theorem aw_flush {w W : World} {l d g m base : Nat} {D : Dk} {v7 v8 : Value} (h : Aw w W l d g m base D exG2 v7 v8) (hD : D.Wk 10 (fun _ => zs64)) : Calls Tryz.prog 17 #[.pointer (some ⟨l, 0, none⟩), .int .i64 1] W fun e w' => ∃ D', e = .returned (.int .i64 0) ∧ Dsk w' d g m D' ∧ D'.Wk 10 exF ∧ Only (fun _ => False) w w' := by
  obtain ⟨B, ao, cp, hv, hL, hB⟩ := h.log.at_
  obtain ⟨f1, f2, f3⟩ := ex_flush hD
  have hBb : 0 < exG2.stream.length → base ≤ B := fun h0 => h.log.hi7 B (hB h0)
  have a1 := h.bd
  have a2 := h.bg
  have a3 := h.bm
  have a4 := h.bl
  refine (flush_any W l d g m D h.dsk exG2 B ao cp v8 hL h.nl (fun h0 => ?_) (fun h0 => ?_) exG2_ok (by rw [exG2_tail]; omega) (by decide) 1 (by decide) (by rw [exG2_tail]; decide)).mono ?_
  · have := hBb h0
    rintro (e | e | e) <;> omega
  · have := hBb h0
    omega
  · rintro e w' ⟨he, hd', -, ho⟩
    rw [f1] at he
    refine ⟨_, he, hd', f3, h.only.trans ho ?_⟩
    have b1 := h.hd
    have b2 := h.hg
    have b3 := h.hm
    have b4 := h.hl
    rintro i hi ((e | e | e) | e) <;> omega
theorem aw_open {w W : World} {d g m : Nat} {D : Dk} (hD : Dsk W d g m D) (hk : D.Wk 10 exF) (ho : Only (fun _ => False) w W) : Calls Tryz.prog 26 #[.pointer (some ⟨d, 0, none⟩), .int .i64 2, .int .i64 4, .int .i64 1] W fun e w' =>
    ∃ l b cp, e = .returned (.tuple #[.pointer (some ⟨l, 0, none⟩), .slice (some ⟨b, 0, none⟩) 2 cp, .int .i64 0]) ∧ w'.cell? ⟨b, 16, none⟩ = some (.int .i64 25) ∧ w'.cell? ⟨l, 4, none⟩ = some (.int .i64 49) ∧ Only (fun _ => False) w w' := by
  have hf : fitsB D.old.length ((2 : Nat) : Int) ((4 : Nat) : Int) = true := by
    rw [hk.len]
    rfl
  refine Calls.mono (open_ok W d g m D hD 2 4 1 hf hk.dead (by rw [hk.len]; omega) (by omega) (by omega) (by omega) (by omega) (by omega) [] exR (ex_tells hk) (by rw [exR_enc]; show exS.length < 54; rw [exS_len]; omega) (by decide) exR_chn (by decide) (fun k hk4 => .inr (ex_same hk k hk4))) ?_
  rintro e w' ⟨l, v5, acc, B, cp, v8, he, how, hacc, hlog, ho'⟩
  have hlen : acc.length = 2 := by rw [← List.length_map (f := fun z : Lr => z.1), hacc]; rfl
  rcases how.form with ⟨-, e0⟩ | ⟨b, cap, e1, -, hr⟩
  · rw [e0] at hlen; cases hlen
  · rw [e1, hlen] at he
    refine ⟨l, b, cap, he, ?_, ?_, o2 ho ho'⟩
    · have h1 := hr 1 (by omega)
      have hz : (acc[1]'(by omega)).1 = sm.at_ 25 := by
        have := congrArg (fun q => q[1]?) hacc
        simp [exR, hlen] at this
        exact this
      have := h1 0 (.int .i64 25) (by show some (Value.int .i64 (acc[1]'(by omega)).1.lsn) = _; rw [hz]; rfl)
      exact this
    · have := hlog.c4
      rw [show (Lg.found 2 4 1 [] exR).tail = 49 from exR_tk] at this
      exact this
end Go.Proofs.YtfkcbdiffmacgaaGreatDoor

namespace Go.Proofs.YtfkcbdiffmacgaaGreatDoor
open Go.RowKit

theorem results_rec2 {fn : Func} {p u : Tmp} (h : fn.results = #[.cell p 37, .tmp u]) {tmps : Array Value} {w : World} {b : Nat} {v : Value} (hp : tmps.getD p undef = .pointer (some ⟨b, 0, none⟩)) (hP : (loadVar 37 ⟨b, 0, none⟩).run Tryz.prog w = .ok v w) :
    (results fn tmps).run Tryz.prog w = .ok (.tuple #[v, tmps.getD u undef]) w := by
  have e : (asAddr (tmps.getD p undef)).run Tryz.prog w = .ok ⟨b, 0, none⟩ w := by rw [hp]; rfl
  have key : (results fn tmps).run Tryz.prog w = ((asAddr (tmps.getD p undef)).run Tryz.prog w).andThen fun a w₁ => ((loadVar 37 a).run Tryz.prog w₁).andThen fun v w₂ => .ok (.tuple #[v, tmps.getD u undef]) w₂ := by
    simp only [results, h]
    simp [Sem.run_bind, Result.andThen]
  rw [key, e]
  simp only [Result.andThen, hP]
set_option maxRecDepth 100000 in
set_option maxHeartbeats 800000 in
theorem get_nil (w : World) (n : Int) : Calls Tryz.prog 16 #[.pointer none, .int .i64 n] w fun e w' => e = .returned (.tuple #[.agg (Rc.none.cells Loc.none), .int .i64 2]) ∧ Only (fun _ => False) w w' := by
  have HTH := hide (there_new w Rc.none Loc.none)
  have HO := hide (onlyA w (.cells (Rc.none.cells Loc.none) 37))
  go_enter Tryz.func16, Tryz.ntmps16
  go_upto_region 2 with fail
  go_wp2_with (refine wpList_build_rec rfl rfl ?_; go_frame; refine wpList_put_rec rfl (.tmp 4) (.tmp 14) rfl w.heap.size rfl Rc.none Loc.none rfl HTH.out ?_; intro W9 HW9; go_frame)
  refine bodyPost_ret (results_rec2 rfl rfl HW9.out.load) rfl ?_
  exact ⟨rfl, HO.out.trans HW9.out.only (fun i hi e => by omega)⟩
set_option maxRecDepth 100000 in
set_option maxHeartbeats 1600000 in
theorem wawake_any (w : World) : Calls Tryz.prog 14 #[] w fun e w' => e = .returned (.bool true) ∧ Only (fun _ => False) w w' := by
  obtain ⟨V, hV⟩ : ∃ V, Value.agg (sm.cells Loc.none) = V := ⟨_, rfl⟩
  have HSM := hide (fun (W : World) l d g m base D G v7 v8 (h : Aw w W l d g m base D G v7 v8) => aw_small h)
  have HA1 := hide (fun (W : World) l d g m base D v7 v8 (h : Aw w W l d g m base D (Lg.new 2 4) v7 v8) => aw_app1 h)
  have HA2 := hide (fun (W : World) l d g m base D v7 v8 (h : Aw w W l d g m base D exG1 v7 v8) => aw_app2 h)
  simp only [hV] at HSM HA1 HA2
  clear hV
  go_enter Tryz.func14, Tryz.ntmps14
  go_wp2_with fail
  refine (aw_new w).mono ?_
  rintro e w1 ⟨d, g, m, rfl, hD, ho, h1, h2, h3, h4, h5, h6⟩
  have HF := hide (aw_format hD ho h1 h2 h3 h4 h5 h6)
  clear hD ho h1 h2 h3 h4 h5 h6
  go_wp2_with fail
  refine HF.out.mono ?_
  rintro e w2 ⟨l, D, base, rfl, hk, haw⟩
  have HK := hide hk
  have HR := hide (aw_room haw)
  clear hk haw HF
  go_wp2_with fail
  refine HR.out.mono ?_
  rintro e w3 ⟨rfl, haw⟩
  have HS := hide (HSM.out _ _ _ _ _ _ _ _ _ _ haw)
  clear haw HR
  go_wp2_with fail
  refine HS.out.mono ?_
  rintro e w4 ⟨rfl, haw⟩
  have HA := hide (HA1.out _ _ _ _ _ _ _ _ _ haw)
  clear haw HS
  go_wp2_with fail
  refine HA.out.mono ?_
  rintro e w5 ⟨rfl, v7, v8, haw⟩
  have HS := hide (HSM.out _ _ _ _ _ _ _ _ _ _ haw)
  clear haw HA
  go_wp2_with fail
  refine HS.out.mono ?_
  rintro e w6 ⟨rfl, haw⟩
  have HA := hide (HA2.out _ _ _ _ _ _ _ _ _ haw)
  clear haw HS
  go_wp2_with fail
  refine HA.out.mono ?_
  rintro e w7 ⟨rfl, u7, u8, haw⟩
  have HFL := hide (aw_flush haw HK.out)
  clear haw HA
  go_wp2_with fail
  refine HFL.out.mono ?_
  rintro e w8 ⟨D', rfl, hD, hk, ho⟩
  have HOP := hide (aw_open hD hk ho)
  clear hD hk ho HFL
  go_wp2_with fail
  refine HOP.out.mono ?_
  rintro e w9 ⟨l', b, cp, rfl, hc, ht, ho⟩
  have HO := hide ho
  clear ho HOP
  go_wp2_with fail
  have HT : Calls Tryz.prog 9 #[.pointer (some ⟨l', 0, none⟩)] w9 fun e w' => e = .returned (.int .i64 49) ∧ w' = w9 := by
    go_enter Tryz.func9, Tryz.ntmps9
    go_wp2
    go_ret
    exact ⟨rfl, rfl⟩
  refine HT.mono ?_
  rintro e w10 ⟨rfl, hw⟩
  obtain rfl := hw.symm
  clear hw
  go_wp2_with fail
  go_ret
  exact ⟨rfl, HO.out⟩
end Go.Proofs.YtfkcbdiffmacgaaGreatDoor

namespace Go.Proofs.YtfkcbdiffmacgaaGreatDoor
open Go.RowKit

set_option maxRecDepth 100000 in
theorem append_bad (w : World) (l d : Nat) (G : Lg) (base : Nat) (v7 v8 : Value) (h : LogOw w l d G base v7 v8) (r : Rc) (L : Loc) (hr : RcAt w r L) (hv : ¬ (r.at_ G.tail).valid) :
    Calls Tryz.prog 10 #[.pointer (some ⟨l, 0, none⟩), .agg (r.cells L)] w fun e w' =>
      (∃ c, c ≠ 0 ∧ (r.at_ G.tail).Out ([], c) ∧ e = .returned (.tuple #[.int .i64 0, .int .i64 c])) ∧ Only (fun _ => False) w w' := by
  have hrq : RcAt w (r.at_ (G.tail : Int)) L := hr.at_ _
  have hQ : Calls Tryz.prog 25 #[.agg ((r.at_ (G.tail : Int)).cells L)] (w.alloc (.cells ((r.at_ (G.tail : Int)).cells L) 37)) fun e w' => (∃ c, c ≠ 0 ∧ (r.at_ (G.tail : Int)).Out ([], c) ∧ e = .returned (.tuple #[.string ⟨#[]⟩, .int .i64 c])) ∧ Only (fun _ => False) w w' :=
    (rencode_any _ _ L (hrq.go (onlyA w _))).mono (fun e w' hx => ⟨hx.bad hv, o2 (onlyA w _) hx.only⟩)
  have HQ := hide hQ
  have c4 := h.c4
  have c4' : ∀ o, (w.alloc o).cell? ⟨l, 4, none⟩ = some (.int .i64 (G.tail : Int)) := fun o => (h.more (onlyA w _)).c4
  clear h hr hrq hQ hv
  go_enter Tryz.func10, Tryz.ntmps10
  go_wp2_with fail
  refine Calls.mono HQ.out ?_
  rintro e w2 ⟨⟨c, hc, hout, rfl⟩, ho2⟩
  have HO2 := hide ho2
  have HOUT := hide hout
  clear ho2 hout c4 c4'
  go_wp2_with fail
  go_ret2
  exact ⟨⟨c, hc, HOUT.out, rfl⟩, HO2.out⟩
set_option maxRecDepth 100000 in
theorem append_full (w : World) (l d : Nat) (G : Lg) (base : Nat) (v7 v8 : Value) (h : LogOw w l d G base v7 v8) (ok : G.Ok) (r : Rc) (L : Loc) (hr : RcAt w r L) (hv : (r.at_ G.tail).valid) (hroom : G.room < (r.at_ G.tail).enc.length) :
    Calls Tryz.prog 10 #[.pointer (some ⟨l, 0, none⟩), .agg (r.cells L)] w fun e w' => e = .returned (.tuple #[.int .i64 0, .int .i64 50]) ∧ Only (fun _ => False) w w' := by
  have hrq : RcAt w (r.at_ (G.tail : Int)) L := hr.at_ _
  have hQ : Calls Tryz.prog 25 #[.agg ((r.at_ (G.tail : Int)).cells L)] (w.alloc (.cells ((r.at_ (G.tail : Int)).cells L) 37)) fun e w' => e = .returned (.tuple #[.string (str (r.at_ (G.tail : Int)).enc), .int .i64 0]) ∧ Only (fun _ => False) w w' :=
    (rencode_any _ _ L (hrq.go (onlyA w _))).mono (fun e w' hx => ⟨hx.ok hv, o2 (onlyA w _) hx.only⟩)
  have HQ := hide hQ
  obtain ⟨N, hN⟩ : ∃ N, str (r.at_ (G.tail : Int)).enc = N := ⟨_, rfl⟩
  have hNs : N.size = (r.at_ (G.tail : Int)).enc.length := by rw [← hN, str_size]
  rw [hN] at HQ
  have c4 := h.c4
  have c4' : ∀ o, (w.alloc o).cell? ⟨l, 4, none⟩ = some (.int .i64 (G.tail : Int)) := fun o => (h.more (onlyA w _)).c4
  have HL := hide h
  have HRM := hide (fun W (hW : LogOw W l d G base v7 v8) => hW.room_ ok)
  obtain ⟨rm, hrm⟩ : ∃ rm, G.room = rm := ⟨_, rfl⟩
  rw [hrm] at HRM hroom
  have i1 : (rm : Int) < (N.size : Int) := by omega
  clear h hr hrq hQ hv hN hNs hrm hroom ok
  go_enter Tryz.func10, Tryz.ntmps10
  go_wp2_with fail
  refine Calls.mono HQ.out ?_
  rintro e w2 ⟨rfl, ho2⟩
  have HL2 := hide (HL.out.more ho2)
  have HO2 := hide ho2
  clear ho2 c4 c4'
  go_wp2_with fail
  refine (HRM.out _ HL2.out).mono ?_
  rintro e w3 ⟨rfl, ho3⟩
  have HO3 := hide (o2 HO2.out ho3)
  clear ho3
  go_wp2_with fail
  go_ret2
  exact ⟨rfl, HO3.out⟩
end Go.Proofs.YtfkcbdiffmacgaaGreatDoor

namespace Go.Proofs.YtfkcbdiffmacgaaGreatDoor
open Go.RowKit

theorem start_any (w : World) (l d : Nat) (G : Lg) (B : Nat) (ao : Option Addr) (cp : Nat) (v8 : Value) (h : LogAt w l d G B ao cp v8) : Calls Tryz.prog 13 #[.pointer (some ⟨l, 0, none⟩)] w fun e w' => e = .returned (.int .i64 (G.start : Int)) ∧ w' = w := by
  have h3 := h.c3
  go_enter Tryz.func13, Tryz.ntmps13
  go_wp2
  go_ret
  exact ⟨rfl, rfl⟩
/-- A log of twenty sectors, made since w: its tail T, what is kept K. -/
structure RmG (w W : World) (l T K : Nat) (d base : Nat) (G : Lg) (v7 v8 : Value) : Prop where
  log : LogOw W l d G base v7 v8
  frm : G.frm = 0
  n : G.n = 20
  st : G.start = 1
  fl : G.flushed = 1
  tl : G.tail = T
  rs : G.reserved = K
  sl : G.stream.length ≤ T
  pl : G.places.length ≤ T
  bb : base ≤ W.heap.size
  wb : w.heap.size ≤ base
  only : Only (fun _ => False) w W
  hl : w.heap.size ≤ l
  t1 : 1 ≤ T
  tk : T + K ≤ 973
def Rm (w W : World) (l T K : Nat) : Prop := ∃ d base G v7 v8, RmG w W l T K d base G v7 v8
theorem RmG.ok {w W : World} {l T K d base : Nat} {G : Lg} {v7 v8 : Value} (h : RmG w W l T K d base G v7 v8) : G.Ok := by
  obtain ⟨-, a1, a2, a3, a4, a5, a6, a7, a8, -, -, -, -, a9, a10⟩ := h
  exact ⟨by omega, by omega, by omega, by omega, by omega, by omega, by omega, by omega, by omega⟩
theorem RmG.more {w W W' : World} {l T K d base : Nat} {G : Lg} {v7 v8 : Value} (h : RmG w W l T K d base G v7 v8) (ho : Only (fun _ => False) W W') : RmG w W' l T K d base G v7 v8 :=
  ⟨h.log.more ho, h.frm, h.n, h.st, h.fl, h.tl, h.rs, h.sl, h.pl, Nat.le_trans h.bb ho.size, h.wb, o2 h.only ho, h.hl, h.t1, h.tk⟩
theorem Rm.only {w W : World} {l T K : Nat} (h : Rm w W l T K) : Only (fun _ => False) w W := by
  obtain ⟨d, base, G, v7, v8, h⟩ := h
  exact h.only
theorem Rm.bnd {w W : World} {l T K : Nat} (h : Rm w W l T K) : 1 ≤ T ∧ T + K ≤ 973 := by
  obtain ⟨d, base, G, v7, v8, h⟩ := h
  exact ⟨h.t1, h.tk⟩
theorem RmG.room {w W : World} {l T K d base : Nat} {G : Lg} {v7 v8 : Value} (h : RmG w W l T K d base G v7 v8) : (G.room : Int) = 973 - (T : Int) - (K : Int) := by
  have a1 := h.n
  have a2 := h.st
  have a3 := h.tl
  have a4 := h.rs
  have a5 := h.t1
  have a6 := h.tk
  unfold Lg.room
  rw [a1, a2, a3, a4]
  omega
theorem rm_room {w W : World} {l T K : Nat} (h : Rm w W l T K) : Calls Tryz.prog 8 #[.pointer (some ⟨l, 0, none⟩)] W fun e w' => e = .returned (.int .i64 (973 - (T : Int) - (K : Int))) ∧ Rm w w' l T K := by
  obtain ⟨d, base, G, v7, v8, h⟩ := h
  refine (h.log.room_ h.ok).mono ?_
  rintro e w' ⟨he, ho⟩
  rw [h.room] at he
  exact ⟨he, _, _, _, _, _, h.more ho⟩
theorem rm_tail {w W : World} {l T K : Nat} (h : Rm w W l T K) : Calls Tryz.prog 9 #[.pointer (some ⟨l, 0, none⟩)] W fun e w' => e = .returned (.int .i64 (T : Int)) ∧ w' = W := by
  obtain ⟨d, base, G, v7, v8, h⟩ := h
  obtain ⟨B, ao, cp, -, hL, -⟩ := h.log.at_
  have := tail_any W l d G B ao cp v8 hL
  rwa [h.tl] at this
theorem rm_start {w W : World} {l T K : Nat} (h : Rm w W l T K) : Calls Tryz.prog 13 #[.pointer (some ⟨l, 0, none⟩)] W fun e w' => e = .returned (.int .i64 1) ∧ w' = W := by
  obtain ⟨d, base, G, v7, v8, h⟩ := h
  obtain ⟨B, ao, cp, -, hL, -⟩ := h.log.at_
  have := start_any W l d G B ao cp v8 hL
  rwa [h.st] at this
theorem rm_new (w : World) : Calls Tryz.prog 6 #[.int .i64 20] w fun e w' => ∃ d g m, e = .returned (.tuple #[.pointer (some ⟨d, 0, none⟩), .int .i64 0]) ∧ Dsk w' d g m (Dk.new 20) ∧ Only (fun _ => False) w w' ∧ w.heap.size ≤ d ∧ w.heap.size ≤ g ∧ w.heap.size ≤ m := by
  refine (new_ok w 20 (by omega) (by omega)).mono ?_
  rintro e w' ⟨he, hD, ho⟩
  exact ⟨_, _, _, he, hD, ho, by omega, by omega, by omega⟩
theorem rm_format {w W : World} {d g m : Nat} (hD : Dsk W d g m (Dk.new 20)) (ho : Only (fun _ => False) w W) (hd : w.heap.size ≤ d) (hg : w.heap.size ≤ g) (hm : w.heap.size ≤ m) :
    Calls Tryz.prog 7 #[.pointer (some ⟨d, 0, none⟩), .int .i64 0, .int .i64 20] W fun e w' => ∃ l, e = .returned (.tuple #[.pointer (some ⟨l, 0, none⟩), .int .i64 0]) ∧ Rm w w' l 1 0 := by
  obtain ⟨h1, h2⟩ := (Dk.Wk.new 20).write 0 20 (List.replicate (20 * 64) 0) (by rw [List.length_replicate]) (by omega)
  have hf : fitsB (Dk.new 20).old.length ((0 : Nat) : Int) ((20 : Nat) : Int) = true := by
    rw [(Dk.Wk.new 20).len]
    rfl
  refine Calls.mono (format_ok W d g m (Dk.new 20) hD 0 20 hf h1 h2.sync.1) ?_
  rintro e w' ⟨l, he, hD', hL, hl, ho'⟩
  have s1 := ho.size
  refine ⟨l, he, d, w'.heap.size, Lg.new 0 20, _, _, hL.owned, rfl, rfl, rfl, rfl, rfl, rfl, by show 0 ≤ _; omega, by show 0 ≤ _; omega, Nat.le_refl _, by have := ho'.size; omega, ?_, by omega, by omega, by omega⟩
  refine ho.trans ho' ?_
  rintro i hi (e | e | e) <;> omega
theorem rm_append {w W : World} {l T K : Nat} (h : Rm w W l T K) (r : Rc) (L : Loc) (hr : RcAt W r L) : Calls Tryz.prog 10 #[.pointer (some ⟨l, 0, none⟩), .agg (r.cells L)] W fun e w' =>
    (∃ x T', e = .returned (.tuple #[.int .i64 x, .int .i64 0]) ∧ Rm w w' l T' K) ∨ (∃ x c, (c == 0) = false ∧ e = .returned (.tuple #[.int .i64 x, .int .i64 c]) ∧ Rm w w' l T K) := by
  obtain ⟨d, base, G, v7, v8, h⟩ := h
  by_cases hv : (r.at_ G.tail).valid
  · by_cases hroom : (r.at_ G.tail).enc.length ≤ G.room
    · refine (append_ok W l d G base v7 v8 h.log h.ok h.bb r L hr hv hroom (by have := h.pl; have := h.tk; omega)).mono ?_
      rintro e w' ⟨he, v7', v8', hlo, ho, -, -⟩
      have hrm := h.room
      have hlen : 1 ≤ (r.at_ G.tail).enc.length := by rw [renc_len]; omega
      obtain ⟨E, hE⟩ : ∃ E, (r.at_ G.tail).enc = E := ⟨_, rfl⟩
      rw [hE] at hlo hroom hlen
      have a1 := h.tl
      have a2 := h.sl
      have a3 := h.pl
      have a4 := h.t1
      have a5 := h.tk
      refine .inl ⟨_, T + E.length, he, d, base, G.app E, v7', v8', hlo, h.frm, h.n, h.st, h.fl, ?_, h.rs, ?_, ?_, Nat.le_trans h.bb ho.size, h.wb, ?_, h.hl, by omega, by omega⟩
      · show G.tail + E.length = _
        omega
      · show (G.stream ++ E).length ≤ _
        rw [List.length_append]
        omega
      · show (G.places ++ [(G.tail : Int)]).length ≤ _
        rw [List.length_append]
        show G.places.length + 1 ≤ _
        omega
      · refine h.only.trans ho ?_
        have b1 := h.hl
        have b2 := h.wb
        rintro i hi (e | e | e)
        · omega
        · have := h.log.hi7 i e.symm; omega
        · have := h.log.hi8 i e.symm; omega
    · refine (append_full W l d G base v7 v8 h.log h.ok r L hr hv (by omega)).mono ?_
      rintro e w' ⟨he, ho⟩
      exact .inr ⟨_, 50, rfl, he, _, _, _, _, _, h.more ho⟩
  · refine (append_bad W l d G base v7 v8 h.log r L hr hv).mono ?_
    rintro e w' ⟨⟨c, hc, -, he⟩, ho⟩
    exact .inr ⟨_, c, by simpa using hc, he, _, _, _, _, _, h.more ho⟩
theorem rm_reserve_neg {w W : World} {l T K : Nat} (h : Rm w W l T K) (n : Int) (hn : n < 0) : Calls Tryz.prog 11 #[.pointer (some ⟨l, 0, none⟩), .int .i64 n] W fun e w' => e = .returned (.int .i64 1) ∧ Rm w w' l T K := by
  obtain ⟨d, base, G, v7, v8, h⟩ := h
  refine (reserve_neg W l n hn).mono ?_
  rintro e w' ⟨he, ho⟩
  exact ⟨he, _, _, _, _, _, h.more ho⟩
theorem rm_reserve_full {w W : World} {l T K : Nat} (h : Rm w W l T K) (n : Int) (hn : 973 - (T : Int) - (K : Int) < n) : Calls Tryz.prog 11 #[.pointer (some ⟨l, 0, none⟩), .int .i64 n] W fun e w' => e = .returned (.int .i64 50) ∧ Rm w w' l T K := by
  obtain ⟨d, base, G, v7, v8, h⟩ := h
  refine (reserve_full W l d G base v7 v8 h.log h.ok n (by rw [h.room]; exact hn)).mono ?_
  rintro e w' ⟨he, ho⟩
  exact ⟨he, _, _, _, _, _, h.more ho⟩
theorem RmG.set {w W W' : World} {l T K d base : Nat} {G : Lg} {v7 v8 : Value} (h : RmG w W l T K d base G v7 v8) (k : Nat) (hk : T + k ≤ 973) (hL : LogOw W' l d { G with reserved := k } base v7 v8) (ho : Only (fun i => i = l) W W') : RmG w W' l T k d base { G with reserved := k } v7 v8 :=
  ⟨hL, h.frm, h.n, h.st, h.fl, h.tl, rfl, h.sl, h.pl, Nat.le_trans h.bb ho.size, h.wb, h.only.trans ho (fun i hi e => by have := h.hl; omega), h.hl, h.t1, hk⟩
theorem rm_reserve_ok {w W : World} {l T K : Nat} (h : Rm w W l T K) (n : Nat) (hn : (n : Int) ≤ 973 - (T : Int) - (K : Int)) : Calls Tryz.prog 11 #[.pointer (some ⟨l, 0, none⟩), .int .i64 (n : Int)] W fun e w' => e = .returned (.int .i64 0) ∧ Rm w w' l T (K + n) := by
  obtain ⟨d, base, G, v7, v8, h⟩ := h
  have hr := h.room
  refine (reserve_ok W l d G base v7 v8 h.log h.ok n (by omega)).mono ?_
  rintro e w' ⟨he, hL, ho⟩
  rw [h.rs] at hL
  exact ⟨he, _, _, _, _, _, h.set (K + n) (by omega) hL ho⟩
theorem rm_release_bad {w W : World} {l T K : Nat} (h : Rm w W l T K) (n : Int) (hn : n < 0 ∨ (K : Int) < n) : Calls Tryz.prog 12 #[.pointer (some ⟨l, 0, none⟩), .int .i64 n] W fun e w' => e = .returned (.int .i64 1) ∧ Rm w w' l T K := by
  obtain ⟨d, base, G, v7, v8, h⟩ := h
  refine (release_bad W l d G base v7 v8 h.log n (by rw [h.rs]; exact hn)).mono ?_
  rintro e w' ⟨he, ho⟩
  exact ⟨he, _, _, _, _, _, h.more ho⟩
theorem rm_release_ok {w W : World} {l T K : Nat} (h : Rm w W l T K) (n : Nat) (hn : n ≤ K) : Calls Tryz.prog 12 #[.pointer (some ⟨l, 0, none⟩), .int .i64 (n : Int)] W fun e w' => e = .returned (.int .i64 0) ∧ Rm w w' l T (K - n) := by
  obtain ⟨d, base, G, v7, v8, h⟩ := h
  have hk := h.tk
  have hrs := h.rs
  refine (release_ok W l d G base v7 v8 h.log n (by omega) (by omega)).mono ?_
  rintro e w' ⟨he, hL, ho⟩
  rw [h.rs] at hL
  exact ⟨he, _, _, _, _, _, h.set (K - n) (by omega) hL ho⟩
theorem rm_roomN {w W : World} {l T K : Nat} (h : Rm w W l T K) (R : Nat) (hR : (R : Int) = 973 - (T : Int) - (K : Int)) : Calls Tryz.prog 8 #[.pointer (some ⟨l, 0, none⟩)] W fun e w' => e = .returned (.int .i64 (R : Int)) ∧ Rm w w' l T K := by
  rw [hR]
  exact rm_room h
theorem rm_res {w W : World} {l T K : Nat} (h : Rm w W l T K) (n : Nat) (hn : (n : Int) ≤ 973 - (T : Int) - (K : Int)) : Calls Tryz.prog 11 #[.pointer (some ⟨l, 0, none⟩), .int .i64 (n : Int)] W fun e w' => e = .returned (.int .i64 0) ∧ ∃ K2 : Nat, (K2 : Int) = (K : Int) + (n : Int) ∧ Rm w w' l T K2 := by
  refine (rm_reserve_ok h n hn).mono ?_
  rintro e w' ⟨he, hr⟩
  exact ⟨he, K + n, by omega, hr⟩
theorem rm_rel {w W : World} {l T K : Nat} (h : Rm w W l T K) (n : Nat) (hn : n ≤ K) : Calls Tryz.prog 12 #[.pointer (some ⟨l, 0, none⟩), .int .i64 (n : Int)] W fun e w' => e = .returned (.int .i64 0) ∧ ∃ K2 : Nat, (K2 : Int) = (K : Int) - (n : Int) ∧ Rm w w' l T K2 := by
  refine (rm_release_ok h n hn).mono ?_
  rintro e w' ⟨he, hr⟩
  exact ⟨he, K - n, by omega, hr⟩
theorem Rm.roomN {w W : World} {l T K : Nat} (h : Rm w W l T K) : ∃ R : Nat, (R : Int) = 973 - (T : Int) - (K : Int) := ⟨973 - T - K, by have := h.bnd; omega⟩
end Go.Proofs.YtfkcbdiffmacgaaGreatDoor

namespace Go.Proofs.YtfkcbdiffmacgaaGreatDoor
open Go.ChangeShapes Go.WideShapes Go.ChangeAt Go.RowKit Go.Deep

theorem Tryz.laidOut : laidOutB Tryz.prog = true := by kernel_rfl
theorem Tryz.cellsInt : Tryz.prog.cellsOf 3 = 1 := by kernel_rfl
theorem Tryz.cellsStr : Tryz.prog.cellsOf 9 = 1 := by kernel_rfl
theorem Tryz.cellsStrs : Tryz.prog.cellsOf 75 = 1 := by kernel_rfl
theorem Tryz.bytesStr : Tryz.prog.bytesOf 9 = 16 := by kernel_rfl
theorem cell_spot {w : World} {a : Addr} {v : Value} (h : w.cell? a = some v) : a = ⟨a.block, a.off, none⟩ := by
  obtain ⟨b, o, s⟩ := a
  cases s with
  | none => rfl
  | some q =>
    unfold World.cell? at h
    split at h
    · simp at h
    · simp at h
theorem weightsAll_mem {H : Type} {P : Program} {e : TypeId} {d : DataW H} {l : List (DataW H)} {n : Nat} (hd : d ∈ l) (hn : n ∈ d.weights P e) : n ∈ DataW.weightsAll P e l := by
  induction l with
  | nil => cases hd
  | cons x t ih =>
    rw [DataW.weightsAll, List.mem_append]
    rcases List.mem_cons.1 hd with rfl | h
    · exact .inl hn
    · exact .inr (ih h)
/-- What a page that came in holds. -/
structure PgIn (W : World) (v : Value) (a k u r : Int) (h : ByteArray) (B : Nat) (ao : Option Addr) (cp : Nat) (l : List ByteArray) : Prop where
  val : v = .agg #[.int .i64 a, .int .i64 k, .int .i64 u, .int .i64 r, .string h, .slice ao l.length cp]
  a : -9223372036854775808 ≤ a ∧ a < 9223372036854775808
  k : -9223372036854775808 ≤ k ∧ k < 9223372036854775808
  u : -9223372036854775808 ≤ u ∧ u < 9223372036854775808
  r : -9223372036854775808 ≤ r ∧ r < 9223372036854775808
  high : h.size ≤ 140737488355328
  strs : Strs W B ao l
  fit : Fit ao l.length cp
  len : l.length ≤ 8796093021952
theorem strs_of_trod {H : Type} {enc : TypeId × Value → H} {W : World} {c : Value} {x : DataW H × List MemPlace} {n : Nat} (h : DataW.trod enc Tryz.prog W 0 (fun _ => true) true n 75 [c] = some x) (hw : ∀ m ∈ x.1.weights Tryz.prog 75, m ≤ reachBytes) :
    ∃ (B : Nat) (ao : Option Addr) (cp : Nat) (l : List ByteArray), c = .slice ao l.length cp ∧ Strs W B ao l ∧ Fit ao l.length cp ∧ l.length ≤ 8796093021952 := by
  rcases open_strs Tryz.underlying75 Tryz.underlying9 Tryz.cellsStr h with ⟨hcs, _⟩ | ⟨ad, len, cap, m, Sx, hcs, _, hl, hm, hmm, hx, hc⟩
  · simp at hcs
    subst hcs
    exact ⟨0, none, 0, [], rfl, Strs.nil _ _ _, ⟨fun _ => rfl, by simp, (by unfold maxLen; omega)⟩, by simp⟩
  · simp at hcs hmm
    subst hcs
    subst hmm
    rw [hx] at hw
    simp only [DataW.weights, Tryz.underlying75, Tryz.bytesStr] at hw
    have hwb := hw ((((List.range len).map fun i => DataW.lit (H := H) (.string (Sx i).data.toList)).length + ((List.range (m - len)).map fun j => DataW.lit (H := H) (.string (Sx (len + j)).data.toList)).length) * 16) (by simp)
    simp only [List.length_map, List.length_range] at hwb
    have hlen : ((List.range len).map Sx).length = len := by simp
    have hwr : reachBytes = 140737488351232 := by decide
    refine ⟨ad.block, some ad, m, (List.range len).map Sx, by rw [hlen], ⟨fun h0 => ?_, fun h0 => ?_, by rw [hlen]; omega, fun s hs => ?_⟩, ⟨(fun h => by cases h), (by rw [hlen]; exact hl), hm⟩, by rw [hlen]; omega⟩
    · rw [hlen] at h0
      have c0 := (hc 0 (by omega)).1
      have e0 : ad.add 0 = ad := by unfold Addr.add; split <;> simp_all
      rw [e0] at c0
      have ha := cell_spot c0
      refine ⟨ad.off, by rw [← ha], fun j hj => ?_⟩
      rw [hlen] at hj
      have cj := (hc j (by omega)).1
      rw [ha, add_at] at cj
      rw [cj]
      simp
    · rw [hlen] at h0
      have c0 := (hc 0 (by omega)).1
      have e0 : ad.add 0 = ad := by unfold Addr.add; split <;> simp_all
      rw [e0] at c0
      exact World.block_lt_of_cell? W _ c0
    · obtain ⟨i, hi, rfl⟩ := List.mem_map.1 hs
      have hmem : (DataW.lit (H := H) (.string (Sx i).data.toList)) ∈ (List.range len).map fun i => DataW.lit (H := H) (.string (Sx i).data.toList) := List.mem_map.2 ⟨i, hi, rfl⟩
      have := hw (Sx i).data.toList.length (by
        refine List.mem_cons_of_mem _ (List.mem_append.2 (.inl (weightsAll_mem hmem ?_)))
        simp [DataW.weights])
      rw [show (Sx i).data.toList.length = (Sx i).size from bl_len _] at this
      omega
set_option maxRecDepth 100000 in
theorem open_page {H : Type} {enc : TypeId × Value → H} {W : World} {base : Nat} {v : Value} {d : DataW H} {ps : List MemPlace} (hok : Value.okWide Tryz.prog W .any base 77 v) (h : DataW.Trod enc Tryz.prog W 0 (fun _ => true) true 77 v d ps)
    (hw : ∀ m ∈ d.weights Tryz.prog 77, m ≤ reachBytes) : ∃ a k u r h B ao cp l, PgIn W v a k u r h B ao cp l := by
  obtain ⟨cs, rfl, hs⟩ := okWide_struct Tryz.underlying77 hok
  obtain ⟨fuel, hf⟩ := h
  rw [Tryz.cellsPage] at hs
  obtain ⟨xs, n, _, hx, _, hlen, hfs⟩ := DataW.trod_struct Tryz.underlying77 hf
  obtain ⟨c0, c1, c2, c3, c4, c5, rfl⟩ : ∃ c0 c1 c2 c3 c4 c5, cs = #[c0, c1, c2, c3, c4, c5] := by
    obtain ⟨l⟩ := cs
    match l, hs with
    | [c0, c1, c2, c3, c4, c5], _ => exact ⟨c0, c1, c2, c3, c4, c5, rfl⟩
  match xs, hlen with
  | [y0, y1, y2, y3, y4, y5], _ =>
    simp only [Prod.mk.injEq] at hx
    have g0 := hfs 0 _ rfl
    have g1 := hfs 1 _ rfl
    have g2 := hfs 2 _ rfl
    have g3 := hfs 3 _ rfl
    have g4 := hfs 4 _ rfl
    have g5 := hfs 5 _ rfl
    simp [Value.cells, Tryz.cellsInt, Tryz.cellsStr, Tryz.cellsStrs] at g0 g1 g2 g3 g4 g5
    obtain ⟨a, e0, _, w0⟩ := DataW.trod_int Tryz.underlying3 g0
    obtain ⟨k, e1, _, w1⟩ := DataW.trod_int Tryz.underlying3 g1
    obtain ⟨u, e2, _, w2⟩ := DataW.trod_int Tryz.underlying3 g2
    obtain ⟨r, e3, _, w3⟩ := DataW.trod_int Tryz.underlying3 g3
    obtain ⟨h, e4, f4, _⟩ := DataW.trod_string Tryz.underlying9 g4
    simp at e0 e1 e2 e3 e4
    rw [hx.1] at hw
    simp only [DataW.weights, Tryz.underlying77] at hw
    have hw4 : ∀ m ∈ y4.1.weights Tryz.prog 9, m ≤ reachBytes := fun m hm => hw m (DataW.weights_mem_each (j := 4) (t := 9) (d := y4.1) rfl rfl m hm)
    have hw5 : ∀ m ∈ y5.1.weights Tryz.prog 75, m ≤ reachBytes := fun m hm => hw m (DataW.weights_mem_each (j := 5) (t := 75) (d := y5.1) rfl rfl m hm)
    obtain ⟨B, ao, cp, l, e5, hS, hF, hL⟩ := strs_of_trod g5 hw5
    have hwr : reachBytes = 140737488351232 := by decide
    have hh : h.size ≤ 140737488355328 := by
      rw [f4] at hw4
      have := hw4 h.data.toList.length (by simp [DataW.weights])
      rw [show h.data.toList.length = h.size from bl_len _] at this
      omega
    have b0 := bounds_i64 w0
    have b1 := bounds_i64 w1
    have b2 := bounds_i64 w2
    have b3 := bounds_i64 w3
    exact ⟨a, k, u, r, h, B, ao, cp, l, ⟨by rw [e0, e1, e2, e3, e4, e5], by omega, by omega, by omega, by omega, hh, hS, hF, hL⟩⟩
end Go.Proofs.YtfkcbdiffmacgaaGreatDoor

namespace Go.Proofs.YtfkcbdiffmacgaaGreatDoor
open Go.ChangeShapes Go.WideShapes Go.ChangeAt Go.RowKit

theorem ownKnob_none : ownKnob Tryz.prog.godebug = none := by kernel_rfl
theorem gFirst : Tryz.prog.globalNamed "unicode/utf8.first" = some 1 := by kernel_rfl
theorem gRanges : Tryz.prog.globalNamed "unicode/utf8.acceptRanges" = some 2 := by kernel_rfl
def putCells (cs : Array Value) : Obj → Obj
  | .cells _ t frozen => .cells cs t frozen
  | o => o
def firstCells : Array Value := (Go.Pinned.utf8FirstZ.map fun n : Nat => Value.int .u8 (n : Int)).toArray
def rangeCells : Array Value := #[.int .u8 128, .int .u8 191, .int .u8 160, .int .u8 191, .int .u8 128, .int .u8 159, .int .u8 144, .int .u8 191, .int .u8 128, .int .u8 143, .int .u8 0, .int .u8 0, .int .u8 0, .int .u8 0, .int .u8 0, .int .u8 0, .int .u8 0, .int .u8 0, .int .u8 0, .int .u8 0, .int .u8 0, .int .u8 0, .int .u8 0, .int .u8 0, .int .u8 0, .int .u8 0, .int .u8 0, .int .u8 0, .int .u8 0, .int .u8 0, .int .u8 0, .int .u8 0]
noncomputable def settled (os : Os) : World := World.holding Tryz.prog os ⟨#[], #[], []⟩
/-- A world for the witness: the settled one, the two tables as they are laid. -/
noncomputable def laidWorld (os : Os) : World := { settled os with heap := ((settled os).heap.modify 1 (putCells firstCells)).modify 2 (putCells rangeCells) }
theorem sized_mem {H : Type} {ts : List TypeId} {ds : List (DataW H)} (h : (DataW.weightsEach Tryz.prog ts ds).all (· ≤ reachBytes) = true) {j : Nat} {t : TypeId} {d : DataW H} (ht : ts[j]? = some t) (hd : ds[j]? = some d) : ∀ n ∈ d.weights Tryz.prog t, n ≤ reachBytes := by
  intro n hn
  have := List.all_eq_true.1 h _ (DataW.weights_mem_each ht hd n hn)
  simpa using this
end Go.Proofs.YtfkcbdiffmacgaaGreatDoor

namespace Go.Proofs.YtfkcbdiffmacgaaGreatDoor
open Go.ChangeShapes Go.WideShapes Go.ChangeAt Go.RowKit Go.Deep

theorem Tryz.cellsRec : Tryz.prog.cellsOf 37 = 16 := by kernel_rfl
theorem Tryz.cellsImage : Tryz.prog.cellsOf 79 = 7 := by kernel_rfl
theorem Tryz.cellsOwed : Tryz.prog.cellsOf 82 = 2 := by kernel_rfl
theorem Tryz.cellsBegun : Tryz.prog.cellsOf 84 = 2 := by kernel_rfl
theorem Tryz.cellsKind : Tryz.prog.cellsOf 31 = 1 := by kernel_rfl
theorem Tryz.cellsInts : Tryz.prog.cellsOf 32 = 1 := by kernel_rfl
theorem Tryz.cellsImages : Tryz.prog.cellsOf 33 = 1 := by kernel_rfl
theorem Tryz.cellsOweds : Tryz.prog.cellsOf 34 = 1 := by kernel_rfl
theorem Tryz.cellsBeguns : Tryz.prog.cellsOf 35 = 1 := by kernel_rfl
theorem Tryz.bytesInt : Tryz.prog.bytesOf 3 = 8 := by kernel_rfl
theorem Tryz.bytesImage : Tryz.prog.bytesOf 79 = 80 := by kernel_rfl
theorem Tryz.bytesOwed : Tryz.prog.bytesOf 82 = 16 := by kernel_rfl
theorem Tryz.bytesBegun : Tryz.prog.bytesOf 84 = 16 := by kernel_rfl
theorem add0 (a : Addr) : a.add 0 = a := by unfold Addr.add; simp
set_option maxRecDepth 100000 in
/-- What the walk's opening of a slice gives, with the reach. -/
theorem slice_reach {H : Type} {enc : TypeId × Value → H} {W : World} {t e : TypeId} {c : Value} {x : DataW H × List MemPlace} {n : Nat} (ht : Tryz.prog.underlying t = some (.slice e)) (h : DataW.trod enc Tryz.prog W 0 (fun _ => true) true n t [c] = some x) (hw : ∀ m ∈ x.1.weights Tryz.prog t, m ≤ reachBytes) (hb : 8 ≤ Tryz.prog.bytesOf e) :
    c = .slice none 0 0 ∨ ∃ (a : Addr) (len cap m : Nat) (D : Nat → DataW H) (Pl : Nat → List MemPlace), c = .slice (some a) len cap ∧ len ≤ cap ∧ cap ≤ maxLen ∧ cap ≤ 17592186043904 ∧
      (∀ i, i < cap → ∃ cs', W.cells? 0 (a.add (i * Tryz.prog.cellsOf e)) (Tryz.prog.cellsOf e) = some cs' ∧ DataW.trod enc Tryz.prog W 0 (fun _ => true) true m e cs' = some (D i, Pl i)) ∧
      (∀ i, i < len → ∀ k ∈ (D i).weights Tryz.prog e, k ≤ reachBytes) := by
  rcases open_slice ht h with ⟨hcs, hx⟩ | ⟨a', len', cap', m, n', D, Pl, hcs, hb', hl, hm, hmm, hx, hit⟩
  · simp at hcs
    exact .inl hcs
  · simp at hcs hmm
    subst hmm
    have hwr : reachBytes = 140737488351232 := by decide
    rw [hx] at hw
    simp only [DataW.weights, ht] at hw
    have hwb := hw ((((List.range len').map D).length + ((List.range (m - len')).map fun j => D (len' + j)).length) * Tryz.prog.bytesOf e) (by simp)
    simp only [List.length_map, List.length_range] at hwb
    have h8 : (len' + (m - len')) * 8 ≤ (len' + (m - len')) * Tryz.prog.bytesOf e := Nat.mul_le_mul_left _ hb
    refine .inr ⟨a', len', m, n', D, Pl, hcs, hl, hm, by omega, hit, fun i hi k hk => ?_⟩
    refine hw k (List.mem_cons_of_mem _ (List.mem_append.2 (.inl (weightsAll_mem (d := D i) (List.mem_map.2 ⟨i, List.mem_range.2 hi, rfl⟩) hk))))
set_option maxRecDepth 100000 in
theorem zs_of_trod {H : Type} {enc : TypeId × Value → H} {W : World} {c : Value} {x : DataW H × List MemPlace} {n : Nat} (h : DataW.trod enc Tryz.prog W 0 (fun _ => true) true n 32 [c] = some x) (hw : ∀ m ∈ x.1.weights Tryz.prog 32, m ≤ reachBytes) :
    ∃ (B : Nat) (ao : Option Addr) (cp : Nat) (l : List Int), c = .slice ao l.length cp ∧ Zs W B ao l ∧ Fit ao l.length cp := by
  rcases slice_reach Tryz.underlying32 h hw (by rw [Tryz.bytesInt]; decide) with rfl | ⟨a, len, cap, m, D, Pl, rfl, hl, hm, hc, hit, _⟩
  · exact ⟨0, none, 0, [], rfl, Zs.nil _ _ _, ⟨fun _ => rfl, by simp, by simp⟩⟩
  · have one : ∀ i, i < cap → ∃ z : Int, W.cell? (a.add i) = some (.int .i64 z) := fun i hi => by
      obtain ⟨cs', h1, h2⟩ := hit i hi
      rw [Tryz.cellsInt] at h1
      obtain ⟨_, hlen, hcell⟩ := World.cells?_some h1
      match cs', hlen with
      | [v0], _ =>
        obtain ⟨z, e0, _, _⟩ := DataW.trod_int Tryz.underlying3 h2
        simp at e0
        subst e0
        have c0 := hcell 0 (by omega)
        rw [add0, Nat.mul_one] at c0
        exact ⟨z, by simpa using c0⟩
    obtain ⟨q, hq⟩ := choose_lt (n := cap) one
    have hlen : ((List.range len).map q).length = len := by simp
    refine ⟨a.block, some a, cap, (List.range len).map q, by rw [hlen], ⟨fun h0 => ?_, fun h0 => ?_, by rw [hlen]; omega⟩, ⟨(fun h => by cases h), (by rw [hlen]; exact hl), hm⟩⟩
    · rw [hlen] at h0
      have c0 := hq 0 (by omega)
      rw [add0] at c0
      have ha := cell_spot c0
      refine ⟨a.off, by rw [← ha], fun j hj => ?_⟩
      rw [hlen] at hj
      have cj := hq j (by omega)
      rw [ha, add_at] at cj
      rw [cj]
      simp
    · rw [hlen] at h0
      have c0 := hq 0 (by omega)
      rw [add0] at c0
      exact World.block_lt_of_cell? W _ c0
set_option maxRecDepth 100000 in
theorem prs_of_trod {H : Type} {enc : TypeId × Value → H} {W : World} {t e : TypeId} {c : Value} {x : DataW H × List MemPlace} {n : Nat} (ht : Tryz.prog.underlying t = some (.slice e)) (hce : Tryz.prog.cellsOf e = 2) (hbe : Tryz.prog.bytesOf e = 16)
    (two : ∀ (m : Nat) (v0 v1 : Value) (y : DataW H × List MemPlace), DataW.trod enc Tryz.prog W 0 (fun _ => true) true m e [v0, v1] = some y → ∃ a b : Int, v0 = .int .i64 a ∧ v1 = .int .i64 b)
    (h : DataW.trod enc Tryz.prog W 0 (fun _ => true) true n t [c] = some x) (hw : ∀ m ∈ x.1.weights Tryz.prog t, m ≤ reachBytes) :
    ∃ (B : Nat) (ao : Option Addr) (cp : Nat) (l : List (Int × Int)), c = .slice ao l.length cp ∧ Prs W B ao l := by
  rcases slice_reach ht h hw (by rw [hbe]; decide) with rfl | ⟨a, len, cap, m, D, Pl, rfl, hl, hm, hc, hit, _⟩
  · exact ⟨0, none, 0, [], rfl, Prs.nil _ _ _⟩
  · have one : ∀ i, i < cap → ∃ z : Int × Int, W.cell? (a.add (i * 2)) = some (.int .i64 z.1) ∧ W.cell? (a.add (i * 2 + 1)) = some (.int .i64 z.2) := fun i hi => by
      obtain ⟨cs', h1, h2⟩ := hit i hi
      rw [hce] at h1
      obtain ⟨_, hlen, hcell⟩ := World.cells?_some h1
      match cs', hlen with
      | [v0, v1], _ =>
        obtain ⟨p, q, e0, e1⟩ := two _ _ _ _ h2
        subst e0; subst e1
        have c0 := hcell 0 (by omega)
        have c1 := hcell 1 (by omega)
        rw [add_add] at c0 c1
        exact ⟨(p, q), by simpa using c0, by simpa using c1⟩
    obtain ⟨q, hq⟩ := choose_lt (n := cap) one
    have hlen : ((List.range len).map q).length = len := by simp
    refine ⟨a.block, some a, cap, (List.range len).map q, by rw [hlen], ⟨fun h0 => ?_, fun h0 => ?_, by rw [hlen]; omega⟩⟩
    · rw [hlen] at h0
      have c0 := (hq 0 (by omega)).1
      rw [Nat.zero_mul, add0] at c0
      have ha := cell_spot c0
      refine ⟨a.off, by rw [← ha], fun j hj => ?_⟩
      rw [hlen] at hj
      have cj := hq j (by omega)
      rw [ha, add_at, add_at] at cj
      simpa [Nat.add_assoc] using cj
    · rw [hlen] at h0
      have c0 := (hq 0 (by omega)).1
      rw [Nat.zero_mul, add0] at c0
      exact World.block_lt_of_cell? W _ c0
set_option maxRecDepth 100000 in
theorem two_owed {H : Type} {enc : TypeId × Value → H} {W : World} (m : Nat) (v0 v1 : Value) (y : DataW H × List MemPlace) (h : DataW.trod enc Tryz.prog W 0 (fun _ => true) true m 82 [v0, v1] = some y) : ∃ a b : Int, v0 = .int .i64 a ∧ v1 = .int .i64 b := by
  obtain ⟨xs, n, _, hx, _, hlen, hfs⟩ := DataW.trod_struct Tryz.underlying82 h
  match xs, hlen with
  | [y0, y1], _ =>
    have g0 := hfs 0 _ rfl
    have g1 := hfs 1 _ rfl
    simp [Tryz.cellsInt] at g0 g1
    obtain ⟨a, e0, _, _⟩ := DataW.trod_int Tryz.underlying3 g0
    obtain ⟨b, e1, _, _⟩ := DataW.trod_int Tryz.underlying3 g1
    simp at e0 e1
    exact ⟨a, b, e0, e1⟩
set_option maxRecDepth 100000 in
theorem two_begun {H : Type} {enc : TypeId × Value → H} {W : World} (m : Nat) (v0 v1 : Value) (y : DataW H × List MemPlace) (h : DataW.trod enc Tryz.prog W 0 (fun _ => true) true m 84 [v0, v1] = some y) : ∃ a b : Int, v0 = .int .i64 a ∧ v1 = .int .i64 b := by
  obtain ⟨xs, n, _, hx, _, hlen, hfs⟩ := DataW.trod_struct Tryz.underlying84 h
  match xs, hlen with
  | [y0, y1], _ =>
    have g0 := hfs 0 _ rfl
    have g1 := hfs 1 _ rfl
    simp [Tryz.cellsInt] at g0 g1
    obtain ⟨a, e0, _, _⟩ := DataW.trod_int Tryz.underlying3 g0
    obtain ⟨b, e1, _, _⟩ := DataW.trod_int Tryz.underlying3 g1
    simp at e0 e1
    exact ⟨a, b, e0, e1⟩
set_option maxRecDepth 100000 in
/-- A page's cells that came in. -/
theorem page_of_trod {H : Type} {enc : TypeId × Value → H} {W : World} {c0 c1 c2 c3 c4 c5 : Value} {x : DataW H × List MemPlace} {n : Nat} (h : DataW.trod enc Tryz.prog W 0 (fun _ => true) true n 77 [c0, c1, c2, c3, c4, c5] = some x) (hw : ∀ m ∈ x.1.weights Tryz.prog 77, m ≤ reachBytes) :
    ∃ (p : Pg) (B : Nat) (ao : Option Addr) (cp : Nat), c0 = .int .i64 p.lsn ∧ c1 = .int .i64 p.kind ∧ c2 = .int .i64 p.level ∧ c3 = .int .i64 p.right ∧ c4 = .string p.high ∧ c5 = .slice ao p.items.length cp ∧ Strs W B ao p.items ∧ Fit ao p.items.length cp ∧ p.high.size ≤ 140737488355328 ∧ p.lsn < 9223372036854775808 := by
  obtain ⟨xs, n', _, hx, _, hlen, hfs⟩ := DataW.trod_struct Tryz.underlying77 h
  match xs, hlen with
  | [y0, y1, y2, y3, y4, y5], _ =>
    have g0 := hfs 0 _ rfl
    have g1 := hfs 1 _ rfl
    have g2 := hfs 2 _ rfl
    have g3 := hfs 3 _ rfl
    have g4 := hfs 4 _ rfl
    have g5 := hfs 5 _ rfl
    simp [Tryz.cellsInt, Tryz.cellsStr, Tryz.cellsStrs] at g0 g1 g2 g3 g4 g5
    obtain ⟨a, e0, _, w0⟩ := DataW.trod_int Tryz.underlying3 g0
    obtain ⟨k, e1, _, w1⟩ := DataW.trod_int Tryz.underlying3 g1
    obtain ⟨u, e2, _, w2⟩ := DataW.trod_int Tryz.underlying3 g2
    obtain ⟨r, e3, _, w3⟩ := DataW.trod_int Tryz.underlying3 g3
    obtain ⟨h, e4, f4, _⟩ := DataW.trod_string Tryz.underlying9 g4
    simp at e0 e1 e2 e3 e4
    rw [hx] at hw
    simp only [DataW.weights, Tryz.underlying77] at hw
    have hw4 : ∀ m ∈ y4.1.weights Tryz.prog 9, m ≤ reachBytes := fun m hm => hw m (DataW.weights_mem_each (j := 4) (t := 9) (d := y4.1) rfl rfl m hm)
    have hw5 : ∀ m ∈ y5.1.weights Tryz.prog 75, m ≤ reachBytes := fun m hm => hw m (DataW.weights_mem_each (j := 5) (t := 75) (d := y5.1) rfl rfl m hm)
    obtain ⟨B, ao, cp, l, e5, hS, hF, hL⟩ := strs_of_trod g5 hw5
    have hwr : reachBytes = 140737488351232 := by decide
    have hh : h.size ≤ 140737488355328 := by
      rw [f4] at hw4
      have := hw4 h.data.toList.length (by simp [DataW.weights])
      rw [show h.data.toList.length = h.size from bl_len _] at this
      omega
    have b0 := bounds_i64 w0
    exact ⟨⟨a, k, u, r, h, l⟩, B, ao, cp, e0, e1, e2, e3, e4, e5, hS, hF, hh, by show a < _; omega⟩
set_option maxRecDepth 100000 in
theorem im_of_trod {H : Type} {enc : TypeId × Value → H} {W : World} {c0 c1 c2 c3 c4 c5 c6 : Value} {x : DataW H × List MemPlace} {n : Nat} (h : DataW.trod enc Tryz.prog W 0 (fun _ => true) true n 79 [c0, c1, c2, c3, c4, c5, c6] = some x) (hw : ∀ m ∈ x.1.weights Tryz.prog 79, m ≤ reachBytes) :
    ∃ (i : Im) (B : Nat) (ao : Option Addr) (cp : Nat), c0 = .int .i64 i.page ∧ c1 = .int .i64 i.body.lsn ∧ c2 = .int .i64 i.body.kind ∧ c3 = .int .i64 i.body.level ∧ c4 = .int .i64 i.body.right ∧ c5 = .string i.body.high ∧ c6 = .slice ao i.body.items.length cp ∧ Strs W B ao i.body.items ∧ Fit ao i.body.items.length cp ∧ i.body.high.size ≤ 140737488355328 ∧ i.body.lsn < 9223372036854775808 := by
  obtain ⟨xs, n', _, hx, _, hlen, hfs⟩ := DataW.trod_struct Tryz.underlying79 h
  match xs, hlen with
  | [y0, y1], _ =>
    have g0 := hfs 0 _ rfl
    have g1 := hfs 1 _ rfl
    simp [Tryz.cellsInt, Tryz.cellsPage] at g0 g1
    obtain ⟨a, e0, _, _⟩ := DataW.trod_int Tryz.underlying3 g0
    simp at e0
    rw [hx] at hw
    simp only [DataW.weights, Tryz.underlying79] at hw
    have hw1 : ∀ m ∈ y1.1.weights Tryz.prog 77, m ≤ reachBytes := fun m hm => hw m (DataW.weights_mem_each (j := 1) (t := 77) (d := y1.1) rfl rfl m hm)
    obtain ⟨p, B, ao, cp, k0, k1, k2, k3, k4, k5, hS, hF, hh, hl⟩ := page_of_trod g1 hw1
    exact ⟨⟨a, p⟩, B, ao, cp, e0, k0, k1, k2, k3, k4, k5, hS, hF, hh, hl⟩
set_option maxRecDepth 100000 in
theorem ims_of_trod {H : Type} {enc : TypeId × Value → H} {W : World} {c : Value} {x : DataW H × List MemPlace} {n : Nat} (h : DataW.trod enc Tryz.prog W 0 (fun _ => true) true n 33 [c] = some x) (hw : ∀ m ∈ x.1.weights Tryz.prog 33, m ≤ reachBytes) :
    ∃ (B : Nat) (ao : Option Addr) (cp : Nat) (l : List Im), c = .slice ao l.length cp ∧ Ims W (fun _ => True) B ao l := by
  rcases slice_reach Tryz.underlying33 h hw (by rw [Tryz.bytesImage]; decide) with rfl | ⟨a, len, cap, m, D, Pl, rfl, hl, hm, hc, hit, hwe⟩
  · exact ⟨0, none, 0, [], rfl, Ims.nil _ _ _ _⟩
  · by_cases hl0 : len = 0
    · subst hl0
      exact ⟨0, some a, cap, [], rfl, Ims.nil _ _ _ _⟩
    have ha : a = ⟨a.block, a.off, none⟩ := by
      obtain ⟨cs', h1, h2⟩ := hit 0 (by omega)
      rw [Tryz.cellsImage] at h1
      obtain ⟨_, hlen, hcell⟩ := World.cells?_some h1
      have c0 := hcell 0 (by omega)
      rw [add_add, Nat.zero_mul, add0] at c0
      match cs', hlen with
      | v0 :: _, _ => exact cell_spot (v := v0) (by simpa using c0)
    have inh : Inhabited (Im × Nat × Option Addr × Nat) := ⟨(⟨0, Pg.none⟩, 0, none, 0)⟩
    have one : ∀ i, i < len → ∃ z : Im × Nat × Option Addr × Nat, ∃ b o, a = ⟨b, o, none⟩ ∧ b < W.heap.size ∧ ImAt W b (o + i * 7) z.1 z.2.1 z.2.2.1 z.2.2.2 := fun i hi => by
      obtain ⟨cs', h1, h2⟩ := hit i (by omega)
      rw [Tryz.cellsImage] at h1
      obtain ⟨_, hlen, hcell⟩ := World.cells?_some h1
      match cs', hlen with
      | [v0, v1, v2, v3, v4, v5, v6], _ =>
        obtain ⟨j, B, ao, cp, e0, e1, e2, e3, e4, e5, e6, hS, hF, hh, hls⟩ := im_of_trod h2 (hwe i hi)
        subst e0 e1 e2 e3 e4 e5 e6
        have c0 := hcell 0 (by omega)
        have c1 := hcell 1 (by omega)
        have c2 := hcell 2 (by omega)
        have c3 := hcell 3 (by omega)
        have c4 := hcell 4 (by omega)
        have c5 := hcell 5 (by omega)
        have c6 := hcell 6 (by omega)
        rw [add_add] at c0 c1 c2 c3 c4 c5 c6
        rw [ha, add_at] at c0 c1 c2 c3 c4 c5 c6
        have hb := World.block_lt_of_cell? W _ c0
        refine ⟨(j, B, ao, cp), a.block, a.off, ha, hb, ⟨by simpa using c0, by simpa [Nat.add_assoc] using c1, by simpa [Nat.add_assoc] using c2, by simpa [Nat.add_assoc] using c3, by simpa [Nat.add_assoc] using c4, by simpa [Nat.add_assoc] using c5, by simpa [Nat.add_assoc] using c6, hS, hF, hh, hls⟩⟩
    obtain ⟨q, hq⟩ := choose_lt (n := len) one
    have hlen : ((List.range len).map fun i => (q i).1).length = len := by simp
    refine ⟨a.block, some a, cap, (List.range len).map fun i => (q i).1, by rw [hlen], ⟨fun h0 => ?_, fun h0 => ?_, by rw [hlen]; omega⟩⟩
    · rw [hlen] at h0
      obtain ⟨b, o, ha, hb, _⟩ := hq 0 (by omega)
      subst ha
      refine ⟨o, rfl, fun j hj => ?_⟩
      rw [hlen] at hj
      obtain ⟨b', o', ha', hb', hI⟩ := hq j hj
      injection ha' with e1 e2
      subst e1 e2
      refine ⟨(q j).2.1, (q j).2.2.1, (q j).2.2.2, ?_, fun _ => trivial⟩
      simpa using hI
    · rw [hlen] at h0
      obtain ⟨b, o, ha, hb, _⟩ := hq 0 (by omega)
      subst ha
      exact hb

set_option maxRecDepth 100000 in
theorem open_rec {H : Type} {enc : TypeId × Value → H} {W : World} {base : Nat} {v : Value} {d : DataW H} {ps : List MemPlace} (hok : Value.okWide Tryz.prog W .any base 37 v) (h : DataW.Trod enc Tryz.prog W 0 (fun _ => true) true 37 v d ps)
    (hw : ∀ m ∈ d.weights Tryz.prog 37, m ≤ reachBytes) : ∃ (r : Rc) (L : Loc), v = .agg (r.cells L) ∧ RcAt W r L := by
  obtain ⟨cs, rfl, hs⟩ := okWide_struct Tryz.underlying37 hok
  obtain ⟨fuel, hf⟩ := h
  rw [Tryz.cellsRec] at hs
  obtain ⟨xs, n, _, hx, _, hlen, hfs⟩ := DataW.trod_struct Tryz.underlying37 hf
  obtain ⟨c0, c1, c2, c3, c4, c5, c6, c7, c8, c9, c10, c11, c12, c13, c14, c15, rfl⟩ : ∃ c0 c1 c2 c3 c4 c5 c6 c7 c8 c9 c10 c11 c12 c13 c14 c15, cs = #[c0, c1, c2, c3, c4, c5, c6, c7, c8, c9, c10, c11, c12, c13, c14, c15] := by
    obtain ⟨l⟩ := cs
    match l, hs with
    | [c0, c1, c2, c3, c4, c5, c6, c7, c8, c9, c10, c11, c12, c13, c14, c15], _ => exact ⟨c0, c1, c2, c3, c4, c5, c6, c7, c8, c9, c10, c11, c12, c13, c14, c15, rfl⟩
  match xs, hlen with
  | [y0, y1, y2, y3, y4, y5, y6, y7, y8, y9, y10, y11, y12, y13, y14, y15], _ =>
    simp only [Prod.mk.injEq] at hx
    have g0 := hfs 0 _ rfl
    have g1 := hfs 1 _ rfl
    have g2 := hfs 2 _ rfl
    have g3 := hfs 3 _ rfl
    have g4 := hfs 4 _ rfl
    have g5 := hfs 5 _ rfl
    have g6 := hfs 6 _ rfl
    have g7 := hfs 7 _ rfl
    have g8 := hfs 8 _ rfl
    have g9 := hfs 9 _ rfl
    have g10 := hfs 10 _ rfl
    have g11 := hfs 11 _ rfl
    have g12 := hfs 12 _ rfl
    have g13 := hfs 13 _ rfl
    have g14 := hfs 14 _ rfl
    have g15 := hfs 15 _ rfl
    simp [Value.cells, Tryz.cellsInt, Tryz.cellsStr, Tryz.cellsKind, Tryz.cellsInts, Tryz.cellsImages, Tryz.cellsOweds, Tryz.cellsBeguns] at g0 g1 g2 g3 g4 g5 g6 g7 g8 g9 g10 g11 g12 g13 g14 g15
    obtain ⟨z0, e0, _, _⟩ := DataW.trod_int Tryz.underlying3 g0
    obtain ⟨z1, e1, _, _⟩ := DataW.trod_int Tryz.underlying3 g1
    obtain ⟨z2, e2, _, _⟩ := DataW.trod_int Tryz.underlying3 g2
    obtain ⟨z3, e3, _, w3⟩ := DataW.trod_int Tryz.underlying31 g3
    obtain ⟨z4, e4, _, _⟩ := DataW.trod_int Tryz.underlying3 g4
    obtain ⟨z5, e5, _, _⟩ := DataW.trod_int Tryz.underlying3 g5
    obtain ⟨z6, e6, _, _⟩ := DataW.trod_int Tryz.underlying3 g6
    obtain ⟨z7, e7, _, _⟩ := DataW.trod_int Tryz.underlying3 g7
    obtain ⟨z8, e8, _, _⟩ := DataW.trod_int Tryz.underlying3 g8
    obtain ⟨z9, e9, _, _⟩ := DataW.trod_int Tryz.underlying3 g9
    obtain ⟨s, e10, f10, _⟩ := DataW.trod_string Tryz.underlying9 g10
    simp at e0 e1 e2 e3 e4 e5 e6 e7 e8 e9 e10
    rw [hx.1] at hw
    simp only [DataW.weights, Tryz.underlying37] at hw
    have hw10 : ∀ m ∈ y10.1.weights Tryz.prog 9, m ≤ reachBytes := fun m hm => hw m (DataW.weights_mem_each (j := 10) (t := 9) (d := y10.1) rfl rfl m hm)
    have hw11 : ∀ m ∈ y11.1.weights Tryz.prog 32, m ≤ reachBytes := fun m hm => hw m (DataW.weights_mem_each (j := 11) (t := 32) (d := y11.1) rfl rfl m hm)
    have hw12 : ∀ m ∈ y12.1.weights Tryz.prog 32, m ≤ reachBytes := fun m hm => hw m (DataW.weights_mem_each (j := 12) (t := 32) (d := y12.1) rfl rfl m hm)
    have hw13 : ∀ m ∈ y13.1.weights Tryz.prog 33, m ≤ reachBytes := fun m hm => hw m (DataW.weights_mem_each (j := 13) (t := 33) (d := y13.1) rfl rfl m hm)
    have hw14 : ∀ m ∈ y14.1.weights Tryz.prog 34, m ≤ reachBytes := fun m hm => hw m (DataW.weights_mem_each (j := 14) (t := 34) (d := y14.1) rfl rfl m hm)
    have hw15 : ∀ m ∈ y15.1.weights Tryz.prog 35, m ≤ reachBytes := fun m hm => hw m (DataW.weights_mem_each (j := 15) (t := 35) (d := y15.1) rfl rfl m hm)
    obtain ⟨B1, a1, p1, l1, k1, hz1, hf1⟩ := zs_of_trod g11 hw11
    obtain ⟨B2, a2, p2, l2, k2, hz2, hf2⟩ := zs_of_trod g12 hw12
    obtain ⟨B3, a3, p3, l3, k3, hz3⟩ := ims_of_trod g13 hw13
    obtain ⟨B4, a4, p4, l4, k4, hz4⟩ := prs_of_trod Tryz.underlying34 Tryz.cellsOwed Tryz.bytesOwed two_owed g14 hw14
    obtain ⟨B5, a5, p5, l5, k5, hz5⟩ := prs_of_trod Tryz.underlying35 Tryz.cellsBegun Tryz.bytesBegun two_begun g15 hw15
    have hwr : reachBytes = 140737488351232 := by decide
    have hh : s.size ≤ 140737488355328 := by
      rw [f10] at hw10
      have := hw10 s.data.toList.length (by simp [DataW.weights])
      rw [show s.data.toList.length = s.size from bl_len _] at this
      omega
    have b3 := bounds_u8 w3
    refine ⟨⟨z0, z1, z2, z3, z4, z5, z6, z7, z8, z9, s, l1, l2, l3, l4, l5⟩, ⟨a1, a2, a3, a4, a5, p1, p2, p3, p4, p5, B1, B2, B3, B4, B5⟩, ?_, hz1, hz2, ⟨_, hz3⟩, hz4, hz5, hf1, hf2, hh, ⟨by show 0 ≤ z3; omega, by show z3 ≤ 255; omega⟩⟩
    rw [e0, e1, e2, e3, e4, e5, e6, e7, e8, e9, e10, k1, k2, k3, k4, k5]
end Go.Proofs.YtfkcbdiffmacgaaGreatDoor

namespace Go.Proofs.YtfkcbdiffmacgaaGreatDoor
open Go.ChangeShapes Go.WideShapes Go.ChangeAt Go.RowKit Go.Deep

theorem Tryz.bytesRec : Tryz.prog.bytesOf 37 = 216 := by kernel_rfl
set_option maxRecDepth 100000 in
theorem rec_of_trod {H : Type} {enc : TypeId × Value → H} {W : World} {c0 c1 c2 c3 c4 c5 c6 c7 c8 c9 c10 c11 c12 c13 c14 c15 : Value} {x : DataW H × List MemPlace} {n : Nat} (h : DataW.trod enc Tryz.prog W 0 (fun _ => true) true n 37 [c0, c1, c2, c3, c4, c5, c6, c7, c8, c9, c10, c11, c12, c13, c14, c15] = some x)
    (hw : ∀ m ∈ x.1.weights Tryz.prog 37, m ≤ reachBytes) : ∃ (r : Rc) (L : Loc), [c0, c1, c2, c3, c4, c5, c6, c7, c8, c9, c10, c11, c12, c13, c14, c15] = r.cl L ∧ RcAt W r L := by
  obtain ⟨xs, n', _, hx, _, hlen, hfs⟩ := DataW.trod_struct Tryz.underlying37 h
  match xs, hlen with
  | [y0, y1, y2, y3, y4, y5, y6, y7, y8, y9, y10, y11, y12, y13, y14, y15], _ =>
    have g0 := hfs 0 _ rfl
    have g1 := hfs 1 _ rfl
    have g2 := hfs 2 _ rfl
    have g3 := hfs 3 _ rfl
    have g4 := hfs 4 _ rfl
    have g5 := hfs 5 _ rfl
    have g6 := hfs 6 _ rfl
    have g7 := hfs 7 _ rfl
    have g8 := hfs 8 _ rfl
    have g9 := hfs 9 _ rfl
    have g10 := hfs 10 _ rfl
    have g11 := hfs 11 _ rfl
    have g12 := hfs 12 _ rfl
    have g13 := hfs 13 _ rfl
    have g14 := hfs 14 _ rfl
    have g15 := hfs 15 _ rfl
    simp [Tryz.cellsInt, Tryz.cellsStr, Tryz.cellsKind, Tryz.cellsInts, Tryz.cellsImages, Tryz.cellsOweds, Tryz.cellsBeguns] at g0 g1 g2 g3 g4 g5 g6 g7 g8 g9 g10 g11 g12 g13 g14 g15
    obtain ⟨z0, e0, _, _⟩ := DataW.trod_int Tryz.underlying3 g0
    obtain ⟨z1, e1, _, _⟩ := DataW.trod_int Tryz.underlying3 g1
    obtain ⟨z2, e2, _, _⟩ := DataW.trod_int Tryz.underlying3 g2
    obtain ⟨z3, e3, _, w3⟩ := DataW.trod_int Tryz.underlying31 g3
    obtain ⟨z4, e4, _, _⟩ := DataW.trod_int Tryz.underlying3 g4
    obtain ⟨z5, e5, _, _⟩ := DataW.trod_int Tryz.underlying3 g5
    obtain ⟨z6, e6, _, _⟩ := DataW.trod_int Tryz.underlying3 g6
    obtain ⟨z7, e7, _, _⟩ := DataW.trod_int Tryz.underlying3 g7
    obtain ⟨z8, e8, _, _⟩ := DataW.trod_int Tryz.underlying3 g8
    obtain ⟨z9, e9, _, _⟩ := DataW.trod_int Tryz.underlying3 g9
    obtain ⟨s, e10, f10, _⟩ := DataW.trod_string Tryz.underlying9 g10
    simp at e0 e1 e2 e3 e4 e5 e6 e7 e8 e9 e10
    rw [hx] at hw
    simp only [DataW.weights, Tryz.underlying37] at hw
    have hw10 : ∀ m ∈ y10.1.weights Tryz.prog 9, m ≤ reachBytes := fun m hm => hw m (DataW.weights_mem_each (j := 10) (t := 9) (d := y10.1) rfl rfl m hm)
    have hw11 : ∀ m ∈ y11.1.weights Tryz.prog 32, m ≤ reachBytes := fun m hm => hw m (DataW.weights_mem_each (j := 11) (t := 32) (d := y11.1) rfl rfl m hm)
    have hw12 : ∀ m ∈ y12.1.weights Tryz.prog 32, m ≤ reachBytes := fun m hm => hw m (DataW.weights_mem_each (j := 12) (t := 32) (d := y12.1) rfl rfl m hm)
    have hw13 : ∀ m ∈ y13.1.weights Tryz.prog 33, m ≤ reachBytes := fun m hm => hw m (DataW.weights_mem_each (j := 13) (t := 33) (d := y13.1) rfl rfl m hm)
    have hw14 : ∀ m ∈ y14.1.weights Tryz.prog 34, m ≤ reachBytes := fun m hm => hw m (DataW.weights_mem_each (j := 14) (t := 34) (d := y14.1) rfl rfl m hm)
    have hw15 : ∀ m ∈ y15.1.weights Tryz.prog 35, m ≤ reachBytes := fun m hm => hw m (DataW.weights_mem_each (j := 15) (t := 35) (d := y15.1) rfl rfl m hm)
    obtain ⟨B1, a1, p1, l1, k1, hz1, hf1⟩ := zs_of_trod g11 hw11
    obtain ⟨B2, a2, p2, l2, k2, hz2, hf2⟩ := zs_of_trod g12 hw12
    obtain ⟨B3, a3, p3, l3, k3, hz3⟩ := ims_of_trod g13 hw13
    obtain ⟨B4, a4, p4, l4, k4, hz4⟩ := prs_of_trod Tryz.underlying34 Tryz.cellsOwed Tryz.bytesOwed two_owed g14 hw14
    obtain ⟨B5, a5, p5, l5, k5, hz5⟩ := prs_of_trod Tryz.underlying35 Tryz.cellsBegun Tryz.bytesBegun two_begun g15 hw15
    have hwr : reachBytes = 140737488351232 := by decide
    have hh : s.size ≤ 140737488355328 := by
      rw [f10] at hw10
      have := hw10 s.data.toList.length (by simp [DataW.weights])
      rw [show s.data.toList.length = s.size from bl_len _] at this
      omega
    have b3 := bounds_u8 w3
    refine ⟨⟨z0, z1, z2, z3, z4, z5, z6, z7, z8, z9, s, l1, l2, l3, l4, l5⟩, ⟨a1, a2, a3, a4, a5, p1, p2, p3, p4, p5, B1, B2, B3, B4, B5⟩, ?_, hz1, hz2, ⟨_, hz3⟩, hz4, hz5, hf1, hf2, hh, ⟨by show 0 ≤ z3; omega, by show z3 ≤ 255; omega⟩⟩
    rw [e0, e1, e2, e3, e4, e5, e6, e7, e8, e9, e10, k1, k2, k3, k4, k5]
    rfl
set_option maxRecDepth 100000 in
theorem open_recs {H : Type} {enc : TypeId × Value → H} {W : World} {base : Nat} {v : Value} {d : DataW H} {ps : List MemPlace} (hok : Value.okWide Tryz.prog W .any base 49 v) (h : DataW.Trod enc Tryz.prog W 0 (fun _ => true) true 49 v d ps)
    (hw : ∀ m ∈ d.weights Tryz.prog 49, m ≤ reachBytes) : ∃ (B : Nat) (ao : Option Addr) (cp : Nat) (l : List Lr), v = .slice ao l.length cp ∧ Rls W B ao l := by
  obtain ⟨fuel, hf⟩ := h
  have hv : v.cells.toList = [v] := by
    rcases okWide_slice Tryz.underlying49 hok with ⟨a, b, c, rfl⟩
    rfl
  rw [hv] at hf
  have hb16 : 8 ≤ Tryz.prog.bytesOf 37 := by rw [Tryz.bytesRec]; decide
  have hlen216 : ∀ (a : Addr) (len cap : Nat), v = .slice (some a) len cap → len ≤ cap → cap * 216 ≤ 140737488351232 := fun a len cap hv2 hle => by
    rcases open_slice Tryz.underlying49 hf with ⟨hcs, hx⟩ | ⟨a', len', cap', m, n', D, Pl, hcs, hb', hl, hm, hmm, hx, hit⟩
    · simp at hcs
      rw [hv2] at hcs
      cases hcs
    · simp at hcs hmm
      rw [hv2] at hcs
      cases hcs
      subst hmm
      have hx1 := congrArg Prod.fst hx
      simp only at hx1
      rw [hx1] at hw
      simp only [DataW.weights, Tryz.underlying49] at hw
      have hwb := hw ((((List.range len).map D).length + ((List.range (m - len)).map fun j => D (len + j)).length) * Tryz.prog.bytesOf 37) (by simp)
      simp only [List.length_map, List.length_range, Tryz.bytesRec] at hwb
      have hwr : reachBytes = 140737488351232 := by decide
      omega
  rcases slice_reach Tryz.underlying49 hf hw hb16 with rfl | ⟨a, len, cap, m, D, Pl, rfl, hl, hm, hc, hit, hwe⟩
  · exact ⟨0, none, 0, [], rfl, ⟨fun h => absurd h (by simp), (fun z hz => by cases hz), by simp⟩⟩
  · by_cases hl0 : len = 0
    · subst hl0
      exact ⟨0, some a, cap, [], rfl, ⟨fun h => absurd h (by simp), (fun z hz => by cases hz), by simp⟩⟩
    have hcap := hlen216 a len cap rfl hl
    have ha : a = ⟨a.block, a.off, none⟩ := by
      obtain ⟨cs', h1, h2⟩ := hit 0 (by omega)
      rw [Tryz.cellsRec] at h1
      obtain ⟨_, hlen, hcell⟩ := World.cells?_some h1
      have c0 := hcell 0 (by omega)
      rw [add_add, Nat.zero_mul, add0] at c0
      match cs', hlen with
      | v0 :: _, _ => exact cell_spot (v := v0) (by simpa using c0)
    have inh : Inhabited Lr := ⟨(Rc.none, Loc.none)⟩
    have one : ∀ i, i < len → ∃ z : Lr, W.rangeAt a.block (a.off + i * 16) (rcl z) ∧ RcAt W z.1 z.2 := fun i hi => by
      obtain ⟨cs', h1, h2⟩ := hit i (by omega)
      rw [Tryz.cellsRec] at h1
      obtain ⟨_, hlen, hcell⟩ := World.cells?_some h1
      match cs', hlen with
      | [v0, v1, v2, v3, v4, v5, v6, v7, v8, v9, v10, v11, v12, v13, v14, v15], _ =>
        obtain ⟨r, L, he, hat⟩ := rec_of_trod h2 (hwe i hi)
        refine ⟨(r, L), fun j u hu => ?_, hat⟩
        have hu' : [v0, v1, v2, v3, v4, v5, v6, v7, v8, v9, v10, v11, v12, v13, v14, v15][j]? = some u := by rw [he]; exact hu
        have hj : j < 16 := (List.getElem?_eq_some_iff.1 hu').1
        have cj := hcell j (by omega)
        rw [add_add, ha, add_at] at cj
        have e1 : a.off + i * 16 + j = a.off + (i * 16 + j) := by omega
        rw [e1]
        rw [← hu']
        simpa using cj
    obtain ⟨q, hq⟩ := choose_lt (n := len) one
    have hlen : ((List.range len).map q).length = len := by simp
    refine ⟨a.block, some a, cap, (List.range len).map q, by rw [hlen], ⟨fun h0 => ⟨a.off, by rw [← ha], fun j hj => ?_⟩, fun z hz => ?_, ?_⟩⟩
    · rw [hlen] at hj
      simpa using (hq j hj).1
    · obtain ⟨j, hj, rfl⟩ := List.mem_map.1 hz
      exact (hq j (List.mem_range.1 hj)).2
    · rw [hlen]
      have : len * 216 ≤ cap * 216 := Nat.mul_le_mul_right _ hl
      omega

theorem Tryz.cellsWop : Tryz.prog.cellsOf 39 = 20 := by kernel_rfl
theorem Tryz.bytesWop : Tryz.prog.bytesOf 39 = 264 := by kernel_rfl
/-- An act that came in: what is asked, a number, which place is meant, a record, and fates. -/
structure Wo where
  ask : Int
  num : Int
  near : Int
  z : Lr
  how : Value
def wcl (o : Wo) : List Value := .int .i64 o.ask :: .int .i64 o.num :: .int .i64 o.near :: (rcl o.z ++ [o.how])
/-- Acts that a slice at ao leads to, in block B. -/
structure Wos (w : World) (B : Nat) (ao : Option Addr) (l : List Wo) : Prop where
  at_ : 0 < l.length → ∃ o, ao = some ⟨B, o, none⟩ ∧ ∀ j (h : j < l.length), w.rangeAt B (o + j * 20) (wcl l[j])
  each : ∀ z ∈ l, RcAt w z.z.1 z.z.2
  nums : ∀ z ∈ l, (-9223372036854775808 ≤ z.ask ∧ z.ask < 9223372036854775808) ∧ (-9223372036854775808 ≤ z.num ∧ z.num < 9223372036854775808)
  len : l.length < 9223372036854775808
theorem Wos.more {w w' : World} {B : Nat} {ao : Option Addr} {l : List Wo} (h : Wos w B ao l) (ho : Only (fun _ => False) w w') : Wos w' B ao l :=
  ⟨fun h0 => by
    obtain ⟨o, e, hc⟩ := h.at_ h0
    exact ⟨o, e, fun j hj => range_go (hc j hj) ho (fun h => h)⟩, fun z hz => (h.each z hz).go ho, h.nums, h.len⟩
set_option maxRecDepth 100000 in
theorem wop_of_trod {H : Type} {enc : TypeId × Value → H} {W : World} {v0 v1 v2 v3 v4 v5 v6 v7 v8 v9 v10 v11 v12 v13 v14 v15 v16 v17 v18 v19 : Value} {x : DataW H × List MemPlace} {n : Nat} (h : DataW.trod enc Tryz.prog W 0 (fun _ => true) true n 39 [v0, v1, v2, v3, v4, v5, v6, v7, v8, v9, v10, v11, v12, v13, v14, v15, v16, v17, v18, v19] = some x)
    (hw : ∀ m ∈ x.1.weights Tryz.prog 39, m ≤ reachBytes) : ∃ o : Wo, [v0, v1, v2, v3, v4, v5, v6, v7, v8, v9, v10, v11, v12, v13, v14, v15, v16, v17, v18, v19] = wcl o ∧ RcAt W o.z.1 o.z.2 ∧ (-9223372036854775808 ≤ o.ask ∧ o.ask < 9223372036854775808) ∧ (-9223372036854775808 ≤ o.num ∧ o.num < 9223372036854775808) := by
  obtain ⟨xs, n', _, hx, _, hlen, hfs⟩ := DataW.trod_struct Tryz.underlying39 h
  match xs, hlen with
  | [y0, y1, y2, y3, y4], _ =>
    have g0 := hfs 0 _ rfl
    have g1 := hfs 1 _ rfl
    have g2 := hfs 2 _ rfl
    have g3 := hfs 3 _ rfl
    simp [Tryz.cellsInt, Tryz.cellsRec] at g0 g1 g2 g3
    obtain ⟨z0, e0, _, b0⟩ := DataW.trod_int Tryz.underlying3 g0
    obtain ⟨z1, e1, _, b1⟩ := DataW.trod_int Tryz.underlying3 g1
    obtain ⟨z2, e2, _, _⟩ := DataW.trod_int Tryz.underlying3 g2
    simp at e0 e1 e2
    rw [hx] at hw
    simp only [DataW.weights, Tryz.underlying39] at hw
    have hw3 : ∀ m ∈ y3.1.weights Tryz.prog 37, m ≤ reachBytes := fun m hm => hw m (DataW.weights_mem_each (j := 3) (t := 37) (d := y3.1) rfl rfl m hm)
    obtain ⟨r, L, he, hat⟩ := rec_of_trod g3 hw3
    have c0 := bounds_i64 b0
    have c1 := bounds_i64 b1
    refine ⟨⟨z0, z1, z2, (r, L), v19⟩, ?_, hat, ⟨by show _ ≤ z0; omega, by show z0 < _; omega⟩, ⟨by show _ ≤ z1; omega, by show z1 < _; omega⟩⟩
    have he' : [v3, v4, v5, v6, v7, v8, v9, v10, v11, v12, v13, v14, v15, v16, v17, v18] = rcl (r, L) := he
    show _ = Value.int .i64 z0 :: .int .i64 z1 :: .int .i64 z2 :: (rcl (r, L) ++ [v19])
    rw [← he', e0, e1, e2]
    rfl
set_option maxRecDepth 100000 in
theorem open_wops {H : Type} {enc : TypeId × Value → H} {W : World} {base : Nat} {v : Value} {d : DataW H} {ps : List MemPlace} (hok : Value.okWide Tryz.prog W .any base 22 v) (h : DataW.Trod enc Tryz.prog W 0 (fun _ => true) true 22 v d ps)
    (hw : ∀ m ∈ d.weights Tryz.prog 22, m ≤ reachBytes) : ∃ (B : Nat) (ao : Option Addr) (cp : Nat) (l : List Wo), v = .slice ao l.length cp ∧ Wos W B ao l := by
  obtain ⟨fuel, hf⟩ := h
  have hv : v.cells.toList = [v] := by
    rcases okWide_slice Tryz.underlying22 hok with ⟨a, b, c, rfl⟩
    rfl
  rw [hv] at hf
  have hb16 : 8 ≤ Tryz.prog.bytesOf 39 := by rw [Tryz.bytesWop]; decide
  rcases slice_reach Tryz.underlying22 hf hw hb16 with rfl | ⟨a, len, cap, m, D, Pl, rfl, hl, hm, hc, hit, hwe⟩
  · exact ⟨0, none, 0, [], rfl, ⟨fun h => absurd h (by simp), (fun z hz => by cases hz), (fun z hz => by cases hz), by simp⟩⟩
  · by_cases hl0 : len = 0
    · subst hl0
      exact ⟨0, some a, cap, [], rfl, ⟨fun h => absurd h (by simp), (fun z hz => by cases hz), (fun z hz => by cases hz), by simp⟩⟩
    have ha : a = ⟨a.block, a.off, none⟩ := by
      obtain ⟨cs', h1, h2⟩ := hit 0 (by omega)
      rw [Tryz.cellsWop] at h1
      obtain ⟨_, hlen, hcell⟩ := World.cells?_some h1
      have c0 := hcell 0 (by omega)
      rw [add_add, Nat.zero_mul, add0] at c0
      match cs', hlen with
      | v0 :: _, _ => exact cell_spot (v := v0) (by simpa using c0)
    have inh : Inhabited Wo := ⟨⟨0, 0, 0, (Rc.none, Loc.none), undef⟩⟩
    have one : ∀ i, i < len → ∃ z : Wo, W.rangeAt a.block (a.off + i * 20) (wcl z) ∧ RcAt W z.z.1 z.z.2 ∧ (-9223372036854775808 ≤ z.ask ∧ z.ask < 9223372036854775808) ∧ (-9223372036854775808 ≤ z.num ∧ z.num < 9223372036854775808) := fun i hi => by
      obtain ⟨cs', h1, h2⟩ := hit i (by omega)
      rw [Tryz.cellsWop] at h1
      obtain ⟨_, hlen, hcell⟩ := World.cells?_some h1
      match cs', hlen with
      | [v0, v1, v2, v3, v4, v5, v6, v7, v8, v9, v10, v11, v12, v13, v14, v15, v16, v17, v18, v19], _ =>
        obtain ⟨o, he, hat, hn⟩ := wop_of_trod h2 (hwe i hi)
        refine ⟨o, fun j u hu => ?_, hat, hn⟩
        have hu' : [v0, v1, v2, v3, v4, v5, v6, v7, v8, v9, v10, v11, v12, v13, v14, v15, v16, v17, v18, v19][j]? = some u := by rw [he]; exact hu
        have hj : j < 20 := (List.getElem?_eq_some_iff.1 hu').1
        have cj := hcell j (by omega)
        rw [add_add, ha, add_at] at cj
        have e1 : a.off + i * 20 + j = a.off + (i * 20 + j) := by omega
        rw [e1]
        rw [← hu']
        simpa using cj
    obtain ⟨q, hq⟩ := choose_lt (n := len) one
    have hlen : ((List.range len).map q).length = len := by simp
    refine ⟨a.block, some a, cap, (List.range len).map q, by rw [hlen], ⟨fun h0 => ⟨a.off, by rw [← ha], fun j hj => ?_⟩, fun z hz => ?_, fun z hz => ?_, ?_⟩⟩
    · rw [hlen] at hj
      simpa using (hq j hj).1
    · obtain ⟨j, hj, rfl⟩ := List.mem_map.1 hz
      exact (hq j (List.mem_range.1 hj)).2.1
    · obtain ⟨j, hj, rfl⟩ := List.mem_map.1 hz
      exact (hq j (List.mem_range.1 hj)).2.2
    · rw [hlen]
      omega
end Go.Proofs.YtfkcbdiffmacgaaGreatDoor
