/- For every number the statement WalNil returns true: a nil log holds nothing; no condition on it. Go's own tables of the library hold what they are laid with. -/
import Derived.Test.YtfkcbdiffmacgaaGreatDoorMWD
import Derived.Test.YtfkcbdiffmacgaaGreatDoorMWB
import Derived.Test.YtfkcbdiffmacgaaGreatDoorMWC
import Derived.Test.YtfkcbdiffmacgaaGreatDoorPCat
import Derived.ProofKit
import Derived.OpenShut
import Derived.ShutString
import Derived.SizedLaws
import Derived.Deep.Strs
import Derived.Test.YtfkcbdiffmacgaaGreatDoorCards
import Derived.Test.YtfkcbdiffmacgaaGreatDoorTie
import Derived.Deep.DeepHandedRow
import Derived.Lib.LaidTab
namespace Go.Proofs.YtfkcbdiffmacgaaGreatDoor
open Go.RowKit

/-- A disk at work: what its sectors are told by. -/
structure Dk.Wk (D : Dk) (n : Nat) (f : Nat → List UInt8) : Prop where
  dead : D.dead = false
  armed : D.armed = 0
  len : D.old.length = n
  cur : ∀ k, k < n → D.cur k = f k
theorem Dk.Wk.new (n : Nat) : (Dk.new n).Wk n (fun _ => List.replicate 64 0) := by
  refine ⟨rfl, rfl, by simp [Dk.new], fun k hk => ?_⟩
  unfold Dk.cur Dk.new
  simp [List.getD_eq_getElem?_getD, hk]
theorem Dk.Wk.put {D : Dk} {n : Nat} {f : Nat → List UInt8} (h : D.Wk n f) (k : Nat) (b : List UInt8) : ((D.put k b).act).Wk n (fun j => if j = k then b else f j) := by
  refine ⟨?_, ?_, h.len, fun j hj => ?_⟩
  · show (if D.armed = 0 then D.dead else _) = false
    rw [if_pos h.armed]
    exact h.dead
  · show (if D.armed = 0 then 0 else _) = (0 : Int)
    rw [if_pos h.armed]
  · have hc := h.cur j hj
    unfold Dk.cur at hc ⊢
    show ((if j = k then some b else D.fresh j).getD (D.old.getD j [])) = _
    by_cases e : j = k
    · rw [if_pos e, if_pos e]
      rfl
    · rw [if_neg e, if_neg e]
      exact hc
theorem Dk.Wk.writes {D : Dk} {n : Nat} {f : Nat → List UInt8} (cs : List (List UInt8)) (k : Nat) (h : D.Wk n f) : (D.writes k cs).2 = 0 ∧ (D.writes k cs).1.Wk n (fun j => if k ≤ j ∧ j < k + cs.length then cs.getD (j - k) [] else f j) := by
  induction cs generalizing D f k with
  | nil =>
    refine ⟨rfl, ?_⟩
    have e : (fun j => if k ≤ j ∧ j < k + ([] : List (List UInt8)).length then ([] : List (List UInt8)).getD (j - k) [] else f j) = f := by
      funext j
      rw [if_neg (by simp)]
    rw [e]
    exact h
  | cons b r ih =>
    have hw : D.writes k (b :: r) = Dk.writes (D.put k b).act (k + 1) r := by
      rw [Dk.writes, if_neg (by rw [h.armed]; omega)]
    rw [hw]
    obtain ⟨h1, h2⟩ := ih (k + 1) (h.put k b)
    refine ⟨h1, ?_⟩
    have e : (fun j => if k + 1 ≤ j ∧ j < k + 1 + r.length then r.getD (j - (k + 1)) [] else if j = k then b else f j) = (fun j => if k ≤ j ∧ j < k + (b :: r).length then (b :: r).getD (j - k) [] else f j) := by
      funext j
      by_cases hj : j = k
      · subst hj
        rw [if_neg (by omega), if_pos rfl, if_pos (by simp), Nat.sub_self]
        rfl
      · rw [if_neg hj]
        by_cases hr : k + 1 ≤ j ∧ j < k + 1 + r.length
        · rw [if_pos hr, if_pos (by rw [List.length_cons]; omega), show j - k = (j - (k + 1)) + 1 by omega, List.getD_cons_succ]
        · rw [if_neg hr, if_neg (by rw [List.length_cons]; omega)]
    rw [← e]
    exact h2
theorem Dk.Wk.sync {D : Dk} {n : Nat} {f : Nat → List UInt8} (h : D.Wk n f) : D.sync.2 = 0 ∧ D.sync.1.Wk n f := by
  have e : D.sync = (D.act.synced, 0) := by
    unfold Dk.sync
    rw [h.dead, h.armed]
    rfl
  rw [e]
  refine ⟨rfl, ?_, ?_, ?_, fun k hk => ?_⟩
  · show (if D.armed = 0 then D.dead else _) = false
    rw [if_pos h.armed]
    exact h.dead
  · show (if D.armed = 0 then 0 else _) = (0 : Int)
    rw [if_pos h.armed]
  · show ((List.range D.old.length).map _).length = n
    rw [List.length_map, List.length_range, h.len]
  · show (none : Option (List UInt8)).getD (((List.range D.old.length).map D.act.cur).getD k []) = f k
    rw [Option.getD_none, List.getD_eq_getElem?_getD, List.getElem?_map, List.getElem?_range (by rw [h.len]; exact hk)]
    exact h.cur k hk
theorem Dk.Wk.write {D : Dk} {n : Nat} {f : Nat → List UInt8} (h : D.Wk n f) (a c : Nat) (l : List UInt8) (hl : l.length = 64 * c) (ha : a + c ≤ n) : (D.write (a : Int) l).2 = 0 ∧ (D.write (a : Int) l).1.Wk n (fun j => if a ≤ j ∧ j < a + c then (l.drop (64 * (j - a))).take 64 else f j) := by
  have e : D.write (a : Int) l = D.writes a (chunks c l) := by
    unfold Dk.write
    rw [h.dead, h.len, hl]
    rw [if_neg (by simp), if_pos (by
      refine ⟨by omega, ?_⟩
      unfold hasB
      simp
      omega), Int.toNat_natCast, show 64 * c / 64 = c by omega]
  rw [e]
  obtain ⟨h1, h2⟩ := Dk.Wk.writes (chunks c l) a h
  refine ⟨h1, h2.dead, h2.armed, h2.len, fun k hk => ?_⟩
  rw [h2.cur k hk, chunks_len]
  by_cases hr : a ≤ k ∧ k < a + c
  · rw [if_pos hr, if_pos hr, List.getD_eq_getElem?_getD, chunks_get c l (k - a) (by omega)]
    rfl
  · rw [if_neg hr, if_neg hr]
/-- The chapter's record. -/
def sm : Rc := ⟨0, 0, 0, 8, 0, 1, 0, 0, 0, 0, ⟨#[]⟩, [], [], [], [], []⟩
theorem sm1_lay : (sm.at_ 1).lay = [1, 0, 0, 8, 0, 1, 0, 0, 0, 0, 0, 0, 0, 0, 0, 0] := by decide +kernel
theorem sm25_lay : (sm.at_ 25).lay = [25, 0, 0, 8, 0, 1, 0, 0, 0, 0, 0, 0, 0, 0, 0, 0] := by decide +kernel
theorem sm1_valid : (sm.at_ 1).valid :=
  ⟨by decide, by decide, ⟨by decide, by decide, (fun n h => by cases h), (fun n h => by cases h), (fun n h => by cases h), (fun n h => by cases h), (fun n h => by cases h)⟩, ⟨by decide, by decide, by decide, by decide, by decide, by decide⟩, rfl, by rw [sm1_lay]; decide⟩
theorem sm25_valid : (sm.at_ 25).valid :=
  ⟨by decide, by decide, ⟨by decide, by decide, (fun n h => by cases h), (fun n h => by cases h), (fun n h => by cases h), (fun n h => by cases h), (fun n h => by cases h)⟩, ⟨by decide, by decide, by decide, by decide, by decide, by decide⟩, rfl, by rw [sm25_lay]; decide⟩
theorem sm1_len : (sm.at_ 1).enc.length = 24 := by rw [renc_len, sm1_lay]; rfl
theorem sm25_len : (sm.at_ 25).enc.length = 24 := by rw [renc_len, sm25_lay]; rfl
theorem sm_at (w : World) : RcAt w sm Loc.none :=
  ⟨Zs.nil _ _ _, Zs.nil _ _ _, ⟨fun _ => True, Ims.nil _ _ _ _⟩, Prs.nil _ _ _, Prs.nil _ _ _, ⟨fun _ => rfl, Nat.le_refl _, Nat.zero_le _⟩, ⟨fun _ => rfl, Nat.le_refl _, Nat.zero_le _⟩, Nat.zero_le _, ⟨by decide, by decide⟩⟩
theorem run_build_sm (w : World) : (Instr.build 37 #[(3, .int .u8 8), (5, .int .i64 1)]).run Tryz.prog w = .ok (.agg (sm.cells Loc.none)) w := run_build w 37 _ _ (by kernel_rfl)
end Go.Proofs.YtfkcbdiffmacgaaGreatDoor

namespace Go.Proofs.YtfkcbdiffmacgaaGreatDoor
open Go.RowKit

section
variable {ops : Array Oper} {rest : List Oper} {o : Oper} {a : Act} {w : World} {Q : Exit → Act → World → Prop}
theorem wpList_build_sm (hg : o.guard = none) (hop : o.op = .build 37 #[(3, .const (.int .u8 8)), (5, .const (.int .i64 1))]) (h : wpList Tryz.prog ops Q rest (a.put o.dst (.agg (sm.cells Loc.none))) w) : wpList Tryz.prog ops Q (o :: rest) a w := by
  refine wpList_plain hg fun K hK => ?_
  unfold Oper.wp execOp
  have e : (#[(3, Operand.const (.int .u8 8)), (5, .const (.int .i64 1))] : Array (Nat × Operand)).map (fun x => (x.1, a.eval x.2)) = #[(3, .int .u8 8), (5, .int .i64 1)] := by
    simp only [List.map_toArray, List.map_cons, List.map_nil]
    rfl
  simp only [hop, e, Sem.run_bind, Sem.run_pure, Result.andThen_ok, run_build_sm]
  exact hK _ _ h
end
set_option maxRecDepth 100000 in
set_option maxHeartbeats 800000 in
theorem wsmall_any (w : World) : Calls Tryz.prog 15 #[] w fun e w' => e = .returned (.agg (sm.cells Loc.none)) ∧ Only (fun _ => False) w w' := by
  have HTH := hide (there_new w Rc.none Loc.none)
  have HO := hide (onlyA w (.cells (Rc.none.cells Loc.none) 37))
  go_enter Tryz.func15, Tryz.ntmps15
  go_upto_region 1 with fail
  go_wp2_with (refine wpList_build_sm rfl rfl ?_; go_frame; refine wpList_put_rec rfl (.tmp 0) (.tmp 1) rfl w.heap.size rfl sm Loc.none rfl HTH.out ?_; intro W9 HW9; go_frame)
  refine bodyPost_ret (results_cell1 rfl rfl HW9.out.load) rfl ?_
  exact ⟨rfl, HO.out.trans HW9.out.only (fun i hi e => by omega)⟩
theorem LogAt.owned {W : World} {l d frm n base : Nat} (h : LogAt W l d (Lg.new frm n) 0 none 0 (.slice none 0 0)) : LogOw W l d (Lg.new frm n) base (.slice none 0 0) (.slice none 0 0) :=
  ⟨h.c0, h.c1, h.c2, h.c3, h.c4, h.c5, h.c6, h.c7, h.c8, h.fz, h.lt, ⟨World.ownsRow_nil _ _ _ _, rfl⟩, World.ownsRow_nil _ _ _ _, (by simp [Value.ownBlock]), (by simp [Value.ownBlock]), (fun k e => by simp [Value.ownBlock] at e)⟩
abbrev zs64 : List UInt8 := List.replicate 64 0
def exS : List UInt8 := (sm.at_ 1).enc ++ (sm.at_ 25).enc
theorem exS_len : exS.length = 48 := by unfold exS; rw [List.length_append, sm1_len, sm25_len]
theorem exS_ne : exS ≠ [] := by intro h; have := exS_len; rw [h] at this; simp at this
def exG1 : Lg := (Lg.new 2 4).app (sm.at_ 1).enc
def exG2 : Lg := exG1.app (sm.at_ 25).enc
theorem exG1_tail : exG1.tail = 25 := by show 1 + (sm.at_ 1).enc.length = 25; rw [sm1_len]
theorem exG2_tail : exG2.tail = 49 := by show exG1.tail + (sm.at_ 25).enc.length = 49; rw [exG1_tail, sm25_len]
theorem exG1_stream : exG1.stream = (sm.at_ 1).enc := by show [] ++ _ = _; rfl
theorem exG2_stream : exG2.stream = exS := by show exG1.stream ++ _ = _; rw [exG1_stream]; rfl
theorem exG0_ok : (Lg.new 2 4).Ok := ⟨by decide, by decide, by decide, by decide, by decide, by decide, by decide, by decide, by decide⟩
theorem exG1_ok : exG1.Ok := ⟨by decide, by rw [exG1_tail]; decide, by rw [exG1_tail]; decide, by rw [exG1_tail]; decide, by decide, by decide, by decide, by decide, by rw [exG1_stream, sm1_len]; decide⟩
theorem exG2_ok : exG2.Ok := ⟨by decide, by rw [exG2_tail]; decide, by rw [exG2_tail]; decide, by rw [exG2_tail]; decide, by decide, by decide, by decide, by decide, by rw [exG2_stream, exS_len]; decide⟩
def exF (j : Nat) : List UInt8 := if j = 2 then holdL 0 exS else zs64
theorem hold64 : (holdL 0 exS).length = 64 := hold_len 0 exS (by rw [exS_len]; omega)
theorem exF_len (j : Nat) : (exF j).length = 64 := by
  unfold exF
  split
  · exact hold64
  · simp [zs64]
theorem ex_format {D : Dk} (h : D.Wk 10 (fun _ => zs64)) : (D.write 2 (List.replicate (4 * 64) 0)).2 = 0 ∧ (D.write 2 (List.replicate (4 * 64) 0)).1.sync.2 = 0 ∧ (D.write 2 (List.replicate (4 * 64) 0)).1.sync.1.Wk 10 (fun _ => zs64) := by
  obtain ⟨h1, h2⟩ := h.write 2 4 (List.replicate (4 * 64) 0) (by rw [List.length_replicate]) (by omega)
  have e : (fun j => if 2 ≤ j ∧ j < 2 + 4 then ((List.replicate (4 * 64) (0 : UInt8)).drop (64 * (j - 2))).take 64 else zs64) = (fun _ => zs64) := by
    funext j
    split
    · rw [List.drop_replicate, List.take_replicate, show min 64 (4 * 64 - 64 * (j - 2)) = 64 by omega]
    · rfl
  rw [e] at h2
  exact ⟨h1, h2.sync.1, h2.sync.2⟩
theorem exG2_block0 : exG2.block 0 = exS := by
  unfold Lg.block
  rw [exG2_stream, Nat.zero_sub, Nat.zero_mul, List.drop_zero, List.take_of_length_le (by rw [exS_len]; omega)]
theorem ex_flush {D : Dk} (h : D.Wk 10 (fun _ => zs64)) : (exG2.flush D).2.1 = 0 ∧ (exG2.flush D).2.2 = 49 ∧ (exG2.flush D).1.Wk 10 exF := by
  have hw := h.write 2 1 (holdL 0 (exG2.block 0)) (by rw [exG2_block0, hold64]) (by omega)
  rw [exG2_block0] at hw
  have e : (fun j => if 2 ≤ j ∧ j < 2 + 1 then ((holdL 0 exS).drop (64 * (j - 2))).take 64 else zs64) = exF := by
    funext j
    unfold exF
    by_cases hj : j = 2
    · subst hj
      rw [if_pos (by omega), if_pos rfl, Nat.sub_self, Nat.mul_zero, List.drop_zero, List.take_of_length_le (by rw [hold64]; omega)]
    · rw [if_neg (by omega), if_neg hj]
  obtain ⟨w1', w2'⟩ := hw
  rw [e] at w2'
  have w1 : (D.write 2 (holdL 0 exS)).2 = 0 := w1'
  have w2 : (D.write 2 (holdL 0 exS)).1.Wk 10 exF := w2'
  have hl1 : exG2.lay1 0 D = D.write 2 (holdL 0 exS) := by
    unfold Lg.lay1
    rw [exG2_block0]
    rfl
  have hls : exG2.lays ((exG2.flushed - 1) / 54) ((exG2.tail - 2) / 54 + 1 - (exG2.flushed - 1) / 54) D = ((D.write 2 (holdL 0 exS)).1, 0) := by
    rw [exG2_tail]
    show exG2.lays 0 1 D = _
    rw [lays_step, hl1, if_pos w1]
    rfl
  have hs := w2.sync
  unfold Lg.flush
  simp only [hls, if_true]
  rw [if_pos hs.1]
  exact ⟨rfl, exG2_tail, hs.2⟩
theorem sec_of {D : Dk} (h : D.Wk 10 exF) (k : Nat) (hk : k < 4) : secL (D.bytes 2 4) 4 k = exF (2 + k) := by
  have hb : D.bytes 2 4 = exF 2 ++ (exF 3 ++ (exF 4 ++ (exF 5 ++ []))) := by
    show (([0, 1, 2, 3] : List Nat).map fun i => D.cur (2 + i)).flatten = _
    simp only [List.map_cons, List.map_nil, List.flatten_cons, List.flatten_nil]
    rw [h.cur _ (by omega), h.cur _ (by omega), h.cur _ (by omega), h.cur _ (by omega)]
  unfold secL
  rw [hb, Nat.mod_eq_of_lt hk]
  have l2 := exF_len 2
  have l3 := exF_len 3
  have l4 := exF_len 4
  have l5 := exF_len 5
  have d : ∀ (n : Nat) (a b : List UInt8), a.length = 64 → (a ++ b).drop (n + 64) = b.drop n := fun n a b ha => by
    rw [Nat.add_comm, ← List.drop_drop, List.drop_left' ha]
  have t : ∀ (a b : List UInt8), a.length = 64 → (a ++ b).take 64 = a := fun a b ha => List.take_left' ha
  rcases (show k = 0 ∨ k = 1 ∨ k = 2 ∨ k = 3 by omega) with rfl | rfl | rfl | rfl
  · rw [Nat.zero_mul, List.drop_zero, t _ _ l2]
  · rw [show 1 * 64 = 0 + 64 by rfl, d 0 _ _ l2, List.drop_zero, t _ _ l3]
  · rw [show 2 * 64 = 64 + 64 by rfl, d 64 _ _ l2, show 64 = 0 + 64 by rfl, d 0 _ _ l3, List.drop_zero, t _ _ l4]
  · rw [show 3 * 64 = 128 + 64 by rfl, d 128 _ _ l2, show 128 = 64 + 64 by rfl, d 64 _ _ l3, show 64 = 0 + 64 by rfl, d 0 _ _ l4, List.drop_zero, t _ _ l5]
def exR : List Rc := [sm.at_ 1, sm.at_ 25]
theorem exR_enc : encR exR = exS := by simp [encR, exR, exS]
theorem exR_tk : tk 1 exR exR.length = 49 := by
  unfold tk
  rw [List.take_length, exR_enc, exS_len]
theorem exR_chn : Chn 1 exR := by
  refine ⟨fun i hi => ?_⟩
  have hi2 : i = 0 ∨ i = 1 := by have : exR.length = 2 := rfl; omega
  rcases hi2 with rfl | rfl
  · exact ⟨sm1_valid, (fun im h => by cases h), by show (1 : Int) = _; unfold tk; simp [encR]⟩
  · refine ⟨sm25_valid, (fun im h => by cases h), ?_⟩
    show (25 : Int) = _
    unfold tk
    have : (encR (exR.take 1)).length = 24 := by show (encR [sm.at_ 1]).length = 24; simp [encR, sm1_len]
    rw [this]
    rfl
theorem ex_same {D : Dk} (h : D.Wk 10 exF) (k : Nat) (hk : k < 4) : secL (D.bytes 2 4) 4 k = holdL k ((Lg.found 2 4 1 [] exR).block k) := by
  rw [sec_of h k hk]
  have hst : (Lg.found 2 4 1 [] exR).stream = exS := by show [] ++ encR exR = _; rw [exR_enc]; rfl
  by_cases h0 : k = 0
  · subst h0
    have : (Lg.found 2 4 1 [] exR).block 0 = exS := by
      unfold Lg.block
      rw [hst, Nat.zero_sub, Nat.zero_mul, List.drop_zero, List.take_of_length_le (by rw [exS_len]; omega)]
    rw [this]
    rfl
  · have : (Lg.found 2 4 1 [] exR).block k = [] := by
      unfold Lg.block
      rw [hst]
      have hb0 : (Lg.found 2 4 1 [] exR).b0 = 0 := rfl
      rw [hb0, List.drop_of_length_le (by rw [exS_len]; omega)]
      rfl
    rw [this]
    unfold exF holdL
    rw [if_neg (by omega), if_pos rfl]
theorem ex_tells {D : Dk} (h : D.Wk 10 exF) : tellsL (secL (D.bytes 2 4) 4 0) 0 = [] ++ encR exR := by
  rw [sec_of h 0 (by omega), exR_enc]
  show tellsL (holdL 0 exS) 0 = exS
  exact tells_hold 0 exS (by omega) (by rw [exS_len]; omega)
end Go.Proofs.YtfkcbdiffmacgaaGreatDoor

namespace Go.Proofs.YtfkcbdiffmacgaaGreatDoor
open Go.RowKit

theorem LogOw.hi7 {W : World} {l d : Nat} {G : Lg} {base : Nat} {v7 v8 : Value} (h : LogOw W l d G base v7 v8) (k : Nat) (hk : v7.ownBlock = some k) : base ≤ k := by
  rcases h.row.own.2 with ⟨hv, hn⟩ | ⟨g, cap, cur, hv, hb, r⟩
  · rw [hv] at hk; simp [Value.ownBlock] at hk
  · rw [hv] at hk
    simp [Value.ownBlock] at hk
    omega
theorem LogOw.hi8 {W : World} {l d : Nat} {G : Lg} {base : Nat} {v7 v8 : Value} (h : LogOw W l d G base v7 v8) (k : Nat) (hk : v8.ownBlock = some k) : base ≤ k := by
  rcases h.pl.2 with ⟨hv, hn⟩ | ⟨g, cap, cur, hv, hb, r⟩
  · rw [hv] at hk; simp [Value.ownBlock] at hk
  · rw [hv] at hk
    simp [Value.ownBlock] at hk
    omega
/-- A log of its own on a disk, made since w. -/
structure Aw (w W : World) (l d g m base : Nat) (D : Dk) (G : Lg) (v7 v8 : Value) : Prop where
  log : LogOw W l d G base v7 v8
  dsk : Dsk W d g m D
  only : Only (fun _ => False) w W
  hd : w.heap.size ≤ d
  hg : w.heap.size ≤ g
  hm : w.heap.size ≤ m
  hl : w.heap.size ≤ l
  bd : d < base
  bg : g < base
  bm : m < base
  bl : l < base
  nl : ¬ own d g m l
  bb : base ≤ W.heap.size
theorem Aw.more {w W W' : World} {l d g m base : Nat} {D : Dk} {G : Lg} {v7 v8 : Value} (h : Aw w W l d g m base D G v7 v8) (ho : Only (fun _ => False) W W') : Aw w W' l d g m base D G v7 v8 :=
  ⟨h.log.more ho, h.dsk.kept ho (fun h => h) (fun h => h) (fun h => h), o2 h.only ho, h.hd, h.hg, h.hm, h.hl, h.bd, h.bg, h.bm, h.bl, h.nl, Nat.le_trans h.bb ho.size⟩
theorem aw_app {w W : World} {l d g m base : Nat} {D : Dk} {G : Lg} {v7 v8 : Value} (h : Aw w W l d g m base D G v7 v8) (ok : G.Ok) (hv : (sm.at_ G.tail).valid) (hroom : (sm.at_ G.tail).enc.length ≤ G.room) (hpl : G.places.length ≤ 1000000000) :
    Calls Tryz.prog 10 #[.pointer (some ⟨l, 0, none⟩), .agg (sm.cells Loc.none)] W fun e w' => e = .returned (.tuple #[.int .i64 (G.tail : Int), .int .i64 0]) ∧ ∃ v7' v8', Aw w w' l d g m base D (G.app (sm.at_ G.tail).enc) v7' v8' := by
  refine (append_ok W l d G base v7 v8 h.log ok h.bb sm Loc.none (sm_at W) hv hroom hpl).mono ?_
  rintro e w' ⟨he, v7', v8', hlo, ho, -, -⟩
  refine ⟨he, v7', v8', hlo, ?_, ?_, h.hd, h.hg, h.hm, h.hl, h.bd, h.bg, h.bm, h.bl, h.nl, Nat.le_trans h.bb ho.size⟩
  · have no : ∀ k, k < base → k ≠ l → ¬ (k = l ∨ some k = v7.ownBlock ∨ some k = v8.ownBlock) := by
      rintro k hk hkl (e | e | e)
      · exact hkl e
      · have := h.log.hi7 k e.symm; omega
      · have := h.log.hi8 k e.symm; omega
    have nl := h.nl
    unfold own at nl
    exact h.dsk.kept ho (no _ h.bd (fun e => nl (.inl e.symm))) (no _ h.bg (fun e => nl (.inr (.inl e.symm)))) (no _ h.bm (fun e => nl (.inr (.inr e.symm))))
  · refine h.only.trans ho ?_
    rintro i hi (e | e | e)
    · have := h.hl; omega
    · have := h.log.hi7 i e.symm; have := h.hl; have := h.bl; omega
    · have := h.log.hi8 i e.symm; have := h.hl; have := h.bl; omega
theorem aw_new (w : World) : Calls Tryz.prog 6 #[.int .i64 10] w fun e w' => ∃ d g m, e = .returned (.tuple #[.pointer (some ⟨d, 0, none⟩), .int .i64 0]) ∧ Dsk w' d g m (Dk.new 10) ∧ Only (fun _ => False) w w' ∧ w.heap.size ≤ d ∧ w.heap.size ≤ g ∧ w.heap.size ≤ m ∧ d < w'.heap.size ∧ g < w'.heap.size ∧ m < w'.heap.size := by
  refine (new_ok w 10 (by omega) (by omega)).mono ?_
  rintro e w' ⟨he, hD, ho⟩
  have := hD.lt
  exact ⟨_, _, _, he, hD, ho, by omega, by omega, by omega, by omega, by omega, by omega⟩
theorem aw_format {w W : World} {d g m : Nat} (hD : Dsk W d g m (Dk.new 10)) (ho : Only (fun _ => False) w W) (hd : w.heap.size ≤ d) (hg : w.heap.size ≤ g) (hm : w.heap.size ≤ m) (h1 : d < W.heap.size) (h2 : g < W.heap.size) (h3 : m < W.heap.size) :
    Calls Tryz.prog 7 #[.pointer (some ⟨d, 0, none⟩), .int .i64 2, .int .i64 4] W fun e w' => ∃ l D base, e = .returned (.tuple #[.pointer (some ⟨l, 0, none⟩), .int .i64 0]) ∧ D.Wk 10 (fun _ => zs64) ∧ Aw w w' l d g m base D (Lg.new 2 4) (.slice none 0 0) (.slice none 0 0) := by
  have hx := ex_format (Dk.Wk.new 10)
  have hf : fitsB (Dk.new 10).old.length ((2 : Nat) : Int) ((4 : Nat) : Int) = true := by
    rw [(Dk.Wk.new 10).len]
    rfl
  refine Calls.mono (format_ok W d g m (Dk.new 10) hD 2 4 hf hx.1 hx.2.1) ?_
  rintro e w' ⟨l, he, hD', hL, hl, ho'⟩
  refine ⟨l, _, w'.heap.size, he, hx.2.2, hL.owned, hD', ?_, hd, hg, hm, ?_, ?_, ?_, ?_, hL.lt, ?_, Nat.le_refl _⟩
  · refine ho.trans ho' ?_
    rintro i hi (e | e | e) <;> omega
  · have := ho.size; omega
  · have := ho'.size; omega
  · have := ho'.size; omega
  · have := ho'.size; omega
  · rintro (e | e | e) <;> omega
theorem aw_room {w W : World} {l d g m base : Nat} {D : Dk} {v7 v8 : Value} (h : Aw w W l d g m base D (Lg.new 2 4) v7 v8) : Calls Tryz.prog 8 #[.pointer (some ⟨l, 0, none⟩)] W fun e w' => e = .returned (.int .i64 108) ∧ Aw w w' l d g m base D (Lg.new 2 4) v7 v8 := by
  refine (h.log.room_ exG0_ok).mono ?_
  rintro e w' ⟨he, ho⟩
  exact ⟨he, h.more ho⟩
theorem aw_small {w W : World} {l d g m base : Nat} {D : Dk} {G : Lg} {v7 v8 : Value} (h : Aw w W l d g m base D G v7 v8) : Calls Tryz.prog 15 #[] W fun e w' => e = .returned (.agg (sm.cells Loc.none)) ∧ Aw w w' l d g m base D G v7 v8 := by
  refine (wsmall_any W).mono ?_
  rintro e w' ⟨he, ho⟩
  exact ⟨he, h.more ho⟩
theorem aw_app1 {w W : World} {l d g m base : Nat} {D : Dk} {v7 v8 : Value} (h : Aw w W l d g m base D (Lg.new 2 4) v7 v8) : Calls Tryz.prog 10 #[.pointer (some ⟨l, 0, none⟩), .agg (sm.cells Loc.none)] W fun e w' => e = .returned (.tuple #[.int .i64 1, .int .i64 0]) ∧ ∃ v7' v8', Aw w w' l d g m base D exG1 v7' v8' := by
  refine Calls.mono (aw_app h exG0_ok sm1_valid (by show (sm.at_ 1).enc.length ≤ 108; rw [sm1_len]; omega) (by show 0 ≤ _; omega)) ?_
  exact fun e w' hx => hx
theorem aw_app2 {w W : World} {l d g m base : Nat} {D : Dk} {v7 v8 : Value} (h : Aw w W l d g m base D exG1 v7 v8) : Calls Tryz.prog 10 #[.pointer (some ⟨l, 0, none⟩), .agg (sm.cells Loc.none)] W fun e w' => e = .returned (.tuple #[.int .i64 25, .int .i64 0]) ∧ ∃ v7' v8', Aw w w' l d g m base D exG2 v7' v8' := by
  have ht : ((exG1.tail : Nat) : Int) = 25 := by rw [exG1_tail]; rfl
  have hrm : exG1.room = 84 := by show 54 * 2 - (exG1.tail - 1) - 0 = 84; rw [exG1_tail]
  have hx := aw_app h exG1_ok (by rw [ht]; exact sm25_valid) (by rw [ht, sm25_len, hrm]; omega) (by show 1 ≤ _; omega)
  rw [ht] at hx
  exact hx
theorem aw_flush {w W : World} {l d g m base : Nat} {D : Dk} {v7 v8 : Value} (h : Aw w W l d g m base D exG2 v7 v8) (hD : D.Wk 10 (fun _ => zs64)) : Calls Tryz.prog 17 #[.pointer (some ⟨l, 0, none⟩), .int .i64 1] W fun e w' => ∃ D', e = .returned (.int .i64 0) ∧ Dsk w' d g m D' ∧ D'.Wk 10 exF ∧ Only (fun _ => False) w w' := by
  obtain ⟨B, ao, cp, hv, hL, hB⟩ := h.log.at_
  obtain ⟨f1, f2, f3⟩ := ex_flush hD
  have hBb : 0 < exG2.stream.length → base ≤ B := fun h0 => h.log.hi7 B (hB h0)
  have a1 := h.bd
  have a2 := h.bg
  have a3 := h.bm
  have a4 := h.bl
  refine (flush_any W l d g m D h.dsk exG2 B ao cp v8 hL h.nl (fun h0 => ?_) (fun h0 => ?_) exG2_ok (by rw [exG2_tail]; omega) (by decide) 1 (by decide) (by rw [exG2_tail]; decide)).mono ?_
  · have := hBb h0
    rintro (e | e | e) <;> omega
  · have := hBb h0
    omega
  · rintro e w' ⟨he, hd', -, ho⟩
    rw [f1] at he
    refine ⟨_, he, hd', f3, h.only.trans ho ?_⟩
    have b1 := h.hd
    have b2 := h.hg
    have b3 := h.hm
    have b4 := h.hl
    rintro i hi ((e | e | e) | e) <;> omega
theorem aw_open {w W : World} {d g m : Nat} {D : Dk} (hD : Dsk W d g m D) (hk : D.Wk 10 exF) (ho : Only (fun _ => False) w W) : Calls Tryz.prog 26 #[.pointer (some ⟨d, 0, none⟩), .int .i64 2, .int .i64 4, .int .i64 1] W fun e w' =>
    ∃ l b cp, e = .returned (.tuple #[.pointer (some ⟨l, 0, none⟩), .slice (some ⟨b, 0, none⟩) 2 cp, .int .i64 0]) ∧ w'.cell? ⟨b, 16, none⟩ = some (.int .i64 25) ∧ w'.cell? ⟨l, 4, none⟩ = some (.int .i64 49) ∧ Only (fun _ => False) w w' := by
  have hf : fitsB D.old.length ((2 : Nat) : Int) ((4 : Nat) : Int) = true := by
    rw [hk.len]
    rfl
  refine Calls.mono (open_ok W d g m D hD 2 4 1 hf hk.dead (by rw [hk.len]; omega) (by omega) (by omega) (by omega) (by omega) (by omega) [] exR (ex_tells hk) (by rw [exR_enc]; show exS.length < 54; rw [exS_len]; omega) (by decide) exR_chn (by decide) (fun k hk4 => .inr (ex_same hk k hk4))) ?_
  rintro e w' ⟨l, v5, acc, B, cp, v8, he, how, hacc, hlog, ho'⟩
  have hlen : acc.length = 2 := by rw [← List.length_map (f := fun z : Lr => z.1), hacc]; rfl
  rcases how.form with ⟨-, e0⟩ | ⟨b, cap, e1, -, hr⟩
  · rw [e0] at hlen; cases hlen
  · rw [e1, hlen] at he
    refine ⟨l, b, cap, he, ?_, ?_, o2 ho ho'⟩
    · have h1 := hr 1 (by omega)
      have hz : (acc[1]'(by omega)).1 = sm.at_ 25 := by
        have := congrArg (fun q => q[1]?) hacc
        simp [exR, hlen] at this
        exact this
      have := h1 0 (.int .i64 25) (by show some (Value.int .i64 (acc[1]'(by omega)).1.lsn) = _; rw [hz]; rfl)
      exact this
    · have := hlog.c4
      rw [show (Lg.found 2 4 1 [] exR).tail = 49 from exR_tk] at this
      exact this
end Go.Proofs.YtfkcbdiffmacgaaGreatDoor

namespace Go.Proofs.YtfkcbdiffmacgaaGreatDoor
open Go.RowKit

theorem results_rec2 {fn : Func} {p u : Tmp} (h : fn.results = #[.cell p 37, .tmp u]) {tmps : Array Value} {w : World} {b : Nat} {v : Value} (hp : tmps.getD p undef = .pointer (some ⟨b, 0, none⟩)) (hP : (loadVar 37 ⟨b, 0, none⟩).run Tryz.prog w = .ok v w) :
    (results fn tmps).run Tryz.prog w = .ok (.tuple #[v, tmps.getD u undef]) w := by
  have e : (asAddr (tmps.getD p undef)).run Tryz.prog w = .ok ⟨b, 0, none⟩ w := by rw [hp]; rfl
  have key : (results fn tmps).run Tryz.prog w = ((asAddr (tmps.getD p undef)).run Tryz.prog w).andThen fun a w₁ => ((loadVar 37 a).run Tryz.prog w₁).andThen fun v w₂ => .ok (.tuple #[v, tmps.getD u undef]) w₂ := by
    simp only [results, h]
    simp [Sem.run_bind, Result.andThen]
  rw [key, e]
  simp only [Result.andThen, hP]
set_option maxRecDepth 100000 in
set_option maxHeartbeats 800000 in
theorem get_nil (w : World) (n : Int) : Calls Tryz.prog 16 #[.pointer none, .int .i64 n] w fun e w' => e = .returned (.tuple #[.agg (Rc.none.cells Loc.none), .int .i64 2]) ∧ Only (fun _ => False) w w' := by
  have HTH := hide (there_new w Rc.none Loc.none)
  have HO := hide (onlyA w (.cells (Rc.none.cells Loc.none) 37))
  go_enter Tryz.func16, Tryz.ntmps16
  go_upto_region 2 with fail
  go_wp2_with (refine wpList_build_rec rfl rfl ?_; go_frame; refine wpList_put_rec rfl (.tmp 4) (.tmp 14) rfl w.heap.size rfl Rc.none Loc.none rfl HTH.out ?_; intro W9 HW9; go_frame)
  refine bodyPost_ret (results_rec2 rfl rfl HW9.out.load) rfl ?_
  exact ⟨rfl, HO.out.trans HW9.out.only (fun i hi e => by omega)⟩
set_option maxRecDepth 100000 in
set_option maxHeartbeats 1600000 in
theorem wawake_any (w : World) : Calls Tryz.prog 14 #[] w fun e w' => e = .returned (.bool true) ∧ Only (fun _ => False) w w' := by
  obtain ⟨V, hV⟩ : ∃ V, Value.agg (sm.cells Loc.none) = V := ⟨_, rfl⟩
  have HSM := hide (fun (W : World) l d g m base D G v7 v8 (h : Aw w W l d g m base D G v7 v8) => aw_small h)
  have HA1 := hide (fun (W : World) l d g m base D v7 v8 (h : Aw w W l d g m base D (Lg.new 2 4) v7 v8) => aw_app1 h)
  have HA2 := hide (fun (W : World) l d g m base D v7 v8 (h : Aw w W l d g m base D exG1 v7 v8) => aw_app2 h)
  simp only [hV] at HSM HA1 HA2
  clear hV
  go_enter Tryz.func14, Tryz.ntmps14
  go_wp2_with fail
  refine (aw_new w).mono ?_
  rintro e w1 ⟨d, g, m, rfl, hD, ho, h1, h2, h3, h4, h5, h6⟩
  have HF := hide (aw_format hD ho h1 h2 h3 h4 h5 h6)
  clear hD ho h1 h2 h3 h4 h5 h6
  go_wp2_with fail
  refine HF.out.mono ?_
  rintro e w2 ⟨l, D, base, rfl, hk, haw⟩
  have HK := hide hk
  have HR := hide (aw_room haw)
  clear hk haw HF
  go_wp2_with fail
  refine HR.out.mono ?_
  rintro e w3 ⟨rfl, haw⟩
  have HS := hide (HSM.out _ _ _ _ _ _ _ _ _ _ haw)
  clear haw HR
  go_wp2_with fail
  refine HS.out.mono ?_
  rintro e w4 ⟨rfl, haw⟩
  have HA := hide (HA1.out _ _ _ _ _ _ _ _ _ haw)
  clear haw HS
  go_wp2_with fail
  refine HA.out.mono ?_
  rintro e w5 ⟨rfl, v7, v8, haw⟩
  have HS := hide (HSM.out _ _ _ _ _ _ _ _ _ _ haw)
  clear haw HA
  go_wp2_with fail
  refine HS.out.mono ?_
  rintro e w6 ⟨rfl, haw⟩
  have HA := hide (HA2.out _ _ _ _ _ _ _ _ _ haw)
  clear haw HS
  go_wp2_with fail
  refine HA.out.mono ?_
  rintro e w7 ⟨rfl, u7, u8, haw⟩
  have HFL := hide (aw_flush haw HK.out)
  clear haw HA
  go_wp2_with fail
  refine HFL.out.mono ?_
  rintro e w8 ⟨D', rfl, hD, hk, ho⟩
  have HOP := hide (aw_open hD hk ho)
  clear hD hk ho HFL
  go_wp2_with fail
  refine HOP.out.mono ?_
  rintro e w9 ⟨l', b, cp, rfl, hc, ht, ho⟩
  have HO := hide ho
  clear ho HOP
  go_wp2_with fail
  have HT : Calls Tryz.prog 9 #[.pointer (some ⟨l', 0, none⟩)] w9 fun e w' => e = .returned (.int .i64 49) ∧ w' = w9 := by
    go_enter Tryz.func9, Tryz.ntmps9
    go_wp2
    go_ret
    exact ⟨rfl, rfl⟩
  refine HT.mono ?_
  rintro e w10 ⟨rfl, hw⟩
  obtain rfl := hw.symm
  clear hw
  go_wp2_with fail
  go_ret
  exact ⟨rfl, HO.out⟩
end Go.Proofs.YtfkcbdiffmacgaaGreatDoor

namespace Go.Proofs.YtfkcbdiffmacgaaGreatDoor
open Go.RowKit

set_option maxRecDepth 100000 in
set_option maxHeartbeats 3200000 in
theorem wnil_law (w : World) (n : Int) : Calls Tryz.prog 4 #[.int .i64 n] w fun e w' => e = .returned (.bool true) ∧ Only (fun _ => False) w w' := by
  obtain ⟨V, hV⟩ : ∃ V, Value.agg (sm.cells Loc.none) = V := ⟨_, rfl⟩
  have HSM := hide (wsmall_any w)
  have HAN := hide (fun W => append_nil W V sm Loc.none hV.symm)
  rw [hV] at HSM
  clear hV
  go_enter Tryz.func4, Tryz.ntmps4
  go_wp2_with fail
  refine HSM.out.mono ?_
  rintro e w1 ⟨rfl, ho⟩
  have HO1 := hide ho
  clear ho
  go_wp2_with fail
  refine (HAN.out w1).mono ?_
  rintro e w2 ⟨rfl, ho⟩
  have HO2 := hide (o2 HO1.out ho)
  clear ho
  go_wp2_with fail
  refine (get_nil w2 n).mono ?_
  rintro e w3 ⟨rfl, ho⟩
  have HO3 := hide (o2 HO2.out ho)
  have HTH := hide (there_new w3 Rc.none Loc.none)
  have HOA := hide (onlyA w3 (.cells (Rc.none.cells Loc.none) 37))
  clear ho
  go_upto_region 4 with (refine wpList_lay_rec rfl (.tmp 6) (.tmp 18) rfl w3.heap.size rfl Rc.none Loc.none rfl HTH.out ?_; intro W4 HW4; go_frame)
  have HO4 := hide ((o2 HO3.out HOA.out).trans HW4.out.only (fun i hi e => by have := HO3.out.size; omega))
  clear HOA HTH
  go_wp2_with fail
  refine (reserve_nil W4 n).mono ?_
  rintro e w5 ⟨rfl, rfl⟩
  go_wp2_with fail
  refine (release_nil w5 n).mono ?_
  rintro e w6 ⟨rfl, rfl⟩
  go_wp2_with fail
  refine (flush_nil w6 n).mono ?_
  rintro e w7 ⟨rfl, rfl⟩
  go_wp2_with fail
  refine (recycle_nil w7 n).mono ?_
  rintro e w8 ⟨rfl, rfl⟩
  go_wp2_with fail
  refine (tail_nil w8).mono ?_
  rintro e w9 ⟨rfl, rfl⟩
  go_wp2_with fail
  refine (flushed_nil w9).mono ?_
  rintro e w10 ⟨rfl, rfl⟩
  go_wp2_with fail
  refine (start_nil w10).mono ?_
  rintro e w11 ⟨rfl, rfl⟩
  go_wp2_with fail
  refine (room_nil w11).mono ?_
  rintro e w12 ⟨rfl, rfl⟩
  go_wp2_with fail
  refine (wawake_any w12).mono ?_
  rintro e w13 ⟨rfl, ho⟩
  have HO5 := hide (o2 HO4.out ho)
  clear ho
  go_wp2_with fail
  go_ret
  exact ⟨rfl, HO5.out⟩
end Go.Proofs.YtfkcbdiffmacgaaGreatDoor

namespace Go.Proofs.YtfkcbdiffmacgaaGreatDoor
open Go.ChangeShapes Go.WideShapes Go.ChangeAt Go.RowKit Go.Deep

theorem Tryz.laidOut : laidOutB Tryz.prog = true := by kernel_rfl
theorem Tryz.cellsInt : Tryz.prog.cellsOf 3 = 1 := by kernel_rfl
theorem Tryz.cellsStr : Tryz.prog.cellsOf 9 = 1 := by kernel_rfl
theorem Tryz.cellsStrs : Tryz.prog.cellsOf 75 = 1 := by kernel_rfl
theorem Tryz.bytesStr : Tryz.prog.bytesOf 9 = 16 := by kernel_rfl
theorem cell_spot {w : World} {a : Addr} {v : Value} (h : w.cell? a = some v) : a = ⟨a.block, a.off, none⟩ := by
  obtain ⟨b, o, s⟩ := a
  cases s with
  | none => rfl
  | some q =>
    unfold World.cell? at h
    split at h
    · simp at h
    · simp at h
theorem weightsAll_mem {H : Type} {P : Program} {e : TypeId} {d : DataW H} {l : List (DataW H)} {n : Nat} (hd : d ∈ l) (hn : n ∈ d.weights P e) : n ∈ DataW.weightsAll P e l := by
  induction l with
  | nil => cases hd
  | cons x t ih =>
    rw [DataW.weightsAll, List.mem_append]
    rcases List.mem_cons.1 hd with rfl | h
    · exact .inl hn
    · exact .inr (ih h)
/-- What a page that came in holds. -/
structure PgIn (W : World) (v : Value) (a k u r : Int) (h : ByteArray) (B : Nat) (ao : Option Addr) (cp : Nat) (l : List ByteArray) : Prop where
  val : v = .agg #[.int .i64 a, .int .i64 k, .int .i64 u, .int .i64 r, .string h, .slice ao l.length cp]
  a : -9223372036854775808 ≤ a ∧ a < 9223372036854775808
  k : -9223372036854775808 ≤ k ∧ k < 9223372036854775808
  u : -9223372036854775808 ≤ u ∧ u < 9223372036854775808
  r : -9223372036854775808 ≤ r ∧ r < 9223372036854775808
  high : h.size ≤ 140737488355328
  strs : Strs W B ao l
  fit : Fit ao l.length cp
  len : l.length ≤ 8796093021952
theorem strs_of_trod {H : Type} {enc : TypeId × Value → H} {W : World} {c : Value} {x : DataW H × List MemPlace} {n : Nat} (h : DataW.trod enc Tryz.prog W 0 (fun _ => true) true n 75 [c] = some x) (hw : ∀ m ∈ x.1.weights Tryz.prog 75, m ≤ reachBytes) :
    ∃ (B : Nat) (ao : Option Addr) (cp : Nat) (l : List ByteArray), c = .slice ao l.length cp ∧ Strs W B ao l ∧ Fit ao l.length cp ∧ l.length ≤ 8796093021952 := by
  rcases open_strs Tryz.underlying75 Tryz.underlying9 Tryz.cellsStr h with ⟨hcs, _⟩ | ⟨ad, len, cap, m, Sx, hcs, _, hl, hm, hmm, hx, hc⟩
  · simp at hcs
    subst hcs
    exact ⟨0, none, 0, [], rfl, Strs.nil _ _ _, ⟨fun _ => rfl, by simp, (by unfold maxLen; omega)⟩, by simp⟩
  · simp at hcs hmm
    subst hcs
    subst hmm
    rw [hx] at hw
    simp only [DataW.weights, Tryz.underlying75, Tryz.bytesStr] at hw
    have hwb := hw ((((List.range len).map fun i => DataW.lit (H := H) (.string (Sx i).data.toList)).length + ((List.range (m - len)).map fun j => DataW.lit (H := H) (.string (Sx (len + j)).data.toList)).length) * 16) (by simp)
    simp only [List.length_map, List.length_range] at hwb
    have hlen : ((List.range len).map Sx).length = len := by simp
    have hwr : reachBytes = 140737488351232 := by decide
    refine ⟨ad.block, some ad, m, (List.range len).map Sx, by rw [hlen], ⟨fun h0 => ?_, fun h0 => ?_, by rw [hlen]; omega, fun s hs => ?_⟩, ⟨(fun h => by cases h), (by rw [hlen]; exact hl), hm⟩, by rw [hlen]; omega⟩
    · rw [hlen] at h0
      have c0 := (hc 0 (by omega)).1
      have e0 : ad.add 0 = ad := by unfold Addr.add; split <;> simp_all
      rw [e0] at c0
      have ha := cell_spot c0
      refine ⟨ad.off, by rw [← ha], fun j hj => ?_⟩
      rw [hlen] at hj
      have cj := (hc j (by omega)).1
      rw [ha, add_at] at cj
      rw [cj]
      simp
    · rw [hlen] at h0
      have c0 := (hc 0 (by omega)).1
      have e0 : ad.add 0 = ad := by unfold Addr.add; split <;> simp_all
      rw [e0] at c0
      exact World.block_lt_of_cell? W _ c0
    · obtain ⟨i, hi, rfl⟩ := List.mem_map.1 hs
      have hmem : (DataW.lit (H := H) (.string (Sx i).data.toList)) ∈ (List.range len).map fun i => DataW.lit (H := H) (.string (Sx i).data.toList) := List.mem_map.2 ⟨i, hi, rfl⟩
      have := hw (Sx i).data.toList.length (by
        refine List.mem_cons_of_mem _ (List.mem_append.2 (.inl (weightsAll_mem hmem ?_)))
        simp [DataW.weights])
      rw [show (Sx i).data.toList.length = (Sx i).size from bl_len _] at this
      omega
set_option maxRecDepth 100000 in
theorem open_page {H : Type} {enc : TypeId × Value → H} {W : World} {base : Nat} {v : Value} {d : DataW H} {ps : List MemPlace} (hok : Value.okWide Tryz.prog W .any base 77 v) (h : DataW.Trod enc Tryz.prog W 0 (fun _ => true) true 77 v d ps)
    (hw : ∀ m ∈ d.weights Tryz.prog 77, m ≤ reachBytes) : ∃ a k u r h B ao cp l, PgIn W v a k u r h B ao cp l := by
  obtain ⟨cs, rfl, hs⟩ := okWide_struct Tryz.underlying77 hok
  obtain ⟨fuel, hf⟩ := h
  rw [Tryz.cellsPage] at hs
  obtain ⟨xs, n, _, hx, _, hlen, hfs⟩ := DataW.trod_struct Tryz.underlying77 hf
  obtain ⟨c0, c1, c2, c3, c4, c5, rfl⟩ : ∃ c0 c1 c2 c3 c4 c5, cs = #[c0, c1, c2, c3, c4, c5] := by
    obtain ⟨l⟩ := cs
    match l, hs with
    | [c0, c1, c2, c3, c4, c5], _ => exact ⟨c0, c1, c2, c3, c4, c5, rfl⟩
  match xs, hlen with
  | [y0, y1, y2, y3, y4, y5], _ =>
    simp only [Prod.mk.injEq] at hx
    have g0 := hfs 0 _ rfl
    have g1 := hfs 1 _ rfl
    have g2 := hfs 2 _ rfl
    have g3 := hfs 3 _ rfl
    have g4 := hfs 4 _ rfl
    have g5 := hfs 5 _ rfl
    simp [Value.cells, Tryz.cellsInt, Tryz.cellsStr, Tryz.cellsStrs] at g0 g1 g2 g3 g4 g5
    obtain ⟨a, e0, _, w0⟩ := DataW.trod_int Tryz.underlying3 g0
    obtain ⟨k, e1, _, w1⟩ := DataW.trod_int Tryz.underlying3 g1
    obtain ⟨u, e2, _, w2⟩ := DataW.trod_int Tryz.underlying3 g2
    obtain ⟨r, e3, _, w3⟩ := DataW.trod_int Tryz.underlying3 g3
    obtain ⟨h, e4, f4, _⟩ := DataW.trod_string Tryz.underlying9 g4
    simp at e0 e1 e2 e3 e4
    rw [hx.1] at hw
    simp only [DataW.weights, Tryz.underlying77] at hw
    have hw4 : ∀ m ∈ y4.1.weights Tryz.prog 9, m ≤ reachBytes := fun m hm => hw m (DataW.weights_mem_each (j := 4) (t := 9) (d := y4.1) rfl rfl m hm)
    have hw5 : ∀ m ∈ y5.1.weights Tryz.prog 75, m ≤ reachBytes := fun m hm => hw m (DataW.weights_mem_each (j := 5) (t := 75) (d := y5.1) rfl rfl m hm)
    obtain ⟨B, ao, cp, l, e5, hS, hF, hL⟩ := strs_of_trod g5 hw5
    have hwr : reachBytes = 140737488351232 := by decide
    have hh : h.size ≤ 140737488355328 := by
      rw [f4] at hw4
      have := hw4 h.data.toList.length (by simp [DataW.weights])
      rw [show h.data.toList.length = h.size from bl_len _] at this
      omega
    have b0 := bounds_i64 w0
    have b1 := bounds_i64 w1
    have b2 := bounds_i64 w2
    have b3 := bounds_i64 w3
    exact ⟨a, k, u, r, h, B, ao, cp, l, ⟨by rw [e0, e1, e2, e3, e4, e5], by omega, by omega, by omega, by omega, hh, hS, hF, hL⟩⟩
end Go.Proofs.YtfkcbdiffmacgaaGreatDoor

namespace Go.Proofs.YtfkcbdiffmacgaaGreatDoor
open Go.ChangeShapes Go.WideShapes Go.ChangeAt Go.RowKit

theorem ownKnob_none : ownKnob Tryz.prog.godebug = none := by kernel_rfl
theorem gFirst : Tryz.prog.globalNamed "unicode/utf8.first" = some 1 := by kernel_rfl
theorem gRanges : Tryz.prog.globalNamed "unicode/utf8.acceptRanges" = some 2 := by kernel_rfl
def putCells (cs : Array Value) : Obj → Obj
  | .cells _ t frozen => .cells cs t frozen
  | o => o
def firstCells : Array Value := (Go.Pinned.utf8FirstZ.map fun n : Nat => Value.int .u8 (n : Int)).toArray
def rangeCells : Array Value := #[.int .u8 128, .int .u8 191, .int .u8 160, .int .u8 191, .int .u8 128, .int .u8 159, .int .u8 144, .int .u8 191, .int .u8 128, .int .u8 143, .int .u8 0, .int .u8 0, .int .u8 0, .int .u8 0, .int .u8 0, .int .u8 0, .int .u8 0, .int .u8 0, .int .u8 0, .int .u8 0, .int .u8 0, .int .u8 0, .int .u8 0, .int .u8 0, .int .u8 0, .int .u8 0, .int .u8 0, .int .u8 0, .int .u8 0, .int .u8 0, .int .u8 0, .int .u8 0]
noncomputable def settled (os : Os) : World := World.holding Tryz.prog os ⟨#[], #[], []⟩
/-- A world for the witness: the settled one, the two tables as they are laid. -/
noncomputable def laidWorld (os : Os) : World := { settled os with heap := ((settled os).heap.modify 1 (putCells firstCells)).modify 2 (putCells rangeCells) }
theorem sized_mem {H : Type} {ts : List TypeId} {ds : List (DataW H)} (h : (DataW.weightsEach Tryz.prog ts ds).all (· ≤ reachBytes) = true) {j : Nat} {t : TypeId} {d : DataW H} (ht : ts[j]? = some t) (hd : ds[j]? = some d) : ∀ n ∈ d.weights Tryz.prog t, n ≤ reachBytes := by
  intro n hn
  have := List.all_eq_true.1 h _ (DataW.weights_mem_each ht hd n hn)
  simpa using this
end Go.Proofs.YtfkcbdiffmacgaaGreatDoor

namespace Go.Proofs.YtfkcbdiffmacgaaGreatDoor.walNil
open Go.ChangeShapes Go.WideShapes Go.ChangeAt Go.RowKit

theorem laid_met (os : Os) : laidMet Tryz.prog Rows.walNilRow.laid ((laidWorld os).forCall (fun _ _ => 0) ⟨#[], #[.int .i64 0], []⟩).memory :=
  laidMet_of_run' 8 (by kernel_rfl) (by kernel_rfl)
set_option maxRecDepth 100000 in
theorem lifted (os : Os) (started : os.Started) (H : Type) (enc : TypeId × Value → H) (F : Stop.Interp) :
    ReturnsInHanded {} Tryz.checked os 4 .any ((OpenSpec.ofChange Rows.walNilSpec).preRow enc Tryz.prog Tryz.f4 Rows.walNilRow.domain false Rows.walNilRow.laid) (((OpenSpec.ofChange Rows.walNilSpec).at F).post enc Tryz.prog Tryz.f4 false true false false) := by
  refine returnsInHanded_of_row (C := Tryz.checked) (s := OpenSpec.ofChange Rows.walNilSpec) ownKnob_none started (by kernel_rfl) Tryz.func4
    (witness_row_at (enc := enc) (C := Tryz.checked) false (laidWorld os) #[.int .i64 0] rfl (by kernel_rfl) (by kernel_rfl) (by kernel_rfl)
      (OpenSpec.preRow_of_cond (x := ([.lit (.int .i64 0)], [], [])) 8 (by kernel_rfl) (by kernel_rfl) (fun k hk => by cases hk) (by kernel_rfl) (laid_met os))) ?_
  intro W base args ds gs before hval0 hW _ _ hsz _ _ _
  have hval : ∀ (j : Nat) t v, Tryz.f4.params[j]? = some t → args[j]? = some v → Value.okWide Tryz.prog W .any base t v := hval0
  have hW' := hW
  obtain ⟨p, q, hA0, hV, rfl, hfz, hnd⟩ := hW
  have hA : DataW.TrodAll enc Tryz.prog W 0 (fun _ => true) true Tryz.f4.params.toList args.toList ds p := hA0
  rw [Tryz.params4] at hA hval hsz
  obtain ⟨v0, vs0, d0, ds0, p0, q0, hargs, rfl, rfl, h0, r0⟩ := trodAll_cons hA
  obtain ⟨rfl, rfl, rfl⟩ := trodAll_nil r0
  obtain rfl : args = #[v0] := by cases args; simp_all
  obtain ⟨rfl, rfl⟩ := trodVars_none hV
  obtain ⟨a0, rfl, rfl, rfl, w0⟩ := open_int Tryz.underlying3 (hval 0 3 v0 rfl rfl) h0
  clear hA0 hval0
  simp only [List.append_nil] at hW'
  refine (wnil_law W a0).mono fun e W' ⟨he, ho⟩ => ?_
  subst he
  have bel : Below W.heap.size W W' := ho.below (Nat.le_refl _) (fun _ _ h => h)
  exact ⟨_, rfl, _, _, _, [], _, [], hW', trodAll_mk1 (shut_bool Tryz.underlying4 _), (trodAll_cons_mk (shut_int Tryz.underlying3 w0) trodAll_mk0), rfl, bel.frame _, fun h => by cases h⟩

theorem said : Rows.WalNilSaid :=
  OpenClaim.holds_of_cond 4 Tryz.f4 rfl rfl rfl rfl rfl rfl rfl ⟨rfl, rfl, rfl, rfl, rfl⟩ rfl rfl rfl rfl rfl (by kernel_rfl) Tryz.func4 (by kernel_rfl)
    (of_decide_eq_true (by kernel_rfl)) (by unfold Func.isWrapper; first | (rw [if_pos (by decide +kernel)]; kernel_rfl) | (rw [if_neg (by decide +kernel)]; exact ⟨rfl, rfl⟩))
    (fun os started H enc _ F => by rw [OpenClaim.pre_eq_preRow]; exact lifted os started H enc F)
theorem plain (f : FuncId) (fn : Func) (hf : Tryz.pinned.checked.prog.funcNamed "almonry/almonrylaw05.WalNil" = some f) (hfn : Tryz.pinned.checked.prog.funcs[f]? = some fn) :
    false = Tryz.pinned.checked.prog.looks [] ∧ ∀ (j : Nat) t, fn.params[j]? = some t → Tryz.pinned.checked.prog.wantsStandIn t = false := by
  obtain rfl : f = 4 := Option.some.inj ((show Tryz.prog.funcNamed "almonry/almonrylaw05.WalNil" = some 4 by kernel_rfl).symm.trans hf) |>.symm
  obtain rfl : fn = Tryz.f4 := (Option.some.inj (Tryz.func4.symm.trans hfn)).symm
  refine ⟨by kernel_rfl, fun j t ht => ?_⟩
  rw [Tryz.params4] at ht
  obtain rfl : t = 3 := by simpa using Array.mem_of_getElem? ht
  exact (show Tryz.prog.wantsStandIn 3 = false by kernel_rfl)
theorem card : Rows.WalNilCardSaid :=
  Claim7.holds_tied_plain_at .later [] _ _ _ _ said (fun _ h => by cases h) (by kernel_rfl) (fun _ h => by cases h) walNil_row_tie rfl ⟨rfl, rfl⟩ (by kernel_rfl) rfl plain (by kernel_rfl)
end Go.Proofs.YtfkcbdiffmacgaaGreatDoor.walNil
namespace Go.Proofs.YtfkcbdiffmacgaaGreatDoor
theorem walNil_holds : Rows.WalNilCardSaid := walNil.card
#print axioms walNil_holds
end Go.Proofs.YtfkcbdiffmacgaaGreatDoor
