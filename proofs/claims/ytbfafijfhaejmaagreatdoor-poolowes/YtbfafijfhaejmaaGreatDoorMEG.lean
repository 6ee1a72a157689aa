/- The law's own example; what Get of nil answers. -/
import Derived.Test.YtbfafijfhaejmaaGreatDoorMCT
import Derived.Test.YtbfafijfhaejmaaGreatDoorMB
namespace Go.Proofs.YtbfafijfhaejmaaGreatDoor
open Go.RowKit

/-- A disk at work: what its sectors are told by. -/
structure Dk.Wk (D : Dk) (n : Nat) (f : Nat → List UInt8) : Prop where
  dead : D.dead = false
  armed : D.armed = 0
  len : D.old.length = n
  cur : ∀ k, k < n → D.cur k = f k
theorem Dk.Wk.new (n : Nat) : (Dk.new n).Wk n (fun _ => List.replicate 64 0) := by
  refine ⟨rfl, rfl, by simp [Dk.new], fun k hk => ?_⟩
  unfold Dk.cur Dk.new
  simp [List.getD_eq_getElem?_getD, hk]
theorem Dk.Wk.put {D : Dk} {n : Nat} {f : Nat → List UInt8} (h : D.Wk n f) (k : Nat) (b : List UInt8) : ((D.put k b).act).Wk n (fun j => if j = k then b else f j) := by
  refine ⟨?_, ?_, h.len, fun j hj => ?_⟩
  · show (if D.armed = 0 then D.dead else _) = false
    rw [if_pos h.armed]
    exact h.dead
  · show (if D.armed = 0 then 0 else _) = (0 : Int)
    rw [if_pos h.armed]
  · have hc := h.cur j hj
    unfold Dk.cur at hc ⊢
    show ((if j = k then some b else D.fresh j).getD (D.old.getD j [])) = _
    by_cases e : j = k
    · rw [if_pos e, if_pos e]
      rfl
    · rw [if_neg e, if_neg e]
      exact hc
theorem Dk.Wk.writes {D : Dk} {n : Nat} {f : Nat → List UInt8} (cs : List (List UInt8)) (k : Nat) (h : D.Wk n f) : (D.writes k cs).2 = 0 ∧ (D.writes k cs).1.Wk n (fun j => if k ≤ j ∧ j < k + cs.length then cs.getD (j - k) [] else f j) := by
  induction cs generalizing D f k with
  | nil =>
    refine ⟨rfl, ?_⟩
    have e : (fun j => if k ≤ j ∧ j < k + ([] : List (List UInt8)).length then ([] : List (List UInt8)).getD (j - k) [] else f j) = f := by
      funext j
      rw [if_neg (by simp)]
    rw [e]
    exact h
  | cons b r ih =>
    have hw : D.writes k (b :: r) = Dk.writes (D.put k b).act (k + 1) r := by
      rw [Dk.writes, if_neg (by rw [h.armed]; omega)]
    rw [hw]
    obtain ⟨h1, h2⟩ := ih (k + 1) (h.put k b)
    refine ⟨h1, ?_⟩
    have e : (fun j => if k + 1 ≤ j ∧ j < k + 1 + r.length then r.getD (j - (k + 1)) [] else if j = k then b else f j) = (fun j => if k ≤ j ∧ j < k + (b :: r).length then (b :: r).getD (j - k) [] else f j) := by
      funext j
      by_cases hj : j = k
      · subst hj
        rw [if_neg (by omega), if_pos rfl, if_pos (by simp), Nat.sub_self]
        rfl
      · rw [if_neg hj]
        by_cases hr : k + 1 ≤ j ∧ j < k + 1 + r.length
        · rw [if_pos hr, if_pos (by rw [List.length_cons]; omega), show j - k = (j - (k + 1)) + 1 by omega, List.getD_cons_succ]
        · rw [if_neg hr, if_neg (by rw [List.length_cons]; omega)]
    rw [← e]
    exact h2
theorem Dk.Wk.sync {D : Dk} {n : Nat} {f : Nat → List UInt8} (h : D.Wk n f) : D.sync.2 = 0 ∧ D.sync.1.Wk n f := by
  have e : D.sync = (D.act.synced, 0) := by
    unfold Dk.sync
    rw [h.dead, h.armed]
    rfl
  rw [e]
  refine ⟨rfl, ?_, ?_, ?_, fun k hk => ?_⟩
  · show (if D.armed = 0 then D.dead else _) = false
    rw [if_pos h.armed]
    exact h.dead
  · show (if D.armed = 0 then 0 else _) = (0 : Int)
    rw [if_pos h.armed]
  · show ((List.range D.old.length).map _).length = n
    rw [List.length_map, List.length_range, h.len]
  · show (none : Option (List UInt8)).getD (((List.range D.old.length).map D.act.cur).getD k []) = f k
    rw [Option.getD_none, List.getD_eq_getElem?_getD, List.getElem?_map, List.getElem?_range (by rw [h.len]; exact hk)]
    exact h.cur k hk
theorem Dk.Wk.write {D : Dk} {n : Nat} {f : Nat → List UInt8} (h : D.Wk n f) (a c : Nat) (l : List UInt8) (hl : l.length = 64 * c) (ha : a + c ≤ n) : (D.write (a : Int) l).2 = 0 ∧ (D.write (a : Int) l).1.Wk n (fun j => if a ≤ j ∧ j < a + c then (l.drop (64 * (j - a))).take 64 else f j) := by
  have e : D.write (a : Int) l = D.writes a (chunks c l) := by
    unfold Dk.write
    rw [h.dead, h.len, hl]
    rw [if_neg (by simp), if_pos (by
      refine ⟨by omega, ?_⟩
      unfold hasB
      simp
      omega), Int.toNat_natCast, show 64 * c / 64 = c by omega]
  rw [e]
  obtain ⟨h1, h2⟩ := Dk.Wk.writes (chunks c l) a h
  refine ⟨h1, h2.dead, h2.armed, h2.len, fun k hk => ?_⟩
  rw [h2.cur k hk, chunks_len]
  by_cases hr : a ≤ k ∧ k < a + c
  · rw [if_pos hr, if_pos hr, List.getD_eq_getElem?_getD, chunks_get c l (k - a) (by omega)]
    rfl
  · rw [if_neg hr, if_neg hr]
/-- The chapter's record. -/
def sm : Rc := ⟨0, 0, 0, 8, 0, 1, 0, 0, 0, 0, ⟨#[]⟩, [], [], [], [], []⟩
theorem sm1_lay : (sm.at_ 1).lay = [1, 0, 0, 8, 0, 1, 0, 0, 0, 0, 0, 0, 0, 0, 0, 0] := by decide +kernel
theorem sm25_lay : (sm.at_ 25).lay = [25, 0, 0, 8, 0, 1, 0, 0, 0, 0, 0, 0, 0, 0, 0, 0] := by decide +kernel
theorem sm1_valid : (sm.at_ 1).valid :=
  ⟨by decide, by decide, ⟨by decide, by decide, (fun n h => by cases h), (fun n h => by cases h), (fun n h => by cases h), (fun n h => by cases h), (fun n h => by cases h)⟩, ⟨by decide, by decide, by decide, by decide, by decide, by decide⟩, rfl, by rw [sm1_lay]; decide⟩
theorem sm25_valid : (sm.at_ 25).valid :=
  ⟨by decide, by decide, ⟨by decide, by decide, (fun n h => by cases h), (fun n h => by cases h), (fun n h => by cases h), (fun n h => by cases h), (fun n h => by cases h)⟩, ⟨by decide, by decide, by decide, by decide, by decide, by decide⟩, rfl, by rw [sm25_lay]; decide⟩
theorem sm1_len : (sm.at_ 1).enc.length = 24 := by rw [renc_len, sm1_lay]; rfl
theorem sm25_len : (sm.at_ 25).enc.length = 24 := by rw [renc_len, sm25_lay]; rfl
theorem sm_at (w : World) : RcAt w sm Loc.none :=
  ⟨Zs.nil _ _ _, Zs.nil _ _ _, ⟨fun _ => True, Ims.nil _ _ _ _⟩, Prs.nil _ _ _, Prs.nil _ _ _, ⟨fun _ => rfl, Nat.le_refl _, Nat.zero_le _⟩, ⟨fun _ => rfl, Nat.le_refl _, Nat.zero_le _⟩, Nat.zero_le _, ⟨by decide, by decide⟩⟩
theorem run_build_sm (w : World) : (Instr.build 59 #[(3, .int .u8 8), (5, .int .i64 1)]).run Tryz.prog w = .ok (.agg (sm.cells Loc.none)) w := run_build w 59 _ _ (by kernel_rfl)
end Go.Proofs.YtbfafijfhaejmaaGreatDoor

namespace Go.Proofs.YtbfafijfhaejmaaGreatDoor
open Go.RowKit

section
variable {ops : Array Oper} {rest : List Oper} {o : Oper} {a : Act} {w : World} {Q : Exit → Act → World → Prop}
theorem wpList_build_sm (hg : o.guard = none) (hop : o.op = .build 59 #[(3, .const (.int .u8 8)), (5, .const (.int .i64 1))]) (h : wpList Tryz.prog ops Q rest (a.put o.dst (.agg (sm.cells Loc.none))) w) : wpList Tryz.prog ops Q (o :: rest) a w := by
  refine wpList_plain hg fun K hK => ?_
  unfold Oper.wp execOp
  have e : (#[(3, Operand.const (.int .u8 8)), (5, .const (.int .i64 1))] : Array (Nat × Operand)).map (fun x => (x.1, a.eval x.2)) = #[(3, .int .u8 8), (5, .int .i64 1)] := by
    simp only [List.map_toArray, List.map_cons, List.map_nil]
    rfl
  simp only [hop, e, Sem.run_bind, Sem.run_pure, Result.andThen_ok, run_build_sm]
  exact hK _ _ h
end
theorem LogAt.owned {W : World} {l d frm n base : Nat} (h : LogAt W l d (Lg.new frm n) 0 none 0 (.slice none 0 0)) : LogOw W l d (Lg.new frm n) base (.slice none 0 0) (.slice none 0 0) :=
  ⟨h.c0, h.c1, h.c2, h.c3, h.c4, h.c5, h.c6, h.c7, h.c8, h.fz, h.lt, ⟨World.ownsRow_nil _ _ _ _, rfl⟩, World.ownsRow_nil _ _ _ _, (by simp [Value.ownBlock]), (by simp [Value.ownBlock]), (fun k e => by simp [Value.ownBlock] at e)⟩
abbrev zs64 : List UInt8 := List.replicate 64 0
def exS : List UInt8 := (sm.at_ 1).enc ++ (sm.at_ 25).enc
theorem exS_len : exS.length = 48 := by unfold exS; rw [List.length_append, sm1_len, sm25_len]
theorem exS_ne : exS ≠ [] := by intro h; have := exS_len; rw [h] at this; simp at this
def exG1 : Lg := (Lg.new 2 4).app (sm.at_ 1).enc
def exG2 : Lg := exG1.app (sm.at_ 25).enc
theorem exG1_tail : exG1.tail = 25 := by show 1 + (sm.at_ 1).enc.length = 25; rw [sm1_len]
theorem exG2_tail : exG2.tail = 49 := by show exG1.tail + (sm.at_ 25).enc.length = 49; rw [exG1_tail, sm25_len]
theorem exG1_stream : exG1.stream = (sm.at_ 1).enc := by show [] ++ _ = _; rfl
theorem exG2_stream : exG2.stream = exS := by show exG1.stream ++ _ = _; rw [exG1_stream]; rfl
theorem exG0_ok : (Lg.new 2 4).Ok := ⟨by decide, by decide, by decide, by decide, by decide, by decide, by decide, by decide, by decide⟩
theorem exG1_ok : exG1.Ok := ⟨by decide, by rw [exG1_tail]; decide, by rw [exG1_tail]; decide, by rw [exG1_tail]; decide, by decide, by decide, by decide, by decide, by rw [exG1_stream, sm1_len]; decide⟩
theorem exG2_ok : exG2.Ok := ⟨by decide, by rw [exG2_tail]; decide, by rw [exG2_tail]; decide, by rw [exG2_tail]; decide, by decide, by decide, by decide, by decide, by rw [exG2_stream, exS_len]; decide⟩
def exF (j : Nat) : List UInt8 := if j = 2 then holdL 0 exS else zs64
theorem hold64 : (holdL 0 exS).length = 64 := hold_len 0 exS (by rw [exS_len]; omega)
theorem exF_len (j : Nat) : (exF j).length = 64 := by
  unfold exF
  split
  · exact hold64
  · simp [zs64]
theorem ex_format {D : Dk} (h : D.Wk 10 (fun _ => zs64)) : (D.write 2 (List.replicate (4 * 64) 0)).2 = 0 ∧ (D.write 2 (List.replicate (4 * 64) 0)).1.sync.2 = 0 ∧ (D.write 2 (List.replicate (4 * 64) 0)).1.sync.1.Wk 10 (fun _ => zs64) := by
  obtain ⟨h1, h2⟩ := h.write 2 4 (List.replicate (4 * 64) 0) (by rw [List.length_replicate]) (by omega)
  have e : (fun j => if 2 ≤ j ∧ j < 2 + 4 then ((List.replicate (4 * 64) (0 : UInt8)).drop (64 * (j - 2))).take 64 else zs64) = (fun _ => zs64) := by
    funext j
    split
    · rw [List.drop_replicate, List.take_replicate, show min 64 (4 * 64 - 64 * (j - 2)) = 64 by omega]
    · rfl
  rw [e] at h2
  exact ⟨h1, h2.sync.1, h2.sync.2⟩
theorem exG2_block0 : exG2.block 0 = exS := by
  unfold Lg.block
  rw [exG2_stream, Nat.zero_sub, Nat.zero_mul, List.drop_zero, List.take_of_length_le (by rw [exS_len]; omega)]
theorem ex_flush {D : Dk} (h : D.Wk 10 (fun _ => zs64)) : (exG2.flush D).2.1 = 0 ∧ (exG2.flush D).2.2 = 49 ∧ (exG2.flush D).1.Wk 10 exF := by
  have hw := h.write 2 1 (holdL 0 (exG2.block 0)) (by rw [exG2_block0, hold64]) (by omega)
  rw [exG2_block0] at hw
  have e : (fun j => if 2 ≤ j ∧ j < 2 + 1 then ((holdL 0 exS).drop (64 * (j - 2))).take 64 else zs64) = exF := by
    funext j
    unfold exF
    by_cases hj : j = 2
    · subst hj
      rw [if_pos (by omega), if_pos rfl, Nat.sub_self, Nat.mul_zero, List.drop_zero, List.take_of_length_le (by rw [hold64]; omega)]
    · rw [if_neg (by omega), if_neg hj]
  obtain ⟨w1', w2'⟩ := hw
  rw [e] at w2'
  have w1 : (D.write 2 (holdL 0 exS)).2 = 0 := w1'
  have w2 : (D.write 2 (holdL 0 exS)).1.Wk 10 exF := w2'
  have hl1 : exG2.lay1 0 D = D.write 2 (holdL 0 exS) := by
    unfold Lg.lay1
    rw [exG2_block0]
    rfl
  have hls : exG2.lays ((exG2.flushed - 1) / 54) ((exG2.tail - 2) / 54 + 1 - (exG2.flushed - 1) / 54) D = ((D.write 2 (holdL 0 exS)).1, 0) := by
    rw [exG2_tail]
    show exG2.lays 0 1 D = _
    rw [lays_step, hl1, if_pos w1]
    rfl
  have hs := w2.sync
  unfold Lg.flush
  simp only [hls, if_true]
  rw [if_pos hs.1]
  exact ⟨rfl, exG2_tail, hs.2⟩
theorem sec_of {D : Dk} (h : D.Wk 10 exF) (k : Nat) (hk : k < 4) : secL (D.bytes 2 4) 4 k = exF (2 + k) := by
  have hb : D.bytes 2 4 = exF 2 ++ (exF 3 ++ (exF 4 ++ (exF 5 ++ []))) := by
    show (([0, 1, 2, 3] : List Nat).map fun i => D.cur (2 + i)).flatten = _
    simp only [List.map_cons, List.map_nil, List.flatten_cons, List.flatten_nil]
    rw [h.cur _ (by omega), h.cur _ (by omega), h.cur _ (by omega), h.cur _ (by omega)]
  unfold secL
  rw [hb, Nat.mod_eq_of_lt hk]
  have l2 := exF_len 2
  have l3 := exF_len 3
  have l4 := exF_len 4
  have l5 := exF_len 5
  have d : ∀ (n : Nat) (a b : List UInt8), a.length = 64 → (a ++ b).drop (n + 64) = b.drop n := fun n a b ha => by
    rw [Nat.add_comm, ← List.drop_drop, List.drop_left' ha]
  have t : ∀ (a b : List UInt8), a.length = 64 → (a ++ b).take 64 = a := fun a b ha => List.take_left' ha
  rcases (show k = 0 ∨ k = 1 ∨ k = 2 ∨ k = 3 by omega) with rfl | rfl | rfl | rfl
  · rw [Nat.zero_mul, List.drop_zero, t _ _ l2]
  · rw [show 1 * 64 = 0 + 64 by rfl, d 0 _ _ l2, List.drop_zero, t _ _ l3]
  · rw [show 2 * 64 = 64 + 64 by rfl, d 64 _ _ l2, show 64 = 0 + 64 by rfl, d 0 _ _ l3, List.drop_zero, t _ _ l4]
  · rw [show 3 * 64 = 128 + 64 by rfl, d 128 _ _ l2, show 128 = 64 + 64 by rfl, d 64 _ _ l3, show 64 = 0 + 64 by rfl, d 0 _ _ l4, List.drop_zero, t _ _ l5]
def exR : List Rc := [sm.at_ 1, sm.at_ 25]
theorem exR_enc : encR exR = exS := by simp [encR, exR, exS]
theorem exR_tk : tk 1 exR exR.length = 49 := by
  unfold tk
  rw [List.take_length, exR_enc, exS_len]
theorem exR_chn : Chn 1 exR := by
  refine ⟨fun i hi => ?_⟩
  have hi2 : i = 0 ∨ i = 1 := by have : exR.length = 2 := rfl; omega
  rcases hi2 with rfl | rfl
  · exact ⟨sm1_valid, (fun im h => by cases h), by show (1 : Int) = _; unfold tk; simp [encR]⟩
  · refine ⟨sm25_valid, (fun im h => by cases h), ?_⟩
    show (25 : Int) = _
    unfold tk
    have : (encR (exR.take 1)).length = 24 := by show (encR [sm.at_ 1]).length = 24; simp [encR, sm1_len]
    rw [this]
    rfl
theorem ex_same {D : Dk} (h : D.Wk 10 exF) (k : Nat) (hk : k < 4) : secL (D.bytes 2 4) 4 k = holdL k ((Lg.found 2 4 1 [] exR).block k) := by
  rw [sec_of h k hk]
  have hst : (Lg.found 2 4 1 [] exR).stream = exS := by show [] ++ encR exR = _; rw [exR_enc]; rfl
  by_cases h0 : k = 0
  · subst h0
    have : (Lg.found 2 4 1 [] exR).block 0 = exS := by
      unfold Lg.block
      rw [hst, Nat.zero_sub, Nat.zero_mul, List.drop_zero, List.take_of_length_le (by rw [exS_len]; omega)]
    rw [this]
    rfl
  · have : (Lg.found 2 4 1 [] exR).block k = [] := by
      unfold Lg.block
      rw [hst]
      have hb0 : (Lg.found 2 4 1 [] exR).b0 = 0 := rfl
      rw [hb0, List.drop_of_length_le (by rw [exS_len]; omega)]
      rfl
    rw [this]
    unfold exF holdL
    rw [if_neg (by omega), if_pos rfl]
theorem ex_tells {D : Dk} (h : D.Wk 10 exF) : tellsL (secL (D.bytes 2 4) 4 0) 0 = [] ++ encR exR := by
  rw [sec_of h 0 (by omega), exR_enc]
  show tellsL (holdL 0 exS) 0 = exS
  exact tells_hold 0 exS (by omega) (by rw [exS_len]; omega)
end Go.Proofs.YtbfafijfhaejmaaGreatDoor

namespace Go.Proofs.YtbfafijfhaejmaaGreatDoor
open Go.RowKit

theorem LogOw.hi7 {W : World} {l d : Nat} {G : Lg} {base : Nat} {v7 v8 : Value} (h : LogOw W l d G base v7 v8) (k : Nat) (hk : v7.ownBlock = some k) : base ≤ k := by
  rcases h.row.own.2 with ⟨hv, hn⟩ | ⟨g, cap, cur, hv, hb, r⟩
  · rw [hv] at hk; simp [Value.ownBlock] at hk
  · rw [hv] at hk
    simp [Value.ownBlock] at hk
    omega
theorem LogOw.hi8 {W : World} {l d : Nat} {G : Lg} {base : Nat} {v7 v8 : Value} (h : LogOw W l d G base v7 v8) (k : Nat) (hk : v8.ownBlock = some k) : base ≤ k := by
  rcases h.pl.2 with ⟨hv, hn⟩ | ⟨g, cap, cur, hv, hb, r⟩
  · rw [hv] at hk; simp [Value.ownBlock] at hk
  · rw [hv] at hk
    simp [Value.ownBlock] at hk
    omega
/-- A log of its own on a disk, made since w. -/
structure Aw (w W : World) (l d g m base : Nat) (D : Dk) (G : Lg) (v7 v8 : Value) : Prop where
  log : LogOw W l d G base v7 v8
  dsk : Dsk W d g m D
  only : Only (fun _ => False) w W
  hd : w.heap.size ≤ d
  hg : w.heap.size ≤ g
  hm : w.heap.size ≤ m
  hl : w.heap.size ≤ l
  bd : d < base
  bg : g < base
  bm : m < base
  bl : l < base
  nl : ¬ own d g m l
  bb : base ≤ W.heap.size
theorem Aw.more {w W W' : World} {l d g m base : Nat} {D : Dk} {G : Lg} {v7 v8 : Value} (h : Aw w W l d g m base D G v7 v8) (ho : Only (fun _ => False) W W') : Aw w W' l d g m base D G v7 v8 :=
  ⟨h.log.more ho, h.dsk.kept ho (fun h => h) (fun h => h) (fun h => h), o2 h.only ho, h.hd, h.hg, h.hm, h.hl, h.bd, h.bg, h.bm, h.bl, h.nl, Nat.le_trans h.bb ho.size⟩
theorem aw_app {w W : World} {l d g m base : Nat} {D : Dk} {G : Lg} {v7 v8 : Value} (h : Aw w W l d g m base D G v7 v8) (ok : G.Ok) (hv : (sm.at_ G.tail).valid) (hroom : (sm.at_ G.tail).enc.length ≤ G.room) (hpl : G.places.length ≤ 1000000000) :
    Calls Tryz.prog 18 #[.pointer (some ⟨l, 0, none⟩), .agg (sm.cells Loc.none)] W fun e w' => e = .returned (.tuple #[.int .i64 (G.tail : Int), .int .i64 0]) ∧ ∃ v7' v8', Aw w w' l d g m base D (G.app (sm.at_ G.tail).enc) v7' v8' := by
  refine (append_ok W l d G base v7 v8 h.log ok h.bb sm Loc.none (sm_at W) hv hroom hpl).mono ?_
  rintro e w' ⟨he, v7', v8', hlo, ho, -, -⟩
  refine ⟨he, v7', v8', hlo, ?_, ?_, h.hd, h.hg, h.hm, h.hl, h.bd, h.bg, h.bm, h.bl, h.nl, Nat.le_trans h.bb ho.size⟩
  · have no : ∀ k, k < base → k ≠ l → ¬ (k = l ∨ some k = v7.ownBlock ∨ some k = v8.ownBlock) := by
      rintro k hk hkl (e | e | e)
      · exact hkl e
      · have := h.log.hi7 k e.symm; omega
      · have := h.log.hi8 k e.symm; omega
    have nl := h.nl
    unfold own at nl
    exact h.dsk.kept ho (no _ h.bd (fun e => nl (.inl e.symm))) (no _ h.bg (fun e => nl (.inr (.inl e.symm)))) (no _ h.bm (fun e => nl (.inr (.inr e.symm))))
  · refine h.only.trans ho ?_
    rintro i hi (e | e | e)
    · have := h.hl; omega
    · have := h.log.hi7 i e.symm; have := h.hl; have := h.bl; omega
    · have := h.log.hi8 i e.symm; have := h.hl; have := h.bl; omega
theorem aw_new (w : World) : Calls Tryz.prog 8 #[.int .i64 10] w fun e w' => ∃ d g m, e = .returned (.tuple #[.pointer (some ⟨d, 0, none⟩), .int .i64 0]) ∧ Dsk w' d g m (Dk.new 10) ∧ Only (fun _ => False) w w' ∧ w.heap.size ≤ d ∧ w.heap.size ≤ g ∧ w.heap.size ≤ m ∧ d < w'.heap.size ∧ g < w'.heap.size ∧ m < w'.heap.size := by
  refine (new_ok w 10 (by omega) (by omega)).mono ?_
  rintro e w' ⟨he, hD, ho⟩
  have := hD.lt
  exact ⟨_, _, _, he, hD, ho, by omega, by omega, by omega, by omega, by omega, by omega⟩
theorem aw_format {w W : World} {d g m : Nat} (hD : Dsk W d g m (Dk.new 10)) (ho : Only (fun _ => False) w W) (hd : w.heap.size ≤ d) (hg : w.heap.size ≤ g) (hm : w.heap.size ≤ m) (h1 : d < W.heap.size) (h2 : g < W.heap.size) (h3 : m < W.heap.size) :
    Calls Tryz.prog 10 #[.pointer (some ⟨d, 0, none⟩), .int .i64 2, .int .i64 4] W fun e w' => ∃ l D base, e = .returned (.tuple #[.pointer (some ⟨l, 0, none⟩), .int .i64 0]) ∧ D.Wk 10 (fun _ => zs64) ∧ Aw w w' l d g m base D (Lg.new 2 4) (.slice none 0 0) (.slice none 0 0) := by
  have hx := ex_format (Dk.Wk.new 10)
  have hf : fitsB (Dk.new 10).old.length ((2 : Nat) : Int) ((4 : Nat) : Int) = true := by
    rw [(Dk.Wk.new 10).len]
    rfl
  refine Calls.mono (format_ok W d g m (Dk.new 10) hD 2 4 hf hx.1 hx.2.1) ?_
  rintro e w' ⟨l, he, hD', hL, hl, ho'⟩
  refine ⟨l, _, w'.heap.size, he, hx.2.2, hL.owned, hD', ?_, hd, hg, hm, ?_, ?_, ?_, ?_, hL.lt, ?_, Nat.le_refl _⟩
  · refine ho.trans ho' ?_
    rintro i hi (e | e | e) <;> omega
  · have := ho.size; omega
  · have := ho'.size; omega
  · have := ho'.size; omega
  · have := ho'.size; omega
  · rintro (e | e | e) <;> omega
theorem aw_room {w W : World} {l d g m base : Nat} {D : Dk} {v7 v8 : Value} (h : Aw w W l d g m base D (Lg.new 2 4) v7 v8) : Calls Tryz.prog 67 #[.pointer (some ⟨l, 0, none⟩)] W fun e w' => e = .returned (.int .i64 108) ∧ Aw w w' l d g m base D (Lg.new 2 4) v7 v8 := by
  refine (h.log.room_ exG0_ok).mono ?_
  rintro e w' ⟨he, ho⟩
  exact ⟨he, h.more ho⟩
theorem aw_app1 {w W : World} {l d g m base : Nat} {D : Dk} {v7 v8 : Value} (h : Aw w W l d g m base D (Lg.new 2 4) v7 v8) : Calls Tryz.prog 18 #[.pointer (some ⟨l, 0, none⟩), .agg (sm.cells Loc.none)] W fun e w' => e = .returned (.tuple #[.int .i64 1, .int .i64 0]) ∧ ∃ v7' v8', Aw w w' l d g m base D exG1 v7' v8' := by
  refine Calls.mono (aw_app h exG0_ok sm1_valid (by show (sm.at_ 1).enc.length ≤ 108; rw [sm1_len]; omega) (by show 0 ≤ _; omega)) ?_
  exact fun e w' hx => hx
theorem aw_app2 {w W : World} {l d g m base : Nat} {D : Dk} {v7 v8 : Value} (h : Aw w W l d g m base D exG1 v7 v8) : Calls Tryz.prog 18 #[.pointer (some ⟨l, 0, none⟩), .agg (sm.cells Loc.none)] W fun e w' => e = .returned (.tuple #[.int .i64 25, .int .i64 0]) ∧ ∃ v7' v8', Aw w w' l d g m base D exG2 v7' v8' := by
  have ht : ((exG1.tail : Nat) : Int) = 25 := by rw [exG1_tail]; rfl
  have hrm : exG1.room = 84 := by show 54 * 2 - (exG1.tail - 1) - 0 = 84; rw [exG1_tail]
  have hx := aw_app h exG1_ok (by rw [ht]; exact sm25_valid) (by rw [ht, sm25_len, hrm]; omega) (by show 1 ≤ _; omega)
  rw [ht] at hx
  exact hx
theorem aw_flush {w W : World} {l d g m base : Nat} {D : Dk} {v7 v8 : Value} (h : Aw w W l d g m base D exG2 v7 v8) (hD : D.Wk 10 (fun _ => zs64)) : Calls Tryz.prog 107 #[.pointer (some ⟨l, 0, none⟩), .int .i64 1] W fun e w' => ∃ D', e = .returned (.int .i64 0) ∧ Dsk w' d g m D' ∧ D'.Wk 10 exF ∧ Only (fun _ => False) w w' := by
  obtain ⟨B, ao, cp, hv, hL, hB⟩ := h.log.at_
  obtain ⟨f1, f2, f3⟩ := ex_flush hD
  have hBb : 0 < exG2.stream.length → base ≤ B := fun h0 => h.log.hi7 B (hB h0)
  have a1 := h.bd
  have a2 := h.bg
  have a3 := h.bm
  have a4 := h.bl
  refine (flush_any W l d g m D h.dsk exG2 B ao cp v8 hL h.nl (fun h0 => ?_) (fun h0 => ?_) exG2_ok (by rw [exG2_tail]; omega) (by decide) 1 (by decide) (by rw [exG2_tail]; decide)).mono ?_
  · have := hBb h0
    rintro (e | e | e) <;> omega
  · have := hBb h0
    omega
  · rintro e w' ⟨he, hd', -, ho⟩
    rw [f1] at he
    refine ⟨_, he, hd', f3, h.only.trans ho ?_⟩
    have b1 := h.hd
    have b2 := h.hg
    have b3 := h.hm
    have b4 := h.hl
    rintro i hi ((e | e | e) | e) <;> omega
end Go.Proofs.YtbfafijfhaejmaaGreatDoor

namespace Go.Proofs.YtbfafijfhaejmaaGreatDoor
open Go.RowKit

theorem results_rec2 {fn : Func} {p u : Tmp} (h : fn.results = #[.cell p 59, .tmp u]) {tmps : Array Value} {w : World} {b : Nat} {v : Value} (hp : tmps.getD p undef = .pointer (some ⟨b, 0, none⟩)) (hP : (loadVar 59 ⟨b, 0, none⟩).run Tryz.prog w = .ok v w) :
    (results fn tmps).run Tryz.prog w = .ok (.tuple #[v, tmps.getD u undef]) w := by
  have e : (asAddr (tmps.getD p undef)).run Tryz.prog w = .ok ⟨b, 0, none⟩ w := by rw [hp]; rfl
  have key : (results fn tmps).run Tryz.prog w = ((asAddr (tmps.getD p undef)).run Tryz.prog w).andThen fun a w₁ => ((loadVar 59 a).run Tryz.prog w₁).andThen fun v w₂ => .ok (.tuple #[v, tmps.getD u undef]) w₂ := by
    simp only [results, h]
    simp [Sem.run_bind, Result.andThen]
  rw [key, e]
  simp only [Result.andThen, hP]
end Go.Proofs.YtbfafijfhaejmaaGreatDoor
