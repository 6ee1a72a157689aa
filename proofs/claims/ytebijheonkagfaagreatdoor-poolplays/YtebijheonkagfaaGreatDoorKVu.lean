/- What the law of PoolPlays writes over; a page's place; a list's copy. -/
import Derived.Test.YtebijheonkagfaaGreatDoorKVt
import Derived.Test.YtebijheonkagfaaGreatDoorKO
import Derived.Deep.CutBlock
namespace Go.Proofs.YtebijheonkagfaaGreatDoor
open Go.RowKit Go.Maps
def owB (P : Pl) (n : Int) : Bool := decide (0 ≤ n) && (P.ow n.toNat).isSome
theorem owB_iff {P : Pl} {n : Int} : owB P n = true ↔ ∃ k : Nat, n = (k : Int) ∧ (P.ow k).isSome = true := by
  unfold owB; rw [Bool.and_eq_true, decide_eq_true_eq]
  constructor
  · rintro ⟨h1, h2⟩
    exact ⟨n.toNat, by omega, h2⟩
  · rintro ⟨k, rfl, h2⟩
    exact ⟨by omega, by simpa using h2⟩
theorem Ows.lookZ {w : World} {m n : Nat} {f : Nat → Option Int} (h : Ows w m n f) (z : Int) (hz : ¬ ∃ k : Nat, k < n ∧ z = (k : Int)) (hb : -9223372036854775808 ≤ z ∧ z < 9223372036854775808) :
    ∃ v : Int, (Instr.lookup 94 (.map (some m)) (.int .i64 z) true).run Tryz.prog w = .ok (.tuple #[.int .i64 v, .bool false]) w := by
  obtain ⟨N, D, hown, hD⟩ := h; have hk : keyOf Tryz.prog 3 (.int .i64 z) = some (.int .i64 z) := keyOf_int_mk Tryz.underlying3 (WalkArith.wf_i64 (by omega)); obtain ⟨v, ps, h1, h2⟩ := hown.look_ok keyed Tryz.underlying94 (zero_int w) (intElem_mk 0) hk
  have hh : Maps.has D (.int .i64 z) = false := by
    cases e : Maps.has D (.int .i64 z) with
    | false => rfl
    | true =>
      obtain ⟨k, hk1, hk2⟩ := hD.key _ e
      exact absurd ⟨k, hk1, by simpa using hk2⟩ hz
  rw [hh] at h1; obtain ⟨u, rfl, _⟩ := intElem_inv h2
  exact ⟨u, h1⟩
set_option maxRecDepth 100000 in
set_option maxHeartbeats 800000 in
theorem owesZ_any (w : World) (p d l fb mb : Nat) (P : Pl) (T : Nat → Prop) (h : PoolAt w p d l fb mb P T) (ht : ∀ k, (P.ow k).isSome = true → k < P.pages) (n : Int) (hb : -9223372036854775808 ≤ n ∧ n < 9223372036854775808) :
    Calls Tryz.prog 36 #[.pointer (some ⟨p, 0, none⟩), .int .i64 n] w fun e w' => e = .returned (.bool (owB P n)) ∧ w' = w := by
  by_cases hz : ∃ k : Nat, k < P.pages ∧ n = (k : Int)
  · obtain ⟨k, hk, rfl⟩ := hz
    have e : owB P (k : Int) = (P.ow k).isSome := by unfold owB; simp
    rw [e]
    exact owes_any w p d l fb mb P T h k hk
  · have e : owB P n = false := by
      cases hq : owB P n with
      | false => rfl
      | true =>
        obtain ⟨j, hj, hj2⟩ := owB_iff.1 hq
        exact absurd ⟨j, ht j hj2, hj⟩ hz
    rw [e]; obtain ⟨v, hv⟩ := h.map.lookZ n hz hb; have c5 := h.c5; clear h ht hz e hb
    go_enter Tryz.func36, Tryz.ntmps36
    go_wp2
    go_ret
    exact ⟨rfl, rfl⟩
theorem tq_oowes {w W : World} {p d l q xd x : Nat} {A : CA} {X : XA} {P : Pl} {D D2 : Dk} {G G2 : Lg} (h : Tq w W p d l q xd x A X P D G P D2 G2) (n : Int) (hb : -9223372036854775808 ≤ n ∧ n < 9223372036854775808) :
    Calls Tryz.prog 36 #[.pointer (some ⟨p, 0, none⟩), .int .i64 n] W fun e w' => e = .returned (.bool (owB P n)) ∧ Only (fun _ => False) W w' := by
  refine (owesZ_any W p d l A.fb A.mb P A.T h.sw.pool h.xh.pl.ts.lt n hb).mono ?_; rintro e w' ⟨rfl, rfl⟩
  exact ⟨rfl, Only.refl _ _⟩
theorem tq_gowes {w W : World} {p d l q xd x : Nat} {A : CA} {X : XA} {P P2 : Pl} {D D2 : Dk} {G G2 : Lg} (h : Tq w W p d l q xd x A X P D G P2 D2 G2) (n : Int) :
    Calls Tryz.prog 37 #[.pointer (some ⟨q, 0, none⟩), .int .i64 n] W fun e w' => e = .returned (.bool (owB P2 n)) ∧ Only (fun _ => False) W w' := by
  refine (gpowes_any W q xd x X.fb X.cf X.tb X.ta X.tc P2 X.tl X.N h.xh.pl n).mono ?_; rintro e w' ⟨rfl, rfl⟩; refine ⟨ret_bool ?_, Only.refl _ _⟩; rw [Bool.eq_iff_iff, decide_eq_true_eq, owB_iff]; have ts := h.xh.pl.ts
  constructor
  · rintro ⟨k, hk, e⟩
    have hm : (X.tl[k].1, X.tl[k].2) ∈ X.tl := List.getElem_mem hk; obtain ⟨j, hj, hv⟩ := (ts.mem _ _).1 hm
    exact ⟨j, e.symm.trans hj, by rw [hv]; rfl⟩
  · rintro ⟨k, rfl, hs⟩
    exact (ts.owes k).1 hs
theorem tq_oread {w W : World} {p d l q xd x : Nat} {A : CA} {X : XA} {P P2 : Pl} {D D2 : Dk} {G G2 : Lg} (h : Tq w W p d l q xd x A X P D G P2 D2 G2) :
    Calls Tryz.prog 28 #[.pointer (some ⟨d, 0, none⟩), .int .i64 0, .int .i64 2000] W fun e w' => e = .returned (.tuple #[.string ⟨(D.read 0 2000).1.toArray⟩, .int .i64 (D.read 0 2000).2]) ∧ Only (fun _ => False) W w' := dread_any W d A.g A.m D h.sw.dsk 0 2000 (by omega)
theorem tq_gread {w W : World} {p d l q xd x : Nat} {A : CA} {X : XA} {P P2 : Pl} {D D2 : Dk} {G G2 : Lg} (h : Tq w W p d l q xd x A X P D G P2 D2 G2) :
    Calls Tryz.prog 29 #[.pointer (some ⟨xd, 0, none⟩), .int .i64 0, .int .i64 2000] W fun e w' => e = .returned (.tuple #[.string ⟨(D2.read 0 2000).1.toArray⟩, .int .i64 (D2.read 0 2000).2]) ∧ Only (fun _ => False) W w' := xread_any W xd X.a X.b X.c X.ka X.kb X.kc D2 h.xh.ww.dk 0 2000 (by omega)
theorem tq_oflushed {w W : World} {p d l q xd x : Nat} {A : CA} {X : XA} {P P2 : Pl} {D D2 : Dk} {G G2 : Lg} (h : Tq w W p d l q xd x A X P D G P2 D2 G2) :
    Calls Tryz.prog 38 #[.pointer (some ⟨l, 0, none⟩)] W fun e w' => e = .returned (.int .i64 (G.flushed : Int)) ∧ Only (fun _ => False) W w' := by
  obtain ⟨B, ao, cp, _, h2, _⟩ := h.sw.log.at_; refine (lflushed_any W l d G B ao cp A.v8 h2).mono ?_; rintro e w' ⟨rfl, hw⟩
  first
    | (rw [hw]; exact ⟨rfl, Only.refl _ _⟩)
    | exact ⟨rfl, hw⟩
theorem tq_gflushed {w W : World} {p d l q xd x : Nat} {A : CA} {X : XA} {P P2 : Pl} {D D2 : Dk} {G G2 : Lg} (h : Tq w W p d l q xd x A X P D G P2 D2 G2) :
    Calls Tryz.prog 39 #[.pointer (some ⟨x, 0, none⟩)] W fun e w' => e = .returned (.int .i64 (G2.flushed : Int)) ∧ Only (fun _ => False) W w' := by
  refine (glflushed_any W x xd G2 X.base X.v8 h.xh.ww.lg).mono ?_; rintro e w' ⟨rfl, rfl⟩
  exact ⟨rfl, Only.refl _ _⟩
theorem tq_odead {w W : World} {p d l q xd x : Nat} {A : CA} {X : XA} {P P2 : Pl} {D D2 : Dk} {G G2 : Lg} (h : Tq w W p d l q xd x A X P D G P2 D2 G2) :
    Calls Tryz.prog 27 #[.pointer (some ⟨d, 0, none⟩)] W fun e w' => e = .returned (.bool D.dead) ∧ Only (fun _ => False) W w' := by
  refine (dead_any W d A.g A.m D h.sw.dsk).mono ?_; rintro e w' ⟨rfl, rfl⟩
  exact ⟨rfl, Only.refl _ _⟩
theorem Tq.fresh {w W W' : World} {p d l q xd x : Nat} {A : CA} {X : XA} {P P2 : Pl} {D D2 : Dk} {G G2 : Lg} (h : Tq w W p d l q xd x A X P D G P2 D2 G2) (ho : Only (fun _ => False) W W') :
    ∃ A' X', Tq w W' p d l q xd x A' X' P D G P2 D2 G2 ∧ Keep w W W' p d l q xd x A X A' X' ∧ ∀ k, W.heap.size ≤ k → k < W'.heap.size → Ap w W' p d l q xd x A' X' k := by
  have hsz := ho.size; have hww := h.sw.only.size; have how : Only (fun _ => False) w W' := o2 h.sw.only ho; refine ⟨{ A with T := fun k => A.T k ∧ k < W.heap.size ∨ W'.heap.size ≤ k }, { X with N := fun k => X.N k ∧ k < W.heap.size ∨ W'.heap.size ≤ k }, ⟨h.sw.kept ho (fun _ _ e => e) how, h.xh.apart ho (fun _ _ e => e) (fun e => e) (fun e => e) (fun e => e) (fun _ _ e => e) (fun _ _ _ e => e), fun k hk => ⟨(h.cx k hk).1, fun e => ?_⟩, fun k hk e => ?_, h.lo, fun k hk e => ?_, Nat.le_trans h.bs hsz⟩, fun k hk => ⟨hk.lo, Nat.lt_of_lt_of_le hk.lt hsz, hk.n1, fun e => ?_, hk.n3, fun e => ?_⟩, fun k h1 h2 => ⟨by omega, h2, fun e => ?_, fun e => ?_, fun e => ?_, fun e => ?_⟩⟩
  · have := h.cw_lt k hk
    exact e.elim (fun e => (h.cx k hk).2 e.1) (fun e => by omega)
  · have := h.xw_lt k hk
    exact e.elim (fun e => h.xt k hk e.1) (fun e => by omega)
  · have := h.xw_lt k (.inr (.inr (.inr (.inr hk))))
    exact e.elim (fun e => h.u8 k hk e.1) (fun e => by omega)
  · have := hk.lt
    exact e.elim (fun e => hk.n2 e.1) (fun e => by omega)
  · have := hk.lt
    exact e.elim (fun e => hk.n4 e.1) (fun e => by omega)
  · have := h.cw_lt k e
    omega
  · exact e.elim (fun e => by omega) (fun e => by omega)
  · have := h.xw_lt k e
    omega
  · exact e.elim (fun e => by omega) (fun e => by omega)
structure Gq (G : Lg) : Prop where
  n : G.n = 30
  st : G.start = 1
  rs : G.reserved = 0
  tl : G.tail ≤ 1513
  pl : G.places.length ≤ G.tail
  sl : G.stream.length ≤ G.tail
theorem Gq.new : Gq (Lg.new 0 30) := ⟨rfl, rfl, rfl, by decide, by decide, by decide⟩
theorem Gq.alike {G G' : Lg} (h : Gq G) (ha : G.Alike G') : Gq G' := by
  obtain ⟨x, rfl⟩ := ha
  exact ⟨h.n, h.st, h.rs, h.tl, h.pl, h.sl⟩
theorem Gq.room {G : Lg} (h : Gq G) : G.room = 1512 - (G.tail - 1) := by
  unfold Lg.room; rw [h.n, h.st, h.rs]
  omega
theorem Gq.app {G : Lg} (h : Gq G) (ok : G.Ok) : (nt.at_ (G.tail : Int)).valid ∧ (((nt.at_ (G.tail : Int)).enc.length ≤ G.room ∧ G.places.length ≤ 1000000000 ∧ (G.app (nt.at_ (G.tail : Int)).enc).Ok ∧ (G.app (nt.at_ (G.tail : Int)).enc).tail < 4294967295 ∧ Gq (G.app (nt.at_ (G.tail : Int)).enc)) ∨ G.room < (nt.at_ (G.tail : Int)).enc.length) := by
  have h1 := ok.st; have h2 := ok.tl; have htl := h.tl; have hn := nt_len G.tail; have hr := h.room; have hpl := h.pl; have hsl := h.sl; refine ⟨nt_valid G.tail (by omega) (by omega), ?_⟩
  by_cases hc : (nt.at_ (G.tail : Int)).enc.length ≤ G.room
  · refine .inl ⟨hc, by omega, ⟨ok.st, ?_, ?_, ?_, ok.n4, ok.nb, ok.fb, ok.rs, ?_⟩, ?_, ⟨h.n, h.st, h.rs, ?_, ?_, ?_⟩⟩
    · show G.start ≤ G.tail + _; omega
    · show G.tail + (nt.at_ (G.tail : Int)).enc.length < _; omega
    · show G.flushed ≤ G.tail + _; have := ok.fl; omega
    · show (G.stream ++ (nt.at_ (G.tail : Int)).enc).length < _
      rw [List.length_append]
      omega
    · show G.tail + (nt.at_ (G.tail : Int)).enc.length < _; omega
    · show G.tail + (nt.at_ (G.tail : Int)).enc.length ≤ _; omega
    · show (G.places ++ [_]).length ≤ G.tail + _
      rw [List.length_append]
      simp
      omega
    · show (G.stream ++ (nt.at_ (G.tail : Int)).enc).length ≤ G.tail + _
      rw [List.length_append]
      omega
  · exact .inr (by omega)
end Go.Proofs.YtebijheonkagfaaGreatDoor
namespace Go.Proofs.YtebijheonkagfaaGreatDoor
open Go.RowKit
def Dz : Dk := ((Dk.new 2000).write 0 (List.replicate 1920 0)).1.sync.1
theorem dz_facts : ((Dk.new 2000).write 0 (List.replicate 1920 0)).2 = 0 ∧ ((Dk.new 2000).write 0 (List.replicate 1920 0)).1.sync.2 = 0 ∧ Dz.Wk 2000 (fun _ => zs64) := st_zero (n := 30) (Dk.Wk.new 2000) (by omega)
theorem dz_len : Dz.old.length = 2000 := dz_facts.2.2.len
theorem dn_len : (Dk.new 2000).old.length = 2000 := (Dk.Wk.new 2000).len
structure S2 (w W : World) (d g m xd a b c ka kb kc b1 : Nat) (D D2 : Dk) : Prop where
  dsk : Dsk W d g m D
  xdk : Xd W xd a b c ka kb kc D2
  od : ∀ k, own d g m k → w.heap.size ≤ k ∧ k < b1
  ox : ∀ k, xown xd a b c k → b1 ≤ k ∧ k < W.heap.size
  lo : w.heap.size ≤ b1 ∧ b1 ≤ W.heap.size
  only : Only (fun _ => False) w W
theorem st2 {w W : World} {d g m : Nat} (hD : Dsk W d g m (Dk.new 2000)) (ho : Only (fun _ => False) w W) (hk : ∀ k, own d g m k → w.heap.size ≤ k ∧ k < W.heap.size) :
    Calls Tryz.prog 5 #[.int .i64 2000] W fun e w' => ∃ xd a b c ka kb kc, e = .returned (.tuple #[.pointer (some ⟨xd, 0, none⟩), .int .i64 0]) ∧ S2 w w' d g m xd a b c ka kb kc W.heap.size (Dk.new 2000) (Dk.new 2000) := by
  refine (xnew_ok W 2000 (by omega) (by omega)).mono ?_; rintro e w' ⟨rfl, ⟨a, b, c, ka, kb, kc, hX, ha, hb, hc⟩, ho'⟩; refine ⟨W.heap.size, a, b, c, ka, kb, kc, rfl, hD.same ho', hX, hk, fun k hk' => ⟨?_, hX.own_lt k hk'⟩, ⟨ho.size, ho'.size⟩, o2 ho ho'⟩
  rcases hk' with e | e | e | e <;> omega
structure S3 (w W : World) (d g m l xd a b c ka kb kc b1 b2 : Nat) (D2 : Dk) : Prop where
  dsk : Dsk W d g m Dz
  xdk : Xd W xd a b c ka kb kc D2
  log : LogOw W l d (Lg.new 0 30) w.heap.size (.slice none 0 0) (.slice none 0 0)
  od : ∀ k, own d g m k → w.heap.size ≤ k ∧ k < b1
  ox : ∀ k, xown xd a b c k → b1 ≤ k ∧ k < b2
  ol : b2 ≤ l
  lo : w.heap.size ≤ b1 ∧ b1 ≤ b2 ∧ b2 ≤ W.heap.size
  only : Only (fun _ => False) w W
theorem st3 {w W : World} {d g m xd a b c ka kb kc b1 : Nat} {D2 : Dk} (h : S2 w W d g m xd a b c ka kb kc b1 (Dk.new 2000) D2) :
    Calls Tryz.prog 6 #[.pointer (some ⟨d, 0, none⟩), .int .i64 0, .int .i64 30] W fun e w' => ∃ l, e = .returned (.tuple #[.pointer (some ⟨l, 0, none⟩), .int .i64 0]) ∧ S3 w w' d g m l xd a b c ka kb kc b1 W.heap.size D2 := by
  have hf : fitsB (Dk.new 2000).old.length ((0 : Nat) : Int) ((30 : Nat) : Int) = true := by
    rw [dn_len]
    decide
  have hlo := h.lo; refine Calls.mono (format_ok W d g m (Dk.new 2000) h.dsk 0 30 hf dz_facts.1 dz_facts.2.1) ?_; rintro e w' ⟨l, he, hD', hL, hl, ho'⟩; have hs := ho'.size
  have nx : ∀ k, xown xd a b c k → ¬ own d g m k := fun k hk e => by
    have h1 := (h.ox k hk).1; have h2 := (h.od k e).2
    omega
  refine ⟨l, he, hD', h.xdk.kept ho' (nx _ (.inl rfl)) (nx _ (.inr (.inl rfl))) (nx _ (.inr (.inr (.inl rfl)))) (nx _ (.inr (.inr (.inr rfl)))), hL.owned, h.od, h.ox, hl, ⟨hlo.1, hlo.2, hs⟩, h.only.trans ho' (fun i hi e => ?_)⟩; have := (h.od i e).1
  omega
structure S4 (w W : World) (d g m l xd a b c ka kb kc x b1 b2 b3 base : Nat) : Prop where
  dsk : Dsk W d g m Dz
  xdk : Xd W xd a b c ka kb kc Dz
  log : LogOw W l d (Lg.new 0 30) w.heap.size (.slice none 0 0) (.slice none 0 0)
  xlg : Xl W x xd (Lg.new 0 30) base (.slice none 0 0)
  od : ∀ k, own d g m k → w.heap.size ≤ k ∧ k < b1
  ox : ∀ k, xown xd a b c k → b1 ≤ k ∧ k < b2
  ol : b2 ≤ l ∧ l < b3
  xl : b3 ≤ x
  lo : w.heap.size ≤ b1 ∧ b1 ≤ b2 ∧ b2 ≤ b3 ∧ b3 ≤ W.heap.size ∧ base ≤ W.heap.size
  only : Only (fun _ => False) w W
theorem st4 {w W : World} {d g m l xd a b c ka kb kc b1 b2 : Nat} (h : S3 w W d g m l xd a b c ka kb kc b1 b2 (Dk.new 2000)) :
    Calls Tryz.prog 7 #[.pointer (some ⟨xd, 0, none⟩), .int .i64 0, .int .i64 30] W fun e w' => ∃ x, e = .returned (.tuple #[.pointer (some ⟨x, 0, none⟩), .int .i64 0]) ∧ S4 w w' d g m l xd a b c ka kb kc x b1 b2 W.heap.size w'.heap.size := by
  have hlo := h.lo; have hll := h.log.lt; refine (glformat_30 W xd a b c ka kb kc (Dk.new 2000) h.xdk dn_len dz_facts.1 dz_facts.2.1).mono ?_; rintro e w' ⟨x, rfl, hX, hL, hx, ho'⟩; have hs := ho'.size; have hol := h.ol
  have nx : ∀ k, own d g m k → ¬ xown xd a b c k := fun k hk e => by
    have h1 := (h.ox k e).1; have h2 := (h.od k hk).2
    omega
  have nl : ¬ xown xd a b c l := fun e => by
    have := (h.ox l e).2
    omega
  refine ⟨x, rfl, h.dsk.kept ho' (nx _ (.inl rfl)) (nx _ (.inr (.inl rfl))) (nx _ (.inr (.inr rfl))), hX, ?_, hL, h.od, h.ox, ⟨h.ol, hll⟩, hx, ⟨hlo.1, hlo.2.1, hlo.2.2, hs, Nat.le_refl _⟩, h.only.trans ho' (fun i hi e => ?_)⟩
  · exact h.log.kept ho' nl (fun k hk => by cases hk) (fun k hk => by cases hk)
  · have := (h.ox i e).1
    omega
theorem st_pool3 {w W : World} {d g m l N n pages frames : Nat} {D : Dk} (hW : D.Wk N (fun _ => zs64)) (hD : Dsk W d g m D) (hL : LogOw W l d (Lg.new 0 n) w.heap.size (.slice none 0 0) (.slice none 0 0)) (hnl : ¬ own d g m l) (hlw : w.heap.size ≤ l) (ho : Only (fun _ => False) w W) (hk : ∀ k, own d g m k → w.heap.size ≤ k ∧ k < W.heap.size)
    (hn : 4 ≤ n) (hf1 : 1 ≤ frames) (hf : frames ≤ 1024) (hp1 : 1 ≤ pages) (hp : pages ≤ 8192) (hN : n + 8 * pages ≤ N) (hN2 : N ≤ 65536) :
    Calls Tryz.prog 8 #[.pointer (some ⟨d, 0, none⟩), .pointer (some ⟨l, 0, none⟩), .int .i64 (n : Int), .int .i64 (pages : Int), .int .i64 (frames : Int)] W fun e w' => ∃ p fb mb T, e = .returned (.tuple #[.pointer (some ⟨p, 0, none⟩), .int .i64 0]) ∧ Sw w w' p d l fb mb g m (Pl.new n pages frames) D (Lg.new 0 n) (.slice none 0 0) (.slice none 0 0) T ∧ (∀ k, T k → w'.heap.size ≤ k) ∧ Only (fun _ => False) W w' ∧ W.heap.size ≤ p ∧ W.heap.size ≤ fb ∧ W.heap.size ≤ mb := by
  refine (onew_ok W d l g m D hD n pages frames hf1 hf hp1 hp (by rw [hW.len]; omega) (by rw [hW.len]; omega)).mono ?_; rintro e w' ⟨p, fb, mb, T, he, hP, ho', h1, h2, h3, hT⟩; have hs := ho.size; have hs' := ho'.size; have hll := hL.lt; refine ⟨p, fb, mb, T, he, ⟨hP, hD.same ho', hL.more ho', ⟨?_, ?_, ?_, ?_, ?_, ?_, ?_, ?_, ?_⟩, ?_, ?_, ok_new _ _ _, ⟨fun e => by have := (hk _ e).2; omega, by omega⟩, ⟨fun e => by have := (hk _ e).2; omega, by omega⟩, ⟨fun e => by have := (hk _ e).2; omega, by omega⟩, fun k hk' => ⟨fun e => by have := (hk _ e).2; have := hT k hk'; omega, by have := hT k hk'; omega⟩, hnl, (fun k hk' => by cases hk'), (fun k hk' => by cases hk'), o2 ho ho', ⟨by omega, by omega, by omega, hlw, fun k hk' => (hk k hk').1⟩⟩, hT, ho', h1, h2, h3⟩
  all_goals (try simp only [Lg.new])
  all_goals (try simp)
  all_goals omega
theorem st5 {w W : World} {d g m l xd a b c ka kb kc x b1 b2 b3 base : Nat} (h : S4 w W d g m l xd a b c ka kb kc x b1 b2 b3 base) (pages frames : Nat) (hf1 : 1 ≤ frames) (hf : frames ≤ 1024) (hp1 : 1 ≤ pages) (hp : 30 + 8 * pages ≤ 2000) :
    Calls Tryz.prog 8 #[.pointer (some ⟨d, 0, none⟩), .pointer (some ⟨l, 0, none⟩), .int .i64 30, .int .i64 (pages : Int), .int .i64 (frames : Int)] W fun e V => ∃ p fb mb T, e = .returned (.tuple #[.pointer (some ⟨p, 0, none⟩), .int .i64 0]) ∧ Sw w V p d l fb mb g m (Pl.new 30 pages frames) Dz (Lg.new 0 30) (.slice none 0 0) (.slice none 0 0) T ∧ (∀ k, T k → V.heap.size ≤ k) ∧ Only (fun _ => False) W V ∧ W.heap.size ≤ p ∧ W.heap.size ≤ fb ∧ W.heap.size ≤ mb := by
  have hlo := h.lo; have hol := h.ol
  exact st_pool3 (N := 2000) (n := 30) dz_facts.2.2 h.dsk h.log (fun e => by have := (h.od l e).2; omega) (by omega) h.only (fun k hk => ⟨(h.od k hk).1, by have := (h.od k hk).2; omega⟩) (by omega) hf1 hf hp1 (by omega) hp (by omega)
theorem st6 {w W V : World} {d g m l xd a b c ka kb kc x b1 b2 b3 base p fb mb pages frames : Nat} {T : Nat → Prop} (h : S4 w W d g m l xd a b c ka kb kc x b1 b2 b3 base) (hsw : Sw w V p d l fb mb g m (Pl.new 30 pages frames) Dz (Lg.new 0 30) (.slice none 0 0) (.slice none 0 0) T) (hT : ∀ k, T k → V.heap.size ≤ k) (ho : Only (fun _ => False) W V) (h1 : W.heap.size ≤ p) (h2 : W.heap.size ≤ fb) (h3 : W.heap.size ≤ mb)
    (hf1 : 1 ≤ frames) (hf : frames ≤ 1024) (hp1 : 1 ≤ pages) (hp : 30 + 8 * pages ≤ 2000) :
    Calls Tryz.prog 9 #[.pointer (some ⟨xd, 0, none⟩), .pointer (some ⟨x, 0, none⟩), .int .i64 30, .int .i64 (pages : Int), .int .i64 (frames : Int)] V fun e w' => ∃ q A X, e = .returned (.tuple #[.pointer (some ⟨q, 0, none⟩), .int .i64 0]) ∧ Tq w w' p d l q xd x A X (Pl.new 30 pages frames) Dz (Lg.new 0 30) (Pl.new 30 pages frames) Dz (Lg.new 0 30) := by
  have hlo := h.lo; have hol := h.ol; have hxl := h.xl; have hxt := h.xlg.lt; have hs := ho.size; refine (gpnew_ok V xd a b c ka kb kc x Dz (h.xdk.kept ho id id id id) dz_len pages frames hf1 hf hp1 hp).mono ?_; rintro e w' ⟨rfl, ⟨fb', cf, hfb, _, hxp⟩, ho'⟩; have hxw : Xw w' xd a b c ka kb kc x Dz (Lg.new 0 30) base (.slice none 0 0) := ⟨(h.xdk.kept ho id id id id).kept ho' id id id id, (h.xlg.more ho).more ho', fun e => by have := (h.ox x e).2; omega, fun k hk => by cases hk⟩; refine ⟨V.heap.size, _, _, rfl, tq_start hsw hT ho' hxp hfb hxw (by have := ho'.size; omega) (fun k hk => ?_) (by omega) (fun k hk => ?_) (by decide) (by decide)⟩
  · have := h.ox k hk
    omega
  · rcases hk with e | e | e | e | e | e | e
    · have h4 := (h.od k e).2
      exact ⟨fun e2 => by have := (h.ox k e2).1; omega, by omega⟩
    · exact ⟨fun e2 => by have := (h.ox k e2).2; omega, by omega⟩
    · exact ⟨fun e2 => by have := (h.ox k e2).2; omega, fun e2 => by omega⟩
    · have e' : k = fb := e
      exact ⟨fun e2 => by have := (h.ox k e2).2; omega, fun e2 => by omega⟩
    · have e' : k = mb := e
      exact ⟨fun e2 => by have := (h.ox k e2).2; omega, fun e2 => by omega⟩
    · cases e
    · cases e
def Chg (w : World) (K : Nat → Prop) (k : Nat) : Prop := ¬ K k ∧ w.heap.size ≤ k
def Uq (w W : World) (p d l q xd x : Nat) (P : Pl) (D : Dk) (G : Lg) (P2 : Pl) (D2 : Dk) (G2 : Lg) (K : Nat → Prop) : Prop := ∃ A X, Tq w W p d l q xd x A X P D G P2 D2 G2 ∧ ∀ k, K k → Ap w W p d l q xd x A X k
section
variable {w W W' : World} {p d l q xd x : Nat} {P P2 : Pl} {D D2 : Dk} {G G2 : Lg} {K : Nat → Prop}
theorem Tq.cw_lo {A : CA} {X : XA} (h : Tq w W p d l q xd x A X P D G P2 D2 G2) (k : Nat) (hk : A.w p d l k) : w.heap.size ≤ k := by
  have hlo := h.sw.lo
  rcases hk with e | e | e | e | e | e | e
  · exact hlo.2.2.2.2 k e
  · omega
  · omega
  · omega
  · omega
  · exact (Row.lt7 h.sw.log k e).1
  · exact (Row.lt8 h.sw.log k e).1
theorem Uq.only (h : Uq w W p d l q xd x P D G P2 D2 G2 K) : Only (fun _ => False) w W := by
  obtain ⟨A, X, h, _⟩ := h
  exact h.sw.only
theorem Uq.ok (h : Uq w W p d l q xd x P D G P2 D2 G2 K) : P.Ok ∧ G.Ok := by
  obtain ⟨A, X, h, _⟩ := h
  exact ⟨h.sw.pok, h.sw.ok⟩
theorem Uq.more (h : Uq w W p d l q xd x P D G P2 D2 G2 K) (ho : Only (fun _ => False) W W') : Uq w W' p d l q xd x P D G P2 D2 G2 K := by
  obtain ⟨A, X, ht, ha⟩ := h
  exact ⟨A, X, ht.more ho, fun k hk => ⟨(ha k hk).lo, Nat.lt_of_lt_of_le (ha k hk).lt ho.size, (ha k hk).n1, (ha k hk).n2, (ha k hk).n3, (ha k hk).n4⟩⟩
theorem Uq.weak (h : Uq w W p d l q xd x P D G P2 D2 G2 K) {K' : Nat → Prop} (hK : ∀ k, K' k → K k) : Uq w W p d l q xd x P D G P2 D2 G2 K' := by
  obtain ⟨A, X, ht, ha⟩ := h
  exact ⟨A, X, ht, fun k hk => ha k (hK k hk)⟩
theorem Uq.fresh (h : Uq w W p d l q xd x P D G P2 D2 G2 K) (ho : Only (fun _ => False) W W') {K' : Nat → Prop} (hK : ∀ k, K' k → K k ∨ W.heap.size ≤ k ∧ k < W'.heap.size) : Uq w W' p d l q xd x P D G P2 D2 G2 K' := by
  obtain ⟨A, X, ht, ha⟩ := h; obtain ⟨A', X', ht', hk', hf⟩ := ht.fresh ho
  exact ⟨A', X', ht', fun k hk => (hK k hk).elim (fun e => hk' k (ha k e)) (fun e => hf k e.1 e.2)⟩
theorem Uq.side (h : Uq w W p d l q xd x P D G P2 D2 G2 K) {S : Nat → Prop} (ho : Only S W W') (hS : ∀ k, S k → K k) : Uq w W' p d l q xd x P D G P2 D2 G2 K := by
  obtain ⟨A, X, ht, ha⟩ := h; obtain ⟨A', X', ht', hk'⟩ := ht.side ho (fun k hk _ => ha k (hS k hk))
  exact ⟨A', X', ht', fun k hk => hk' k (ha k hk)⟩
theorem Uq.code {A A' : CA} {X X' : XA} {P' P2' : Pl} {D' D2' : Dk} {G' G2' : Lg} (h : Tq w W p d l q xd x A X P D G P2 D2 G2) (ha : ∀ k, K k → Ap w W p d l q xd x A X k) (ht : Tq w W' p d l q xd x A' X' P' D' G' P2' D2' G2') (ho : Only (A.w p d l) W W') (hk : Keep w W W' p d l q xd x A X A' X') :
    Uq w W' p d l q xd x P' D' G' P2' D2' G2' K ∧ Only (Chg w K) W W' :=
  ⟨⟨A', X', ht, fun k hK => hk k (ha k hK)⟩, ho.mono (fun k _ e => ⟨fun hK => (ha k hK).n1 e, h.cw_lo k e⟩)⟩
theorem Uq.doc {A A' : CA} {X X' : XA} {P' P2' : Pl} {D' D2' : Dk} {G' G2' : Lg} (h : Tq w W p d l q xd x A X P D G P2 D2 G2) (ha : ∀ k, K k → Ap w W p d l q xd x A X k) (ht : Tq w W' p d l q xd x A' X' P' D' G' P2' D2' G2') (ho : Only (X.w q xd x) W W') (hk : Keep w W W' p d l q xd x A X A' X') :
    Uq w W' p d l q xd x P' D' G' P2' D2' G2' K ∧ Only (Chg w K) W W' :=
  ⟨⟨A', X', ht, fun k hK => hk k (ha k hK)⟩, ho.mono (fun k _ e => ⟨fun hK => (ha k hK).n3 e, h.lo k e⟩)⟩
theorem uq_owrite (h : Uq w W p d l q xd x P D G P2 D2 G2 K) (page : Int) :
    Calls Tryz.prog 19 #[.pointer (some ⟨p, 0, none⟩), .int .i64 page] W fun e w' => e = .returned (.int .i64 (P.writeN D G page).c) ∧ Uq w w' p d l q xd x (P.writeN D G page).P (P.writeN D G page).D (P.writeN D G page).G P2 D2 G2 K ∧ Only (Chg w K) W w' := by
  obtain ⟨A, X, h, ha⟩ := h; refine (tq_owrite h page).mono ?_; rintro e w' ⟨rfl, A', X', ht, ho, hk⟩
  exact ⟨rfl, Uq.code h ha ht ho hk⟩
theorem uq_gwrite (h : Uq w W p d l q xd x P D G P2 D2 G2 K) (hu : P2.Ux) (hok : P2.Ok) (page : Int) :
    Calls Tryz.prog 20 #[.pointer (some ⟨q, 0, none⟩), .int .i64 page] W fun e w' => e = .returned (.int .i64 (P2.writeN D2 G2 page).c) ∧ Uq w w' p d l q xd x P D G (P2.writeN D2 G2 page).P (P2.writeN D2 G2 page).D (P2.writeN D2 G2 page).G K ∧ Only (Chg w K) W w' := by
  obtain ⟨A, X, h, ha⟩ := h; refine (tq_gwrite h hu hok page).mono ?_; rintro e w' ⟨rfl, A', X', ht, ho, hk⟩
  exact ⟨rfl, Uq.doc h ha ht ho hk⟩
theorem uq_osync (h : Uq w W p d l q xd x P D G P2 D2 G2 K) :
    Calls Tryz.prog 21 #[.pointer (some ⟨d, 0, none⟩)] W fun e w' => e = .returned (.int .i64 D.sync.2) ∧ Uq w w' p d l q xd x P D.sync.1 G P2 D2 G2 K ∧ Only (Chg w K) W w' := by
  obtain ⟨A, X, h, ha⟩ := h; refine (tq_osync h).mono ?_; rintro e w' ⟨rfl, A', X', ht, ho, hk⟩
  exact ⟨rfl, Uq.code h ha ht ho hk⟩
theorem uq_gsync (h : Uq w W p d l q xd x P D G P2 D2 G2 K) :
    Calls Tryz.prog 22 #[.pointer (some ⟨xd, 0, none⟩)] W fun e w' => e = .returned (.int .i64 D2.sync.2) ∧ Uq w w' p d l q xd x P D G P2 D2.sync.1 G2 K ∧ Only (Chg w K) W w' := by
  obtain ⟨A, X, h, ha⟩ := h; refine (tq_gsync h).mono ?_; rintro e w' ⟨rfl, A', X', ht, ho, hk⟩
  exact ⟨rfl, Uq.doc h ha ht ho hk⟩
theorem uq_oarm (h : Uq w W p d l q xd x P D G P2 D2 G2 K) (n : Int) (hn : n < 9223372036854775808) :
    Calls Tryz.prog 25 #[.pointer (some ⟨d, 0, none⟩), .int .i64 n] W fun e w' => e = .returned (.int .i64 (D.arm n).2) ∧ Uq w w' p d l q xd x P (D.arm n).1 G P2 D2 G2 K ∧ Only (Chg w K) W w' := by
  obtain ⟨A, X, h, ha⟩ := h; refine (tq_oarm h n hn).mono ?_; rintro e w' ⟨rfl, A', X', ht, ho, hk⟩
  exact ⟨rfl, Uq.code h ha ht ho hk⟩
theorem uq_garm (h : Uq w W p d l q xd x P D G P2 D2 G2 K) (n : Int) (hn : n < 9223372036854775808) :
    Calls Tryz.prog 26 #[.pointer (some ⟨xd, 0, none⟩), .int .i64 n] W fun e w' => e = .returned (.int .i64 (D2.arm n).2) ∧ Uq w w' p d l q xd x P D G P2 (D2.arm n).1 G2 K ∧ Only (Chg w K) W w' := by
  obtain ⟨A, X, h, ha⟩ := h; refine (tq_garm h n hn).mono ?_; rintro e w' ⟨rfl, A', X', ht, ho, hk⟩
  exact ⟨rfl, Uq.doc h ha ht ho hk⟩
theorem uq_osynced (h : Uq w W p d l q xd x P D G P2 D2 G2 K) :
    Calls Tryz.prog 23 #[.pointer (some ⟨p, 0, none⟩)] W fun e w' => e = .returned (.tuple #[]) ∧ Uq w w' p d l q xd x P.synced D G P2 D2 G2 K ∧ Only (Chg w K) W w' := by
  obtain ⟨A, X, h, ha⟩ := h; refine (tq_osynced h).mono ?_; rintro e w' ⟨rfl, A', X', ht, ho, hk⟩
  exact ⟨rfl, Uq.code h ha ht ho hk⟩
theorem uq_gsynced (h : Uq w W p d l q xd x P D G P2 D2 G2 K) (hu : P2.Ux) :
    Calls Tryz.prog 24 #[.pointer (some ⟨q, 0, none⟩)] W fun e w' => e = .returned (.tuple #[]) ∧ Uq w w' p d l q xd x P D G P2.synced D2 G2 K ∧ Only (Chg w K) W w' := by
  obtain ⟨A, X, h, ha⟩ := h; refine (tq_gsynced h hu).mono ?_; rintro e w' ⟨rfl, A', X', ht, ho, hk⟩
  exact ⟨rfl, Uq.doc h ha ht ho hk⟩
theorem uq_ofetch (h : Uq w W p d l q xd x P D G P2 D2 G2 K) (page pick : Int) (pg : Pg) (hpg : (P.fetch D G page pick).2 = pg) :
    Calls Tryz.prog 11 #[.pointer (some ⟨p, 0, none⟩), .int .i64 page, .int .i64 pick] W fun e w' => ∃ Bq aq cq, e = .returned (.tuple #[.agg #[.int .i64 pg.lsn, .int .i64 pg.kind, .int .i64 pg.level, .int .i64 pg.right, .string pg.high, .slice aq pg.items.length cq], .int .i64 (P.fetch D G page pick).1.c]) ∧ Strs w' Bq aq pg.items ∧ (0 < pg.items.length → W.heap.size ≤ Bq ∧ ∀ k, w'.frozen? ⟨Bq, k, none⟩ = false) ∧ Uq w w' p d l q xd x (P.fetch D G page pick).1.P (P.fetch D G page pick).1.D (P.fetch D G page pick).1.G P2 D2 G2 (fun k => K k ∨ k = Bq ∧ 0 < pg.items.length) ∧ Only (Chg w K) W w' := by
  obtain ⟨A, X, h, ha⟩ := h; refine (tq_ofetch h page pick pg hpg).mono ?_; rintro e w' ⟨Bq, aq, cq, A', X', rfl, h1, h2, h3, ht, ho, hk⟩; obtain ⟨⟨_, _, _, _⟩, h5⟩ := Uq.code h ha ht ho hk
  exact ⟨Bq, aq, cq, rfl, h1, fun h0 => ⟨(h3 h0).1, (h3 h0).2.1⟩, ⟨A', X', ht, fun k e => e.elim (fun e => hk k (ha k e)) (fun e => by rw [e.1]; exact (h3 e.2).2.2)⟩, h5⟩
theorem uq_gfetch (h : Uq w W p d l q xd x P D G P2 D2 G2 K) (hu : P2.Ux) (hok : P2.Ok) (page pick : Int) (pg : Pg) (hpg : (P2.fetch D2 G2 page pick).2 = pg) :
    Calls Tryz.prog 12 #[.pointer (some ⟨q, 0, none⟩), .int .i64 page, .int .i64 pick] W fun e w' => ∃ Bq aq cq, e = .returned (.tuple #[.agg #[.int .i64 pg.lsn, .int .i64 pg.kind, .int .i64 pg.level, .int .i64 pg.right, .string pg.high, .slice aq pg.items.length cq], .int .i64 (P2.fetch D2 G2 page pick).1.c]) ∧ Strs w' Bq aq pg.items ∧ (0 < pg.items.length → W.heap.size < Bq) ∧ Uq w w' p d l q xd x P D G (P2.fetch D2 G2 page pick).1.P (P2.fetch D2 G2 page pick).1.D (P2.fetch D2 G2 page pick).1.G K ∧ Only (Chg w K) W w' := by
  obtain ⟨A, X, h, ha⟩ := h; refine (tq_gfetch h hu hok page pick pg hpg).mono ?_; rintro e w' ⟨Bq, aq, cq, rfl, h1, h2, h3, A', X', ht, ho, hk⟩
  exact ⟨Bq, aq, cq, rfl, h1, h3, Uq.doc h ha ht ho hk⟩
theorem uq_oset (h : Uq w W p d l q xd x P D G P2 D2 G2 K) (page pick : Int) (body : Pg) (Bb : Nat) (ab : Option Addr) (cb : Nat) (hS : Strs W Bb ab body.items) (hB : 0 < body.items.length → K Bb) (hh : body.high.size ≤ 140737488355328) (hl : body.lsn < 9223372036854775808) :
    Calls Tryz.prog 17 #[.pointer (some ⟨p, 0, none⟩), .int .i64 page, .agg #[.int .i64 body.lsn, .int .i64 body.kind, .int .i64 body.level, .int .i64 body.right, .string body.high, .slice ab body.items.length cb], .int .i64 pick] W fun e w' => e = .returned (.int .i64 (P.set D G page body pick).c) ∧ Uq w w' p d l q xd x (P.set D G page body pick).P (P.set D G page body pick).D (P.set D G page body pick).G P2 D2 G2 K ∧ Only (Chg w K) W w' := by
  obtain ⟨A, X, h, ha⟩ := h; refine (tq_oset h page pick body Bb ab cb hS (fun h0 => (ha Bb (hB h0)).n1) hh hl).mono ?_; rintro e w' ⟨rfl, A', X', ht, ho, hk⟩
  exact ⟨rfl, Uq.code h ha ht ho hk⟩
theorem uq_gset (h : Uq w W p d l q xd x P D G P2 D2 G2 K) (hu : P2.Ux) (hok : P2.Ok) (page pick : Int) (body : Pg) (Bb cb : Nat) (ab : Option Addr) (hS : Strs w Bb ab body.items) (hF : Fit ab body.items.length cb) (hh : body.high.size ≤ 140737488355328) (hl : body.lsn < 9223372036854775808) :
    Calls Tryz.prog 18 #[.pointer (some ⟨q, 0, none⟩), .int .i64 page, .agg #[.int .i64 body.lsn, .int .i64 body.kind, .int .i64 body.level, .int .i64 body.right, .string body.high, .slice ab body.items.length cb], .int .i64 pick] W fun e w' => e = .returned (.int .i64 (P2.set D2 G2 page body pick).c) ∧ Uq w w' p d l q xd x P D G (P2.set D2 G2 page body pick).P (P2.set D2 G2 page body pick).D (P2.set D2 G2 page body pick).G K ∧ Only (Chg w K) W w' := by
  obtain ⟨A, X, h, ha⟩ := h; refine (tq_gset h hu hok page pick body Bb cb ab (hS.more h.sw.only) hF (fun h0 e => by have := h.lo _ e; have := hS.lt h0; omega) hh hl).mono ?_; rintro e w' ⟨rfl, A', X', ht, ho, hk⟩
  exact ⟨rfl, Uq.doc h ha ht ho hk⟩
def noteG (G : Lg) : Lg := if (nt.at_ (G.tail : Int)).enc.length ≤ G.room then G.app (nt.at_ (G.tail : Int)).enc else G
def noteA (G : Lg) : Int := if (nt.at_ (G.tail : Int)).enc.length ≤ G.room then (G.tail : Int) else 0
def noteC (G : Lg) : Int := if (nt.at_ (G.tail : Int)).enc.length ≤ G.room then 0 else 50
theorem Gq.note (h : Gq G) (ok : G.Ok) : Gq (noteG G) := by
  unfold noteG
  rcases (h.app ok).2 with hc | hc
  · rw [if_pos hc.1]
    exact hc.2.2.2.2
  · rw [if_neg (by omega)]
    exact h
theorem uq_oappend (h : Uq w W p d l q xd x P D G P2 D2 G2 K) (hg : Gq G) :
    Calls Tryz.prog 14 #[.pointer (some ⟨l, 0, none⟩), .agg (nt.cells Loc.none)] W fun e w' => e = .returned (.tuple #[.int .i64 (noteA G), .int .i64 (noteC G)]) ∧ Uq w w' p d l q xd x P D (noteG G) P2 D2 G2 K ∧ Only (Chg w K) W w' := by
  obtain ⟨A, X, h, ha⟩ := h; obtain ⟨hv, hc⟩ := hg.app h.sw.ok; unfold noteA noteC noteG
  rcases hc with ⟨h1, h2, h3, h4, _⟩ | hc
  · rw [if_pos h1, if_pos h1, if_pos h1]
    refine (tq_oappend h hv h1 h2 h3 h4).mono ?_; rintro e w' ⟨rfl, A', X', ht, ho, hk⟩
    exact ⟨rfl, Uq.code h ha ht ho hk⟩
  · rw [if_neg (by omega), if_neg (by omega), if_neg (by omega)]
    refine (tq_ofull h hv hc).mono ?_; rintro e w' ⟨rfl, ht, ho⟩
    exact ⟨rfl, Uq.more ⟨A, X, h, ha⟩ ho, ho.mono (fun _ _ e => e.elim)⟩
theorem uq_gappend (h : Uq w W p d l q xd x P D G P2 D2 G2 K) (hg : Gq G2) :
    Calls Tryz.prog 16 #[.pointer (some ⟨x, 0, none⟩), .agg (nt.cells Loc.none)] W fun e w' => e = .returned (.tuple #[.int .i64 (noteA G2), .int .i64 (noteC G2)]) ∧ Uq w w' p d l q xd x P D G P2 D2 (noteG G2) K ∧ Only (Chg w K) W w' := by
  obtain ⟨A, X, h, ha⟩ := h; obtain ⟨hv, hc⟩ := hg.app h.xh.ww.lg.ok; unfold noteA noteC noteG
  rcases hc with ⟨h1, h2, h3, h4, _⟩ | hc
  · rw [if_pos h1, if_pos h1, if_pos h1]
    refine (tq_gappend h hv h1 h2 h3 h4).mono ?_; rintro e w' ⟨rfl, A', X', ht, ho, hk⟩
    exact ⟨rfl, Uq.doc h ha ht ho hk⟩
  · rw [if_neg (by omega), if_neg (by omega), if_neg (by omega)]
    refine (tq_gfull h hv hc).mono ?_; rintro e w' ⟨rfl, ht, ho⟩
    exact ⟨rfl, Uq.more ⟨A, X, h, ha⟩ ho, ho.mono (fun _ _ e => e.elim)⟩
end
structure Nos (W : World) (Bq : Nat) (aq : Option Addr) (n : Nat) : Prop where
  at_ : 0 < n → ∃ o, aq = some ⟨Bq, o, none⟩ ∧ ∀ j, j < n → ∃ u : ByteArray, W.cell? ⟨Bq, o + j, none⟩ = some (.string u)
  fz : 0 < n → ∀ k, W.frozen? ⟨Bq, k, none⟩ = false
  lt : 0 < n → Bq < W.heap.size
theorem Nos.of {W : World} {Bq : Nat} {aq : Option Addr} {l : List ByteArray} (h : Strs W Bq aq l) (hf : 0 < l.length → ∀ k, W.frozen? ⟨Bq, k, none⟩ = false) : Nos W Bq aq l.length :=
  ⟨fun h0 => by
    obtain ⟨o, e, hc⟩ := h.at_ h0
    exact ⟨o, e, fun j hj => ⟨_, hc j hj⟩⟩, hf, h.lt⟩
theorem Nos.kept {S : Nat → Prop} {W W' : World} {Bq : Nat} {aq : Option Addr} {n : Nat} (h : Nos W Bq aq n) (ho : Only S W W') (hS : 0 < n → ¬ S Bq) : Nos W' Bq aq n :=
  ⟨fun h0 => by
    obtain ⟨o, e, hc⟩ := h.at_ h0; refine ⟨o, e, fun j hj => ?_⟩; obtain ⟨u, hu⟩ := hc j hj
    exact ⟨u, (ho.cell (p := ⟨Bq, o + j, none⟩) (h.lt h0) (hS h0)).trans hu⟩, fun h0 k => (ho.frozen (p := ⟨Bq, k, none⟩) (h.lt h0) (hS h0)).trans (h.fz h0 k), fun h0 => Nat.lt_of_lt_of_le (h.lt h0) ho.size⟩
theorem Nos.put {W : World} {Bq o : Nat} {n : Nat} (h : Nos W Bq (some ⟨Bq, o, none⟩) n) (j : Nat) (hj : j < n) (s : ByteArray) : Nos (W.setCell ⟨Bq, o + j, none⟩ (.string s)) Bq (some ⟨Bq, o, none⟩) n := by
  refine ⟨fun h0 => ⟨o, rfl, fun i hi => ?_⟩, fun h0 k => by rw [World.frozen?_setCell]; exact h.fz h0 k, fun h0 => by simpa using h.lt h0⟩; obtain ⟨o', e, hc⟩ := h.at_ h0
  cases e
  by_cases e : i = j
  · subst e
    obtain ⟨u, hu⟩ := hc i hi
    exact ⟨s, World.cell?_setCell_same _ _ _ hu⟩
  · obtain ⟨u, hu⟩ := hc i hi
    exact ⟨u, (World.cell?_setCell_other _ _ _ _ (by intro e2; injection e2 with _ e3; omega)).trans hu⟩
theorem Pag.lsnV {w : World} {b : Nat} {v0 v1 v2 v3 v4 v5 : Value} (h : Pag w b v0 v1 v2 v3 v4 v5) (u : Value) : Pag (w.setCell ⟨b, 0, none⟩ u) b u v1 v2 v3 v4 v5 := by
  have k : ∀ (j : Nat) (v : Value), j ≠ 0 → w.cell? ⟨b, j, none⟩ = some v → (w.setCell ⟨b, 0, none⟩ u).cell? ⟨b, j, none⟩ = some v := fun j v hj hc =>
    (World.cell?_setCell_other _ _ _ _ (by intro e; injection e with _ e; exact hj e.symm)).trans hc
  exact ⟨World.cell?_setCell_same _ _ _ h.c0, k _ _ (by decide) h.c1, k _ _ (by decide) h.c2, k _ _ (by decide) h.c3, k _ _ (by decide) h.c4, k _ _ (by decide) h.c5, by simpa using h.f0, by simpa using h.f1, by simpa using h.f2, by simpa using h.f3, by simpa using h.f4, by simpa using h.f5, by simpa using h.lt⟩
theorem Ls_emptyV (w : World) : Ls (w.alloc (.cells #[] 9)) w.heap.size (.slice (some ⟨w.heap.size, 0, none⟩) 0 0) [] :=
  ⟨rfl, .inr ⟨w.heap.size, 0, #[], rfl, Nat.le_refl _, heap_alloc_new w _, Nat.zero_le _, Nat.zero_le _, rfl, rfl⟩⟩
theorem copy_made (W : World) (B cp : Nat) (ao : Option Addr) (l : List ByteArray) (hS : Strs W B ao l) (hF : Fit ao l.length cp) : ∃ a c B' w', (Builtin.append_ #[43, 43] 43 #[.slice (some ⟨W.heap.size, 0, none⟩) 0 0, .slice ao l.length cp]).run Tryz.prog (W.alloc (.cells #[] 9)) = .ok (.slice a l.length c) w' ∧
    Strs w' B' a l ∧ Nos w' B' a l.length ∧ (0 < l.length → W.heap.size ≤ B') ∧ Only (fun _ => False) W w' := by
  have hlen := hS.len; obtain ⟨v, w', hr, hl, ho⟩ := append_strs (W.alloc (.cells #[] 9)) 43 W.heap.size (.slice (some ⟨W.heap.size, 0, none⟩) 0 0) [] (Ls_emptyV W) B cp ao l (hS.more (onlyA _ _)) hF (by simp; omega) (by simp); rw [List.nil_append] at hl; obtain ⟨B', a, c, rfl, h1, _, h3, h4⟩ := hl.strs hS.len hS.size; refine ⟨a, c, B', w', hr, h1, Nos.of h1 (fun h0 k => ?_), h3, (onlyA W _).trans ho (fun i hi e => by omega)⟩; obtain ⟨o, e, _⟩ := h1.at_ h0
  rcases h4 with h4 | h4
  · rw [e] at h4; cases h4
  · rw [h4] at hl
    exact World.ownsRow.frozenAt hl k
theorem noteA_bd {G : Lg} (h : Gq G) : 0 ≤ noteA G ∧ noteA G ≤ 1513 := by
  have := h.tl; unfold noteA
  split <;> omega
end Go.Proofs.YtebijheonkagfaaGreatDoor
