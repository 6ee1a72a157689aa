/- What lies apart of both pools; Fetch of the code. -/
import Derived.Test.YtebijheonkagfaaGreatDoorKVPoolV
import Derived.Test.YtebijheonkagfaaGreatDoorKQg
namespace Go.Proofs.YtebijheonkagfaaGreatDoor
open Go.RowKit
theorem Xh.apart {S : Nat → Prop} {W W' : World} {p xd a b c ka kb kc x fb cf tb : Nat} {ta : Option Addr} {tc base : Nat} {v8 : Value} {P : Pl} {D : Dk} {G : Lg} {tl : List (Int × Int)} {N : Nat → Prop} (h : Xh W p xd a b c ka kb kc x fb cf tb ta tc base v8 P D G tl N) (ho : Only S W W')
    (h1 : ∀ k, xown xd a b c k → ¬ S k) (h2 : ¬ S x) (h3 : ¬ S p) (h4 : ¬ S fb) (h5 : ∀ k, v8.ownBlock = some k → ¬ S k) (h6 : ∀ k, N k → k < W.heap.size → ¬ S k) :
    Xh W' p xd a b c ka kb kc x fb cf tb ta tc base v8 P D G tl (fun k => N k ∧ k < W.heap.size ∨ W'.heap.size ≤ k) := by
  have hsz := ho.size; have hP : Xp W' p xd x fb cf tb ta tc P tl N := h.pl.kept ho h3 h4 (fun B hl hB => h6 B hB hl)
  have hs : ∀ B, B < W.heap.size → N B → (N B ∧ B < W.heap.size ∨ W'.heap.size ≤ B) := fun B hl hB => .inl ⟨hB, hl⟩
  have ht : ∀ B, B < W.heap.size → (N B ∧ B < W.heap.size ∨ W'.heap.size ≤ B) → ¬ S B := fun B hl hB => hB.elim (fun e => h6 B e.1 e.2) (fun e => by omega)
  have hpl := h.pl.lt; have hfl := h.pl.flt
  refine ⟨⟨hP.c0, hP.c1, hP.c2, hP.c3, hP.c4, hP.c5, hP.fz, hP.lt, fun i hi => ((h.pl.fr i hi).wide hs).kept ho h4 ht, hP.ffz, hP.flt, hP.tab, hP.tft, fun h0 => hs tb (h.pl.tab.lt h0) (h.pl.tn h0), hP.n1, fun e => e.elim (fun e => hP.t1 e.1) (fun e => by omega), fun e => e.elim (fun e => hP.t2 e.1) (fun e => by omega), hP.nf, hP.np, hP.nm, hP.nn, hP.ts, hP.tm, fun k hk => .inr hk⟩,
    h.ww.kept ho h1 h2 h5, h.a1, h.a2, h.a3, h.a4, h.a5, h.a6, fun k hk => hk.elim (fun e => h.a7 k e.1) (fun e => ⟨fun hx => by have := h.ww.dk.own_lt k hx; omega, fun hx => by have := h.ww.lg.lt; omega⟩), h.f1, h.tt⟩
structure CA where
  fb : Nat
  mb : Nat
  g : Nat
  m : Nat
  v7 : Value
  v8 : Value
  T : Nat → Prop
structure XA where
  a : Nat
  b : Nat
  c : Nat
  ka : Nat
  kb : Nat
  kc : Nat
  fb : Nat
  cf : Nat
  tb : Nat
  ta : Option Addr
  tc : Nat
  base : Nat
  v8 : Value
  tl : List (Int × Int)
  N : Nat → Prop
def CA.w (A : CA) (p d l : Nat) (k : Nat) : Prop := own d A.g A.m k ∨ k = l ∨ k = p ∨ k = A.fb ∨ k = A.mb ∨ A.v7.ownBlock = some k ∨ A.v8.ownBlock = some k
def XA.w (X : XA) (q xd x : Nat) (k : Nat) : Prop := xown xd X.a X.b X.c k ∨ k = x ∨ k = q ∨ k = X.fb ∨ X.v8.ownBlock = some k
structure Tq (w W : World) (p d l q xd x : Nat) (A : CA) (X : XA) (P : Pl) (D : Dk) (G : Lg) (P2 : Pl) (D2 : Dk) (G2 : Lg) : Prop where
  sw : Sw w W p d l A.fb A.mb A.g A.m P D G A.v7 A.v8 A.T
  xh : Xh W q xd X.a X.b X.c X.ka X.kb X.kc x X.fb X.cf X.tb X.ta X.tc X.base X.v8 P2 D2 G2 X.tl X.N
  cx : ∀ k, A.w p d l k → ¬ X.w q xd x k ∧ ¬ X.N k
  xt : ∀ k, X.w q xd x k → ¬ A.T k
  lo : ∀ k, X.w q xd x k → w.heap.size ≤ k
  u8 : ∀ k, X.v8.ownBlock = some k → ¬ X.N k
  bs : X.base ≤ W.heap.size
theorem Tq.cw_lt {w W : World} {p d l q xd x : Nat} {A : CA} {X : XA} {P P2 : Pl} {D D2 : Dk} {G G2 : Lg} (h : Tq w W p d l q xd x A X P D G P2 D2 G2) (k : Nat) (hk : A.w p d l k) : k < W.heap.size := by
  have hl := h.sw.lt
  rcases hk with e | e | e | e | e | e | e
  · exact h.sw.own_lt k e
  · omega
  · omega
  · omega
  · omega
  · exact (Row.lt7 h.sw.log k e).2
  · exact (Row.lt8 h.sw.log k e).2
theorem Tq.xw_lt {w W : World} {p d l q xd x : Nat} {A : CA} {X : XA} {P P2 : Pl} {D D2 : Dk} {G G2 : Lg} (h : Tq w W p d l q xd x A X P D G P2 D2 G2) (k : Nat) (hk : X.w q xd x k) : k < W.heap.size := by
  have h1 := h.xh.ww.lg.lt; have h2 := h.xh.pl.lt; have h3 := h.xh.pl.flt
  rcases hk with e | e | e | e | e
  · exact h.xh.ww.dk.own_lt k e
  · omega
  · omega
  · omega
  · exact (World.ownsRow.lt h.xh.ww.lg.pl k e).2
theorem Tq.more {w W W' : World} {p d l q xd x : Nat} {A : CA} {X : XA} {P P2 : Pl} {D D2 : Dk} {G G2 : Lg} (h : Tq w W p d l q xd x A X P D G P2 D2 G2) (ho : Only (fun _ => False) W W') : Tq w W' p d l q xd x A X P D G P2 D2 G2 :=
  ⟨h.sw.more ho, h.xh.more ho, h.cx, h.xt, h.lo, h.u8, Nat.le_trans h.bs ho.size⟩
theorem Tq.code {w W W' : World} {p d l q xd x : Nat} {A A' : CA} {X : XA} {P P2 P' : Pl} {D D2 D' : Dk} {G G2 G' : Lg} (h : Tq w W p d l q xd x A X P D G P2 D2 G2) (ho : Only (A.w p d l) W W')
    (hs : Sw w W' p d l A'.fb A'.mb A'.g A'.m P' D' G' A'.v7 A'.v8 A'.T) (hw : ∀ k, A'.w p d l k → A.w p d l k ∨ W.heap.size ≤ k) (hT : ∀ k, A'.T k → A.T k) :
    Tq w W' p d l q xd x A' { X with N := fun k => X.N k ∧ k < W.heap.size ∨ W'.heap.size ≤ k } P' D' G' P2 D2 G2 := by
  have hd : ∀ k, X.w q xd x k → ¬ A.w p d l k := fun k hk e => (h.cx k e).1 hk
  have hsz := ho.size; have hl' := hs.lt
  have hlt : ∀ k, A'.w p d l k → k < W'.heap.size := fun k hk => by
    rcases hk with e | e | e | e | e | e | e
    · exact hs.own_lt k e
    · omega
    · omega
    · omega
    · omega
    · exact (Row.lt7 hs.log k e).2
    · exact (Row.lt8 hs.log k e).2
  refine ⟨hs, h.xh.apart ho (fun k hk => hd k (.inl hk)) (hd x (.inr (.inl rfl))) (hd q (.inr (.inr (.inl rfl)))) (hd X.fb (.inr (.inr (.inr (.inl rfl))))) (fun k hk => hd k (.inr (.inr (.inr (.inr hk))))) (fun k hk _ e => (h.cx k e).2 hk), fun k hk => ⟨fun e => ?_, fun e => ?_⟩, fun k hk e => h.xt k hk (hT k e), h.lo, fun k hk e => ?_, Nat.le_trans h.bs hsz⟩
  · have hk2 := h.xw_lt k e
    exact (hw k hk).elim (fun e2 => (h.cx k e2).1 e) (fun e2 => by omega)
  · have hk2 := hlt k hk
    rcases e with ⟨e, e3⟩ | e
    · exact (hw k hk).elim (fun e2 => (h.cx k e2).2 e) (fun e2 => by omega)
    · omega
  · have hk2 := h.xw_lt k (.inr (.inr (.inr (.inr hk))))
    rcases e with ⟨e, _⟩ | e
    · exact h.u8 k hk e
    · omega
theorem Tq.doc {w W W' : World} {p d l q xd x : Nat} {A : CA} {X X' : XA} {P P2 P' : Pl} {D D2 D' : Dk} {G G2 G' : Lg} (h : Tq w W p d l q xd x A X P D G P2 D2 G2) (ho : Only (X.w q xd x) W W')
    (hx : Xh W' q xd X'.a X'.b X'.c X'.ka X'.kb X'.kc x X'.fb X'.cf X'.tb X'.ta X'.tc X'.base X'.v8 P' D' G' X'.tl X'.N) (hw : ∀ k, X'.w q xd x k → X.w q xd x k ∨ W.heap.size ≤ k) (hN : ∀ k, X'.N k → X.N k) (h8 : ∀ k, X'.v8.ownBlock = some k → ¬ X'.N k) (hb : X'.base ≤ W'.heap.size) :
    Tq w W' p d l q xd x { A with T := fun k => A.T k ∧ k < W.heap.size ∨ W'.heap.size ≤ k } X' P D G P' D' G' := by
  have hsz := ho.size; have hww := h.sw.only.size
  have hlt : ∀ k, X'.w q xd x k → k < W'.heap.size := fun k hk => by
    have h1 := hx.ww.lg.lt; have h2 := hx.pl.lt; have h3 := hx.pl.flt
    rcases hk with e | e | e | e | e
    · exact hx.ww.dk.own_lt k e
    · omega
    · omega
    · omega
    · exact (World.ownsRow.lt hx.ww.lg.pl k e).2
  have hc : ∀ k, foot W p d l A.fb A.mb A.g A.m A.v7 A.v8 A.T k → ¬ X.w q xd x k := fun k hk e => by
    rcases hk with a | a | a | a | a | a | a | a
    · exact (h.cx k (.inl a)).1 e
    · exact (h.cx k (.inr (.inl a))).1 e
    · exact (h.cx k (.inr (.inr (.inl a)))).1 e
    · exact (h.cx k (.inr (.inr (.inr (.inl a))))).1 e
    · exact (h.cx k (.inr (.inr (.inr (.inr (.inl a)))))).1 e
    · exact (h.cx k (.inr (.inr (.inr (.inr (.inr (.inl a))))))).1 e
    · exact (h.cx k (.inr (.inr (.inr (.inr (.inr (.inr a))))))).1 e
    · exact h.xt k e a.1
  have how : Only (fun _ => False) w W' := h.sw.only.trans ho (fun k hk e => by have := h.lo k e; omega); refine ⟨h.sw.kept ho hc how, hx, fun k hk => ⟨fun e => ?_, fun e => (h.cx k hk).2 (hN k e)⟩, fun k hk e => ?_, fun k hk => (hw k hk).elim (h.lo k) (fun e => by omega), h8, hb⟩
  · have hk2 := h.cw_lt k hk
    exact (hw k e).elim (fun e2 => (h.cx k hk).1 e2) (fun e2 => by omega)
  · have hk2 := hlt k hk
    rcases e with ⟨e, e3⟩ | e
    · exact (hw k hk).elim (fun e2 => h.xt k e2 e) (fun e2 => by omega)
    · omega
structure Ap (w W : World) (p d l q xd x : Nat) (A : CA) (X : XA) (k : Nat) : Prop where
  lo : w.heap.size ≤ k
  lt : k < W.heap.size
  n1 : ¬ A.w p d l k
  n2 : ¬ A.T k
  n3 : ¬ X.w q xd x k
  n4 : ¬ X.N k
def Keep (w W W' : World) (p d l q xd x : Nat) (A : CA) (X : XA) (A' : CA) (X' : XA) : Prop := ∀ k, Ap w W p d l q xd x A X k → Ap w W' p d l q xd x A' X' k
theorem Keep.code {w W W' : World} {p d l q xd x : Nat} {A A' : CA} {X : XA} (hsz : W.heap.size ≤ W'.heap.size) (hw : ∀ k, A'.w p d l k → A.w p d l k ∨ W.heap.size ≤ k) (hT : ∀ k, A'.T k → A.T k) :
    Keep w W W' p d l q xd x A X A' { X with N := fun k => X.N k ∧ k < W.heap.size ∨ W'.heap.size ≤ k } := fun k hk =>
  ⟨hk.lo, Nat.lt_of_lt_of_le hk.lt hsz, fun e => (hw k e).elim hk.n1 (fun e => by have := hk.lt; omega), fun e => hk.n2 (hT k e), hk.n3, fun e => e.elim (fun e => hk.n4 e.1) (fun e => by have := hk.lt; omega)⟩
theorem Keep.doc {w W W' : World} {p d l q xd x : Nat} {A : CA} {X X' : XA} (hsz : W.heap.size ≤ W'.heap.size) (hw : ∀ k, X'.w q xd x k → X.w q xd x k ∨ W.heap.size ≤ k) (hN : ∀ k, X'.N k → X.N k) :
    Keep w W W' p d l q xd x A X { A with T := fun k => A.T k ∧ k < W.heap.size ∨ W'.heap.size ≤ k } X' := fun k hk =>
  ⟨hk.lo, Nat.lt_of_lt_of_le hk.lt hsz, hk.n1, fun e => e.elim (fun e => hk.n2 e.1) (fun e => by have := hk.lt; omega), fun e => (hw k e).elim hk.n3 (fun e => by have := hk.lt; omega), fun e => hk.n4 (hN k e)⟩
theorem Tq.shr {w W W' : World} {p d l q xd x : Nat} {A : CA} {X : XA} {P P2 : Pl} {D D2 : Dk} {G G2 : Lg} (h : Tq w W p d l q xd x A X P D G P2 D2 G2) {B : Nat} {ao : Option Addr} {cp : Nat} (hv : A.v7 = .slice ao G.stream.length cp) {o : Wo} (hr : ShR W W' p d l A.fb A.mb A.g A.m B ao cp A.v8 A.T o) (hk : o.P.Ok) (hg : G.Alike o.G) :
    ∃ A' X', Tq w W' p d l q xd x A' X' o.P o.D o.G P2 D2 G2 ∧ Only (A.w p d l) W W' ∧ Keep w W W' p d l q xd x A X A' X' := by
  obtain ⟨mb', T', hs, h1, h2⟩ := h.sw.back2 hv hr hk hg
  have ho : Only (A.w p d l) W W' := hr.choose_spec.choose_spec.2.2.2.2.mono (fun k _ e => by
    rcases e with e | e | e | e | e
    · exact .inl e
    · exact .inr (.inl e)
    · exact .inr (.inr (.inl e))
    · exact .inr (.inr (.inr (.inl e)))
    · exact .inr (.inr (.inr (.inr (.inl e)))))
  have hw : ∀ k, CA.w { A with mb := mb', T := T' } p d l k → A.w p d l k ∨ W.heap.size ≤ k := fun k hk => ?_
  · exact ⟨{ A with mb := mb', T := T' }, _, h.code (A' := { A with mb := mb', T := T' }) ho hs hw h1, ho, Keep.code ho.size hw h1⟩
  rcases hk with e | e | e | e | e | e | e
  · exact .inl (.inl e)
  · exact .inl (.inr (.inl e))
  · exact .inl (.inr (.inr (.inl e)))
  · exact .inl (.inr (.inr (.inr (.inl e))))
  · rcases h2 with e2 | e2
    · exact .inl (.inr (.inr (.inr (.inr (.inl (e.trans e2))))))
    · exact .inr (by have e' : k = mb' := e; omega)
  · exact .inl (.inr (.inr (.inr (.inr (.inr (.inl e))))))
  · exact .inl (.inr (.inr (.inr (.inr (.inr (.inr e))))))
theorem Tq.xhr {w W W' : World} {p d l q xd x : Nat} {A : CA} {X : XA} {P P2 : Pl} {D D2 : Dk} {G G2 : Lg} (h : Tq w W p d l q xd x A X P D G P2 D2 G2) {o : Wo} (hr : XhR W W' q xd X.a X.b X.c X.ka X.kb X.kc x X.fb X.cf X.base X.v8 X.N o) :
    ∃ A' X', Tq w W' p d l q xd x A' X' P D G o.P o.D o.G ∧ Only (X.w q xd x) W W' ∧ Keep w W W' p d l q xd x A X A' X' := by
  obtain ⟨⟨tb, ta, tc, tl, hx⟩, ho⟩ := hr
  have ho' : Only (X.w q xd x) W W' := ho.mono (fun k _ e => by
    rcases e with e | e | e | e
    · exact .inl e
    · exact .inr (.inl e)
    · exact .inr (.inr (.inl e))
    · exact .inr (.inr (.inr (.inl e))))
  exact ⟨_, { X with tb := tb, ta := ta, tc := tc, tl := tl }, h.doc (X' := { X with tb := tb, ta := ta, tc := tc, tl := tl }) ho' hx (fun k hk => .inl hk) (fun k hk => hk) h.u8 (Nat.le_trans h.bs ho.size), ho', Keep.doc (X' := { X with tb := tb, ta := ta, tc := tc, tl := tl }) ho.size (fun k hk => .inl hk) (fun k hk => hk)⟩
theorem tq_owrite {w W : World} {p d l q xd x : Nat} {A : CA} {X : XA} {P P2 : Pl} {D D2 : Dk} {G G2 : Lg} (h : Tq w W p d l q xd x A X P D G P2 D2 G2) (page : Int) :
    Calls Tryz.prog 19 #[.pointer (some ⟨p, 0, none⟩), .int .i64 page] W fun e w' => e = .returned (.int .i64 (P.writeN D G page).c) ∧ ∃ A' X', Tq w w' p d l q xd x A' X' (P.writeN D G page).P (P.writeN D G page).D (P.writeN D G page).G P2 D2 G2 ∧ Only (A.w p d l) W w' ∧ Keep w W w' p d l q xd x A X A' X' := by
  obtain ⟨B, ao, cp, hv, hs⟩ := h.sw.sh; refine (oWrite_any W p d l A.fb A.mb A.g A.m P D G B ao cp A.v8 A.T hs h.sw.pok page).mono ?_; rintro e w' ⟨rfl, hr⟩
  exact ⟨rfl, h.shr hv hr (ok_writeN h.sw.pok _ _ _) (alike_writeN _ _ _ _)⟩
theorem tq_gwrite {w W : World} {p d l q xd x : Nat} {A : CA} {X : XA} {P P2 : Pl} {D D2 : Dk} {G G2 : Lg} (h : Tq w W p d l q xd x A X P D G P2 D2 G2) (hu : P2.Ux) (hok : P2.Ok) (page : Int) :
    Calls Tryz.prog 20 #[.pointer (some ⟨q, 0, none⟩), .int .i64 page] W fun e w' => e = .returned (.int .i64 (P2.writeN D2 G2 page).c) ∧ ∃ A' X', Tq w w' p d l q xd x A' X' P D G (P2.writeN D2 G2 page).P (P2.writeN D2 G2 page).D (P2.writeN D2 G2 page).G ∧ Only (X.w q xd x) W w' ∧ Keep w W w' p d l q xd x A X A' X' := by
  refine (gpwrite_any W q xd X.a X.b X.c X.ka X.kb X.kc x X.fb X.cf X.tb X.ta X.tc X.base X.v8 P2 D2 G2 X.tl X.N h.xh hu hok page).mono ?_; rintro e w' ⟨rfl, hr⟩
  exact ⟨rfl, h.xhr hr⟩
theorem tq_oset {w W : World} {p d l q xd x : Nat} {A : CA} {X : XA} {P P2 : Pl} {D D2 : Dk} {G G2 : Lg} (h : Tq w W p d l q xd x A X P D G P2 D2 G2) (page pick : Int) (body : Pg) (Bb : Nat) (ab : Option Addr) (cb : Nat) (hS : Strs W Bb ab body.items) (hB : 0 < body.items.length → ¬ A.w p d l Bb) (hh : body.high.size ≤ 140737488355328) (hl : body.lsn < 9223372036854775808) :
    Calls Tryz.prog 17 #[.pointer (some ⟨p, 0, none⟩), .int .i64 page, .agg #[.int .i64 body.lsn, .int .i64 body.kind, .int .i64 body.level, .int .i64 body.right, .string body.high, .slice ab body.items.length cb], .int .i64 pick] W fun e w' => e = .returned (.int .i64 (P.set D G page body pick).c) ∧ ∃ A' X', Tq w w' p d l q xd x A' X' (P.set D G page body pick).P (P.set D G page body pick).D (P.set D G page body pick).G P2 D2 G2 ∧ Only (A.w p d l) W w' ∧ Keep w W w' p d l q xd x A X A' X' := by
  obtain ⟨B, ao, cp, hv, hs⟩ := h.sw.sh; refine (oset_any W p d l A.fb A.mb A.g A.m P D G B ao cp A.v8 A.T hs h.sw.pok page pick body Bb ab cb hS (fun h0 => ?_) hh hl).mono ?_
  · have hb := hB h0
    exact ⟨fun e => hb (.inl e), fun e => hb (.inr (.inl e)), fun e => hb (.inr (.inr (.inl e))), fun e => hb (.inr (.inr (.inr (.inl e)))), fun e => hb (.inr (.inr (.inr (.inr (.inl e)))))⟩
  rintro e w' ⟨rfl, hr⟩
  exact ⟨rfl, h.shr hv hr (ok_set h.sw.pok _ _ _ _ _) (alike_set _ _ _ _ _ _)⟩
theorem tq_gset {w W : World} {p d l q xd x : Nat} {A : CA} {X : XA} {P P2 : Pl} {D D2 : Dk} {G G2 : Lg} (h : Tq w W p d l q xd x A X P D G P2 D2 G2) (hu : P2.Ux) (hok : P2.Ok) (page pick : Int) (body : Pg) (Bb cb : Nat) (ab : Option Addr) (hS : Strs W Bb ab body.items) (hF : Fit ab body.items.length cb) (hB : 0 < body.items.length → ¬ X.w q xd x Bb) (hh : body.high.size ≤ 140737488355328) (hl : body.lsn < 9223372036854775808) :
    Calls Tryz.prog 18 #[.pointer (some ⟨q, 0, none⟩), .int .i64 page, .agg #[.int .i64 body.lsn, .int .i64 body.kind, .int .i64 body.level, .int .i64 body.right, .string body.high, .slice ab body.items.length cb], .int .i64 pick] W fun e w' => e = .returned (.int .i64 (P2.set D2 G2 page body pick).c) ∧ ∃ A' X', Tq w w' p d l q xd x A' X' P D G (P2.set D2 G2 page body pick).P (P2.set D2 G2 page body pick).D (P2.set D2 G2 page body pick).G ∧ Only (X.w q xd x) W w' ∧ Keep w W w' p d l q xd x A X A' X' := by
  refine (gpset_any W q xd X.a X.b X.c X.ka X.kb X.kc x X.fb X.cf X.tb X.ta X.tc X.base X.v8 P2 D2 G2 X.tl X.N h.xh hu hok page pick body Bb cb ab hS hF hh hl (fun h0 e => hB h0 ?_)).mono ?_
  · rcases e with e | e | e | e
    · exact .inl e
    · exact .inr (.inl e)
    · exact .inr (.inr (.inl e))
    · exact .inr (.inr (.inr (.inl e)))
  rintro e w' ⟨rfl, hr⟩
  exact ⟨rfl, h.xhr hr⟩
theorem tq_gfetch {w W : World} {p d l q xd x : Nat} {A : CA} {X : XA} {P P2 : Pl} {D D2 : Dk} {G G2 : Lg} (h : Tq w W p d l q xd x A X P D G P2 D2 G2) (hu : P2.Ux) (hok : P2.Ok) (page pick : Int) (pg : Pg) (hpg : (P2.fetch D2 G2 page pick).2 = pg) :
    Calls Tryz.prog 12 #[.pointer (some ⟨q, 0, none⟩), .int .i64 page, .int .i64 pick] W fun e w' => ∃ Bq aq cq, e = .returned (.tuple #[.agg #[.int .i64 pg.lsn, .int .i64 pg.kind, .int .i64 pg.level, .int .i64 pg.right, .string pg.high, .slice aq pg.items.length cq], .int .i64 (P2.fetch D2 G2 page pick).1.c]) ∧ Strs w' Bq aq pg.items ∧ Fit aq pg.items.length cq ∧ (0 < pg.items.length → W.heap.size < Bq) ∧ ∃ A' X', Tq w w' p d l q xd x A' X' P D G (P2.fetch D2 G2 page pick).1.P (P2.fetch D2 G2 page pick).1.D (P2.fetch D2 G2 page pick).1.G ∧ Only (X.w q xd x) W w' ∧ Keep w W w' p d l q xd x A X A' X' := by
  subst hpg; refine (gpfetch_any W q xd X.a X.b X.c X.ka X.kb X.kc x X.fb X.cf X.tb X.ta X.tc X.base X.v8 P2 D2 G2 X.tl X.N h.xh hu hok page pick).mono ?_; rintro e w' ⟨Bq, aq, cq, rfl, h1, h2, h3, hr⟩
  exact ⟨Bq, aq, cq, rfl, h1, h2, h3, h.xhr hr⟩
theorem Sw.back3 {w W W' : World} {p d l fb mb g m : Nat} {P : Pl} {D : Dk} {G : Lg} {v7 v8 : Value} {T : Nat → Prop} (h : Sw w W p d l fb mb g m P D G v7 v8 T) {B : Nat} {ao : Option Addr} {cp : Nat} (hv : v7 = .slice ao G.stream.length cp) {o : Wo} {mb' : Nat} {T' : Nat → Prop} (hs : Sh W' p d l fb mb' g m o.P o.D o.G B ao cp v8 T') (h1 : ∀ k, T' k → T k) (h3 : mb' = mb ∨ W.heap.size ≤ mb') (ho : Only (fun k => own d g m k ∨ k = l ∨ k = p ∨ k = fb ∨ k = mb) W W') (hk : o.P.Ok) (hg : G.Alike o.G) :
    Sw w W' p d l fb mb' g m o.P o.D o.G v7 v8 T' := by
  obtain ⟨x, hx⟩ := hg
  have n7 : ∀ k, v7.ownBlock = some k → ¬ (own d g m k ∨ k = l ∨ k = p ∨ k = fb ∨ k = mb) := fun k hk e => by
    obtain ⟨a1, a2, a3, a4, a5, _⟩ := h.x7 k hk
    rcases e with e | e | e | e | e
    · exact a1 e
    · exact a2 e
    · exact a3 e
    · exact a4 e
    · exact a5 e
  have n8 : ∀ k, v8.ownBlock = some k → ¬ (own d g m k ∨ k = l ∨ k = p ∨ k = fb ∨ k = mb) := fun k hk e => by
    obtain ⟨a1, a2, a3, a4, a5, _⟩ := h.x8 k hk
    rcases e with e | e | e | e | e
    · exact a1 e
    · exact a2 e
    · exact a3 e
    · exact a4 e
    · exact a5 e
  have hm7 : ∀ k, v7.ownBlock = some k → k ≠ mb' := fun k hk e => by
    have := (Row.lt7 h.log k hk).2
    rcases h3 with h3 | h3
    · exact (h.x7 k hk).2.2.2.2.1 (by rw [e, h3])
    · omega
  have hm8 : ∀ k, v8.ownBlock = some k → k ≠ mb' := fun k hk e => by
    have := (Row.lt8 h.log k hk).2
    rcases h3 with h3 | h3
    · exact (h.x8 k hk).2.2.2.2.1 (by rw [e, h3])
    · omega
  have L := hs.log
  have hst : o.G.stream = G.stream := by rw [hx]
  have hpl : o.G.places = G.places := by rw [hx]
  have c7 := L.c7; rw [hst, ← hv] at c7; have hlo := h.lo; have hsz := h.only.size; refine ⟨hs.pool, hs.dsk, ⟨L.c0, L.c1, L.c2, L.c3, L.c4, L.c5, L.c6, c7, L.c8, L.fz, L.lt, ?_, ?_, h.log.n1, h.log.n2, h.log.n3⟩, hs.ok, hs.sf, hs.tb, hk, hs.xp, hs.xf, hs.xm, hs.xT, hs.xl, ?_, ?_, ?_, ?_⟩
  · rw [hst]; exact h.log.row.kept ho n7
  · rw [hpl]; exact own_only h.log.pl ho n8
  · exact fun k hk => ⟨(h.x7 k hk).1, (h.x7 k hk).2.1, (h.x7 k hk).2.2.1, (h.x7 k hk).2.2.2.1, hm7 k hk, fun e => (h.x7 k hk).2.2.2.2.2 (h1 k e)⟩
  · exact fun k hk => ⟨(h.x8 k hk).1, (h.x8 k hk).2.1, (h.x8 k hk).2.2.1, (h.x8 k hk).2.2.2.1, hm8 k hk, fun e => (h.x8 k hk).2.2.2.2.2 (h1 k e)⟩
  · refine h.only.trans ho (fun i hi e => ?_)
    rcases e with e | e | e | e | e
    · have := hlo.2.2.2.2 i e; omega
    · omega
    · omega
    · omega
    · omega
  · refine ⟨hlo.1, hlo.2.1, ?_, hlo.2.2.2⟩
    rcases h3 with h3 | h3
    · rw [h3]; exact hlo.2.2.1
    · omega
theorem Tq.side {w W : World} {p d l q xd x : Nat} {A : CA} {X : XA} {P P2 : Pl} {D D2 : Dk} {G G2 : Lg} (h : Tq w W p d l q xd x A X P D G P2 D2 G2) {W' : World} {S : Nat → Prop} (ho : Only S W W') (hS : ∀ k, S k → k < W.heap.size → Ap w W p d l q xd x A X k) :
    ∃ A' X', Tq w W' p d l q xd x A' X' P D G P2 D2 G2 ∧ Keep w W W' p d l q xd x A X A' X' := by
  have hsz := ho.size; have hww := h.sw.only.size; have how : Only (fun _ => False) w W' := h.sw.only.trans ho (fun k hk e => by have := (hS k e (by omega)).lo; omega)
  have hc : ∀ k, foot W p d l A.fb A.mb A.g A.m A.v7 A.v8 A.T k → ¬ S k := fun k hk e => by
    have hw : A.w p d l k ∨ A.T k ∧ k < W.heap.size := by
      rcases hk with a | a | a | a | a | a | a | a
      · exact .inl (.inl a)
      · exact .inl (.inr (.inl a))
      · exact .inl (.inr (.inr (.inl a)))
      · exact .inl (.inr (.inr (.inr (.inl a))))
      · exact .inl (.inr (.inr (.inr (.inr (.inl a)))))
      · exact .inl (.inr (.inr (.inr (.inr (.inr (.inl a))))))
      · exact .inl (.inr (.inr (.inr (.inr (.inr (.inr a))))))
      · exact .inr a
    rcases hw with hw | hw
    · exact (hS k e (h.cw_lt k hw)).n1 hw
    · exact (hS k e hw.2).n2 hw.1
  have hx : ∀ k, X.w q xd x k → ¬ S k := fun k hk e => (hS k e (h.xw_lt k hk)).n3 hk
  refine ⟨{ A with T := fun k => A.T k ∧ k < W.heap.size ∨ W'.heap.size ≤ k }, { X with N := fun k => X.N k ∧ k < W.heap.size ∨ W'.heap.size ≤ k }, ⟨h.sw.kept ho hc how, h.xh.apart ho (fun k hk => hx k (.inl hk)) (hx x (.inr (.inl rfl))) (hx q (.inr (.inr (.inl rfl)))) (hx X.fb (.inr (.inr (.inr (.inl rfl))))) (fun k hk => hx k (.inr (.inr (.inr (.inr hk))))) (fun k hk hl e => (hS k e hl).n4 hk), fun k hk => ⟨(h.cx k hk).1, fun e => ?_⟩, fun k hk e => ?_, h.lo, fun k hk e => ?_, Nat.le_trans h.bs hsz⟩, fun k hk => ⟨hk.lo, Nat.lt_of_lt_of_le hk.lt hsz, hk.n1, fun e => ?_, hk.n3, fun e => ?_⟩⟩
  · have := h.cw_lt k hk
    exact e.elim (fun e => (h.cx k hk).2 e.1) (fun e => by omega)
  · have := h.xw_lt k hk
    exact e.elim (fun e => h.xt k hk e.1) (fun e => by omega)
  · have := h.xw_lt k (.inr (.inr (.inr (.inr hk))))
    exact e.elim (fun e => h.u8 k hk e.1) (fun e => by omega)
  · have := hk.lt
    exact e.elim (fun e => hk.n2 e.1) (fun e => by omega)
  · have := hk.lt
    exact e.elim (fun e => hk.n4 e.1) (fun e => by omega)
theorem tq_ofetch {w W : World} {p d l q xd x : Nat} {A : CA} {X : XA} {P P2 : Pl} {D D2 : Dk} {G G2 : Lg} (h : Tq w W p d l q xd x A X P D G P2 D2 G2) (page pick : Int) (pg : Pg) (hpg : (P.fetch D G page pick).2 = pg) :
    Calls Tryz.prog 11 #[.pointer (some ⟨p, 0, none⟩), .int .i64 page, .int .i64 pick] W fun e w' => ∃ Bq aq cq A' X', e = .returned (.tuple #[.agg #[.int .i64 pg.lsn, .int .i64 pg.kind, .int .i64 pg.level, .int .i64 pg.right, .string pg.high, .slice aq pg.items.length cq], .int .i64 (P.fetch D G page pick).1.c]) ∧ Strs w' Bq aq pg.items ∧ Fit aq pg.items.length cq ∧ (0 < pg.items.length → W.heap.size ≤ Bq ∧ (∀ k, w'.frozen? ⟨Bq, k, none⟩ = false) ∧ Ap w w' p d l q xd x A' X' Bq) ∧ Tq w w' p d l q xd x A' X' (P.fetch D G page pick).1.P (P.fetch D G page pick).1.D (P.fetch D G page pick).1.G P2 D2 G2 ∧ Only (A.w p d l) W w' ∧ Keep w W w' p d l q xd x A X A' X' := by
  subst hpg; obtain ⟨B, ao, cp, hv, hs⟩ := h.sw.sh; have hww := h.sw.only.size; refine (ofetch_own W p d l A.fb A.mb A.g A.m P D G B ao cp A.v8 A.T hs h.sw.pok page pick).mono ?_; rintro e w' ⟨Bq, aq, cq, mb', T', rfl, h1, h2, h3, hs', ht, _, hm, ho⟩; have hsw := h.sw.back3 hv hs' ht hm ho (ok_fetch h.sw.pok _ _ _ _) (alike_fetch _ _ _ _ _)
  have ho' : Only (A.w p d l) W w' := ho.mono (fun k _ e => by
    rcases e with e | e | e | e | e
    · exact .inl e
    · exact .inr (.inl e)
    · exact .inr (.inr (.inl e))
    · exact .inr (.inr (.inr (.inl e)))
    · exact .inr (.inr (.inr (.inr (.inl e)))))
  have hw : ∀ k, CA.w { A with mb := mb', T := T' } p d l k → A.w p d l k ∨ W.heap.size ≤ k := (fun k hk => by
    rcases hk with e | e | e | e | e | e | e
    · exact .inl (.inl e)
    · exact .inl (.inr (.inl e))
    · exact .inl (.inr (.inr (.inl e)))
    · exact .inl (.inr (.inr (.inr (.inl e))))
    · rcases hm with e2 | e2
      · exact .inl (.inr (.inr (.inr (.inr (.inl (e.trans e2))))))
      · exact .inr (by have e' : k = mb' := e; omega)
    · exact .inl (.inr (.inr (.inr (.inr (.inr (.inl e))))))
    · exact .inl (.inr (.inr (.inr (.inr (.inr (.inr e)))))))
  have hq := h.code (A' := { A with mb := mb', T := T' }) ho' hsw hw ht; refine ⟨Bq, aq, cq, _, _, rfl, h1, h2, fun h0 => ?_, hq, ho', Keep.code ho.size hw ht⟩; obtain ⟨g1, g2, g3, g4⟩ := h3 h0; have hl := h1.lt h0; refine ⟨g1, g2, ⟨by omega, hl, fun e => ?_, g4, fun e => ?_, fun e => ?_⟩⟩
  · rcases e with e | e | e | e | e | e | e
    · exact g3.o1 e
    · exact g3.o2 e
    · exact g3.o3 e
    · exact g3.o4 e
    · exact g3.o5 e
    · have := (Row.lt7 h.sw.log Bq e).2; omega
    · have := (Row.lt8 h.sw.log Bq e).2; omega
  · have := h.xw_lt Bq e; omega
  · exact e.elim (fun e => by omega) (fun e => by omega)
end Go.Proofs.YtebijheonkagfaaGreatDoor
