/- Append where the log is full, of both sides. -/
import Derived.Test.YtebijheonkagfaaGreatDoorKVw
namespace Go.Proofs.YtebijheonkagfaaGreatDoor
open Go.RowKit
theorem Tq.odisk {w W W' : World} {p d l q xd x : Nat} {A : CA} {X : XA} {P P2 : Pl} {D D2 D' : Dk} {G G2 : Lg} (h : Tq w W p d l q xd x A X P D G P2 D2 G2) (ho : Only (own d A.g A.m) W W') (hD : Dsk W' d A.g A.m D') : ∃ A' X', Tq w W' p d l q xd x A' X' P D' G P2 D2 G2 ∧ Only (A.w p d l) W W' ∧ Keep w W W' p d l q xd x A X A' X' := by
  have h1 := h.sw
  have hS : Sw w W' p d l A.fb A.mb A.g A.m P D' G A.v7 A.v8 A.T :=
    ⟨h1.pool.kept ho h1.xp.1 h1.xf.1 h1.xm.1 (fun B hB => (h1.xT B hB).1), hD, h1.log.kept ho h1.xl (fun k hk => (h1.x7 k hk).1) (fun k hk => (h1.x8 k hk).1), h1.ok, h1.sf, h1.tb, h1.pok, h1.xp, h1.xf, h1.xm, h1.xT, h1.xl, h1.x7, h1.x8, h1.only.trans ho (fun k hk e => by have := h1.lo.2.2.2.2 k e; omega), h1.lo⟩
  have ho' : Only (A.w p d l) W W' := ho.mono (fun k _ e => .inl e)
  exact ⟨A, _, h.code ho' hS (fun k hk => .inl hk) (fun k hk => hk), ho', Keep.code ho.size (fun k hk => .inl hk) (fun k hk => hk)⟩
theorem Tq.gdisk {w W W' : World} {p d l q xd x : Nat} {A : CA} {X : XA} {P P2 : Pl} {D D2 D' : Dk} {G G2 : Lg} (h : Tq w W p d l q xd x A X P D G P2 D2 G2) (ho : Only (xown xd X.a X.b X.c) W W') (hD : Xd W' xd X.a X.b X.c X.ka X.kb X.kc D') : ∃ A' X', Tq w W' p d l q xd x A' X' P D G P2 D' G2 ∧ Only (X.w q xd x) W W' ∧ Keep w W W' p d l q xd x A X A' X' := by
  have hl := h.xh.ww.lg.kept ho h.xh.ww.n1 (fun k hk => h.xh.ww.n2 k hk); have hX : Xh W' q xd X.a X.b X.c X.ka X.kb X.kc x X.fb X.cf X.tb X.ta X.tc X.base X.v8 P2 D' G2 X.tl X.N := h.xh.disk (ho.mono (fun k _ e => .inl e)) ⟨hD, hl, h.xh.ww.n1, h.xh.ww.n2⟩ h.xh.f1 h.xh.tt; have ho' : Only (X.w q xd x) W W' := ho.mono (fun k _ e => .inl e)
  exact ⟨_, X, h.doc ho' hX (fun k hk => .inl hk) (fun k hk => hk) h.u8 (Nat.le_trans h.bs ho.size), ho', Keep.doc ho.size (fun k hk => .inl hk) (fun k hk => hk)⟩
theorem tq_osync {w W : World} {p d l q xd x : Nat} {A : CA} {X : XA} {P P2 : Pl} {D D2 : Dk} {G G2 : Lg} (h : Tq w W p d l q xd x A X P D G P2 D2 G2) : Calls Tryz.prog 21 #[.pointer (some ⟨d, 0, none⟩)] W fun e w' => e = .returned (.int .i64 D.sync.2) ∧ ∃ A' X', Tq w w' p d l q xd x A' X' P D.sync.1 G P2 D2 G2 ∧ Only (A.w p d l) W w' ∧ Keep w W w' p d l q xd x A X A' X' := by
  refine (sync_any W d A.g A.m D h.sw.dsk).mono ?_; rintro e w' ⟨rfl, hD, ho⟩
  exact ⟨rfl, h.odisk ho hD⟩
theorem tq_gsync {w W : World} {p d l q xd x : Nat} {A : CA} {X : XA} {P P2 : Pl} {D D2 : Dk} {G G2 : Lg} (h : Tq w W p d l q xd x A X P D G P2 D2 G2) : Calls Tryz.prog 22 #[.pointer (some ⟨xd, 0, none⟩)] W fun e w' => e = .returned (.int .i64 D2.sync.2) ∧ ∃ A' X', Tq w w' p d l q xd x A' X' P D G P2 D2.sync.1 G2 ∧ Only (X.w q xd x) W w' ∧ Keep w W w' p d l q xd x A X A' X' := by
  refine (xsync_any W xd X.a X.b X.c X.ka X.kb X.kc D2 h.xh.ww.dk).mono ?_; rintro e w' ⟨rfl, hD, ho⟩
  exact ⟨rfl, h.gdisk ho hD⟩
theorem tq_oarm {w W : World} {p d l q xd x : Nat} {A : CA} {X : XA} {P P2 : Pl} {D D2 : Dk} {G G2 : Lg} (h : Tq w W p d l q xd x A X P D G P2 D2 G2) (n : Int) (hn : n < 9223372036854775808) : Calls Tryz.prog 25 #[.pointer (some ⟨d, 0, none⟩), .int .i64 n] W fun e w' => e = .returned (.int .i64 (D.arm n).2) ∧ ∃ A' X', Tq w w' p d l q xd x A' X' P (D.arm n).1 G P2 D2 G2 ∧ Only (A.w p d l) W w' ∧ Keep w W w' p d l q xd x A X A' X' := by
  refine (arm_any W d A.g A.m D h.sw.dsk n hn).mono ?_; rintro e w' ⟨rfl, hD, ho⟩
  exact ⟨rfl, h.odisk ho hD⟩
theorem tq_garm {w W : World} {p d l q xd x : Nat} {A : CA} {X : XA} {P P2 : Pl} {D D2 : Dk} {G G2 : Lg} (h : Tq w W p d l q xd x A X P D G P2 D2 G2) (n : Int) (hn : n < 9223372036854775808) : Calls Tryz.prog 26 #[.pointer (some ⟨xd, 0, none⟩), .int .i64 n] W fun e w' => e = .returned (.int .i64 (D2.arm n).2) ∧ ∃ A' X', Tq w w' p d l q xd x A' X' P D G P2 (D2.arm n).1 G2 ∧ Only (X.w q xd x) W w' ∧ Keep w W w' p d l q xd x A X A' X' := by
  refine (xarm_any W xd X.a X.b X.c X.ka X.kb X.kc D2 h.xh.ww.dk n hn).mono ?_; rintro e w' ⟨rfl, hD, ho⟩
  exact ⟨rfl, h.gdisk ho hD⟩
theorem tq_osynced {w W : World} {p d l q xd x : Nat} {A : CA} {X : XA} {P P2 : Pl} {D D2 : Dk} {G G2 : Lg} (h : Tq w W p d l q xd x A X P D G P2 D2 G2) : Calls Tryz.prog 23 #[.pointer (some ⟨p, 0, none⟩)] W fun e w' => e = .returned (.tuple #[]) ∧ ∃ A' X', Tq w w' p d l q xd x A' X' P.synced D G P2 D2 G2 ∧ Only (A.w p d l) W w' ∧ Keep w W w' p d l q xd x A X A' X' := by
  obtain ⟨B, ao, cp, hv, hs⟩ := h.sw.sh; refine (sh_synced hs).mono ?_; rintro e w' ⟨rfl, hs', ho⟩; have hr : ShR W w' p d l A.fb A.mb A.g A.m B ao cp A.v8 A.T ⟨0, P.synced, D, G⟩ := ⟨W.heap.size, _, hs', fun k e => e.1, fun k hk e => ⟨e, by omega⟩, .inr (Nat.le_refl _), ho.mono (fun k _ e => .inr (.inr (.inl e)))⟩
  exact ⟨rfl, h.shr hv hr (ok_synced h.sw.pok) (Lg.Alike.refl G)⟩
theorem tq_gsynced {w W : World} {p d l q xd x : Nat} {A : CA} {X : XA} {P P2 : Pl} {D D2 : Dk} {G G2 : Lg} (h : Tq w W p d l q xd x A X P D G P2 D2 G2) (hu : P2.Ux) : Calls Tryz.prog 24 #[.pointer (some ⟨q, 0, none⟩)] W fun e w' => e = .returned (.tuple #[]) ∧ ∃ A' X', Tq w w' p d l q xd x A' X' P D G P2.synced D2 G2 ∧ Only (X.w q xd x) W w' ∧ Keep w W w' p d l q xd x A X A' X' := by
  refine (gpsynced_any W q xd x X.fb X.cf X.tb X.ta X.tc P2 X.tl X.N h.xh.pl hu).mono ?_; rintro e w' ⟨rfl, ⟨tb, ta, tc, tl, hx⟩, ho⟩; have hr : XhR W w' q xd X.a X.b X.c X.ka X.kb X.kc x X.fb X.cf X.base X.v8 X.N ⟨0, P2.synced, D2, G2⟩ := ⟨⟨tb, ta, tc, tl, h.xh.pool (ho.mono (fun k _ e => .inl e)) hx⟩, ho.mono (fun k _ e => .inr (.inr (.inl e)))⟩
  exact ⟨rfl, h.xhr hr⟩
theorem tq_oappend {w W : World} {p d l q xd x : Nat} {A : CA} {X : XA} {P P2 : Pl} {D D2 : Dk} {G G2 : Lg} (h : Tq w W p d l q xd x A X P D G P2 D2 G2) (hv : (nt.at_ G.tail).valid) (hroom : (nt.at_ G.tail).enc.length ≤ G.room) (hpl : G.places.length ≤ 1000000000)
    (ok : (G.app (nt.at_ G.tail).enc).Ok) (htb : (G.app (nt.at_ G.tail).enc).tail < 4294967295) :
    Calls Tryz.prog 14 #[.pointer (some ⟨l, 0, none⟩), .agg (nt.cells Loc.none)] W fun e w' => e = .returned (.tuple #[.int .i64 (G.tail : Int), .int .i64 0]) ∧ ∃ A' X', Tq w w' p d l q xd x A' X' P D (G.app (nt.at_ G.tail).enc) P2 D2 G2 ∧ Only (A.w p d l) W w' ∧ Keep w W w' p d l q xd x A X A' X' := by
  refine (sw_append2 h.sw hv hroom hpl ok htb).mono ?_; rintro e w' ⟨rfl, v7', v8', T', hs, ht, h7, h8, ho⟩
  have ho' : Only (A.w p d l) W w' := ho.mono (fun k _ e => by
    rcases e with e | e | e
    · exact .inr (.inl e)
    · exact .inr (.inr (.inr (.inr (.inr (.inl e.symm)))))
    · exact .inr (.inr (.inr (.inr (.inr (.inr e.symm))))))
  have hw : ∀ k, CA.w { A with v7 := v7', v8 := v8', T := T' } p d l k → A.w p d l k ∨ W.heap.size ≤ k := fun k hk => ?_
  · exact ⟨rfl, { A with v7 := v7', v8 := v8', T := T' }, _, h.code (A' := { A with v7 := v7', v8 := v8', T := T' }) ho' hs hw ht, ho', Keep.code ho.size hw ht⟩
  rcases hk with e | e | e | e | e | e | e
  · exact .inl (.inl e)
  · exact .inl (.inr (.inl e))
  · exact .inl (.inr (.inr (.inl e)))
  · exact .inl (.inr (.inr (.inr (.inl e))))
  · exact .inl (.inr (.inr (.inr (.inr (.inl e)))))
  · exact (h7 k e).elim (fun e => .inl (.inr (.inr (.inr (.inr (.inr (.inl e))))))) .inr
  · exact (h8 k e).elim (fun e => .inl (.inr (.inr (.inr (.inr (.inr (.inr e))))))) .inr
theorem tq_gappend {w W : World} {p d l q xd x : Nat} {A : CA} {X : XA} {P P2 : Pl} {D D2 : Dk} {G G2 : Lg} (h : Tq w W p d l q xd x A X P D G P2 D2 G2) (hv : (nt.at_ G2.tail).valid) (hroom : (nt.at_ G2.tail).enc.length ≤ G2.room) (hpl : G2.places.length ≤ 1000000000)
    (ok : (G2.app (nt.at_ G2.tail).enc).Ok) (htb : (G2.app (nt.at_ G2.tail).enc).tail < 4294967295) :
    Calls Tryz.prog 16 #[.pointer (some ⟨x, 0, none⟩), .agg (nt.cells Loc.none)] W fun e w' => e = .returned (.tuple #[.int .i64 (G2.tail : Int), .int .i64 0]) ∧ ∃ A' X', Tq w w' p d l q xd x A' X' P D G P2 D2 (G2.app (nt.at_ G2.tail).enc) ∧ Only (X.w q xd x) W w' ∧ Keep w W w' p d l q xd x A X A' X' := by
  refine (xh_append W q xd X.a X.b X.c X.ka X.kb X.kc x X.fb X.cf X.tb X.ta X.tc X.base X.v8 P2 D2 G2 X.tl X.N h.xh h.bs h.u8 hv hroom hpl ok htb).mono ?_; rintro e w' ⟨rfl, v8', hx, ho, hg⟩
  have ho' : Only (X.w q xd x) W w' := ho.mono (fun k _ e => by
    rcases e with e | e
    · exact .inr (.inl e)
    · exact .inr (.inr (.inr (.inr e.symm))))
  have hw : ∀ k, XA.w { X with v8 := v8', N := fun k => X.N k ∧ v8'.ownBlock ≠ some k } q xd x k → X.w q xd x k ∨ W.heap.size ≤ k := fun k hk => ?_
  · exact ⟨rfl, _, { X with v8 := v8', N := fun k => X.N k ∧ v8'.ownBlock ≠ some k }, h.doc (X' := { X with v8 := v8', N := fun k => X.N k ∧ v8'.ownBlock ≠ some k }) ho' hx hw (fun k hk => hk.1) (fun k hk e => e.2 hk) (Nat.le_trans h.bs ho.size), ho', Keep.doc (X' := { X with v8 := v8', N := fun k => X.N k ∧ v8'.ownBlock ≠ some k }) ho.size hw (fun k hk => hk.1)⟩
  rcases hk with e | e | e | e | e
  · exact .inl (.inl e)
  · exact .inl (.inr (.inl e))
  · exact .inl (.inr (.inr (.inl e)))
  · exact .inl (.inr (.inr (.inr (.inl e))))
  · have e' : v8'.ownBlock = some k := e
    rcases hg with e2 | ⟨g, e2, e3⟩
    · exact .inl (.inr (.inr (.inr (.inr (e2 ▸ e')))))
    · rw [e2] at e'
      injection e' with e'
      exact .inr (by omega)
theorem nums_bd {P : Pl} (hp : P.pages ≤ 8192) (hn : ∀ f ∈ P.fs, f.num = -1 ∧ f.chg = false ∨ 0 ≤ f.num ∧ f.num < (P.pages : Int)) (j : Nat) (hj : j < (P.fs.map Fm.num).length) : -9223372036854775808 ≤ (P.fs.map Fm.num).getD j 0 ∧ (P.fs.map Fm.num).getD j 0 < 9223372036854775808 := by
  have hj' : j < P.fs.length := by simpa using hj
  have h := hn P.fs[j] (List.getElem_mem hj'); simp only [List.getD_eq_getElem?_getD, List.getElem?_map, List.getElem?_eq_getElem hj', Option.map_some, Option.getD_some]
  omega
theorem held_o {w : World} {g : Nat} {P : Pl} (hf : P.fs.length ≤ 1024) (hp : P.pages ≤ 8192) (hn : ∀ f ∈ P.fs, f.num = -1 ∧ f.chg = false ∨ 0 ≤ f.num ∧ f.num < (P.pages : Int)) (h : FRow w g 3 P.fs.length (fun k => .int .i64 ((P.fs.getD k Fm.none).num))) : Ints w g (some ⟨g, 0, none⟩) (P.fs.map Fm.num) := by
  refine ⟨fun _ => ⟨0, rfl, fun j hj => ?_⟩, nums_bd hp hn, fun _ => h.lt, by simp; omega⟩
  have hj' : j < P.fs.length := by simpa using hj
  rw [Nat.zero_add, h.cell hj']
  simp [List.getD_eq_getElem?_getD, hj']
theorem held_g {w : World} {base : Nat} {v : Value} {P : Pl} (hf : P.fs.length ≤ 1024) (hp : P.pages ≤ 8192) (hn : ∀ f ∈ P.fs, f.num = -1 ∧ f.chg = false ∨ 0 ≤ f.num ∧ f.num < (P.pages : Int)) (h : w.ownsRow base 3 1 v (P.fs.map Fm.num).length ((P.fs.map Fm.num).map (Value.int .i64))) : ∃ B ao cp, v = .slice ao (P.fs.map Fm.num).length cp ∧ Ints w B ao (P.fs.map Fm.num) := by
  obtain ⟨l, hl⟩ : ∃ l, P.fs.map Fm.num = l := ⟨_, rfl⟩; have hb := nums_bd hp hn
  have hlen : l.length ≤ 1024 := by rw [← hl]; simpa using hf
  rw [hl] at h hb ⊢
  rcases h.2 with ⟨rfl, h0⟩ | ⟨g, cap, cur, rfl, _, hg, _⟩
  · have e : l = [] := List.eq_nil_of_length_eq_zero h0
    subst e
    exact ⟨0, none, 0, rfl, ⟨fun h => absurd h (by simp), fun j h => absurd h (by simp), fun h => absurd h (by simp), by simp⟩⟩
  · refine ⟨g, some ⟨g, 0, none⟩, cap, rfl, ⟨fun _ => ⟨0, rfl, fun j hj => ?_⟩, hb, fun _ => (Array.getElem?_eq_some_iff.1 hg).1, by omega⟩⟩
    rw [Nat.zero_add, h.cellAt j (by omega)]
    simp [List.getD_eq_getElem?_getD, hj]
theorem tq_oheld {w W : World} {p d l q xd x : Nat} {A : CA} {X : XA} {P P2 : Pl} {D D2 : Dk} {G G2 : Lg} (h : Tq w W p d l q xd x A X P D G P2 D2 G2) : Calls Tryz.prog 34 #[.pointer (some ⟨p, 0, none⟩)] W fun e w' => ∃ B ao cp, e = .returned (.slice ao (P.fs.map Fm.num).length cp) ∧ Ints w' B ao (P.fs.map Fm.num) ∧ Only (fun _ => False) W w' := by
  refine (oheld_any W p d l A.fb A.mb P A.T h.sw.pool).mono ?_; rintro e w' ⟨rfl, hr, ho⟩
  exact ⟨W.heap.size, _, P.fs.length, by rw [List.length_map], held_o h.sw.pool.nf.2 h.sw.pool.np.2 h.sw.pool.nn hr, ho⟩
theorem tq_gheld {w W : World} {p d l q xd x : Nat} {A : CA} {X : XA} {P P2 : Pl} {D D2 : Dk} {G G2 : Lg} (h : Tq w W p d l q xd x A X P D G P2 D2 G2) : Calls Tryz.prog 35 #[.pointer (some ⟨q, 0, none⟩)] W fun e w' => ∃ B ao cp, e = .returned (.slice ao (P2.fs.map Fm.num).length cp) ∧ Ints w' B ao (P2.fs.map Fm.num) ∧ Only (fun _ => False) W w' := by
  refine (gpheld_any W q xd x X.fb X.cf X.tb X.ta X.tc P2 X.tl X.N h.xh.pl).mono ?_; rintro e w' ⟨⟨v, rfl, hr⟩, ho⟩; obtain ⟨B, ao, cp, rfl, hI⟩ := held_g h.xh.pl.nf.2 h.xh.pl.np.2 h.xh.pl.nn hr
  exact ⟨B, ao, cp, rfl, hI, ho⟩
theorem tq_odirty {w W : World} {p d l q xd x : Nat} {A : CA} {X : XA} {P : Pl} {D D2 : Dk} {G G2 : Lg} (h : Tq w W p d l q xd x A X P D G P D2 G2) : Calls Tryz.prog 31 #[.pointer (some ⟨p, 0, none⟩)] W fun e w' => ∃ B ao cp, e = .returned (.slice ao X.tl.length cp) ∧ Prs w' B ao X.tl ∧ Only (fun _ => False) W w' := by
  refine (odirty_any W p d l A.fb A.mb P A.T h.sw.pool).mono ?_; rintro e w' ⟨⟨B, ao, cp, tl, rfl, ht, hp, _⟩, ho⟩; obtain rfl := TabIs.uniq ht h.xh.pl.ts
  exact ⟨B, ao, cp, rfl, hp, ho⟩
theorem tq_gdirty {w W : World} {p d l q xd x : Nat} {A : CA} {X : XA} {P P2 : Pl} {D D2 : Dk} {G G2 : Lg} (h : Tq w W p d l q xd x A X P D G P2 D2 G2) : Calls Tryz.prog 32 #[.pointer (some ⟨q, 0, none⟩)] W fun e w' => ∃ B ao cp, e = .returned (.slice ao X.tl.length cp) ∧ Prs w' B ao X.tl ∧ Only (fun _ => False) W w' := by
  refine (gpdirty_any W q xd x X.fb X.cf X.tb X.ta X.tc P2 X.tl X.N h.xh.pl).mono ?_; rintro e w' ⟨⟨B, ao, cp, rfl, hp, _⟩, ho⟩
  exact ⟨B, ao, cp, rfl, hp, ho⟩
theorem tq_start {w V W : World} {p d l fb mb g m : Nat} {P : Pl} {D : Dk} {G : Lg} {v7 v8 : Value} {T : Nat → Prop} {xd a b c ka kb kc x fb' cf base : Nat} (hsw : Sw w V p d l fb mb g m P D G v7 v8 T) (hT : ∀ k, T k → V.heap.size ≤ k) (ho : Only (fun _ => False) V W)
    (hxp : Xp W V.heap.size xd x fb' cf 0 none 0 P [] (fun k => k ≠ V.heap.size ∧ k ≠ fb' ∧ W.heap.size ≤ k)) (hfb : V.heap.size < fb') (hxw : Xw W xd a b c ka kb kc x D G base (.slice none 0 0)) (hb : base ≤ W.heap.size)
    (h1 : ∀ k, xown xd a b c k → w.heap.size ≤ k ∧ k < V.heap.size) (h2 : w.heap.size ≤ x ∧ x < V.heap.size) (h3 : ∀ k, CA.w ⟨fb, mb, g, m, v7, v8, T⟩ p d l k → ¬ xown xd a b c k ∧ k ≠ x) (hf : 1 ≤ G.flushed) (ht : G.tail < 4294967295) :
    Tq w W p d l V.heap.size xd x ⟨fb, mb, g, m, v7, v8, fun k => T k ∧ k < V.heap.size ∨ W.heap.size ≤ k⟩ ⟨a, b, c, ka, kb, kc, fb', cf, 0, none, 0, base, .slice none 0 0, [], fun k => k ≠ V.heap.size ∧ k ≠ fb' ∧ W.heap.size ≤ k⟩ P D G P D G := by
  have hsz := ho.size; have hvw := hsw.only.size; have hq := hxp.lt; have hfl := hxp.flt
  have hnone : ∀ k, (Value.slice none 0 0).ownBlock = some k → False := fun k e => by cases e
  have hcl : ∀ k, CA.w ⟨fb, mb, g, m, v7, v8, T⟩ p d l k → k < V.heap.size := fun k hk => by
    have hl := hsw.lt
    rcases hk with e | e | e | e | e | e | e
    · exact hsw.own_lt k e
    · omega
    · omega
    · have e' : k = fb := e
      omega
    · have e' : k = mb := e
      omega
    · exact (Row.lt7 hsw.log k e).2
    · exact (Row.lt8 hsw.log k e).2
  have b1 : ¬ xown xd a b c V.heap.size := fun e => by have := h1 _ e; omega
  have b2 : ¬ xown xd a b c fb' := fun e => by have := h1 _ e; omega
  have b3 : V.heap.size ≠ x := by omega
  have b4 : fb' ≠ x := by omega
  have b5 : ∀ k, (k ≠ V.heap.size ∧ k ≠ fb' ∧ W.heap.size ≤ k) → ¬ xown xd a b c k ∧ k ≠ x := fun k hk => ⟨fun e => by have := h1 k e; omega, by omega⟩
  refine ⟨hsw.kept ho (fun _ _ e => e) (hsw.only.trans ho (fun _ _ e => e)), ⟨hxp, hxw, b1, b2, b3, b4, (fun e => hnone _ e), (fun e => hnone _ e), b5, hf, ht⟩, fun k hk => ⟨fun e => ?_, fun e => ?_⟩, fun k hk e => ?_, fun k hk => ?_, fun k hk => (hnone k hk).elim, hb⟩
  · have hk2 := hcl k hk
    rcases e with e | e | e | e | e
    · exact (h3 k hk).1 e
    · exact (h3 k hk).2 e
    · omega
    · have e' : k = fb' := e
      omega
    · exact hnone k e
  · have hk2 := hcl k hk
    have e' := e.2.2
    omega
  · have hk2 : k < W.heap.size := by
      rcases hk with e | e | e | e | e
      · have := h1 k e; omega
      · omega
      · omega
      · have e' : k = fb' := e
        omega
      · exact (hnone k e).elim
    rcases e with ⟨e, e2⟩ | e
    · have := hT k e; omega
    · omega
  · rcases hk with e | e | e | e | e
    · exact (h1 k e).1
    · omega
    · omega
    · have e' : k = fb' := e
      omega
    · exact (hnone k e).elim
theorem tq_gfull {w W : World} {p d l q xd x : Nat} {A : CA} {X : XA} {P P2 : Pl} {D D2 : Dk} {G G2 : Lg} (h : Tq w W p d l q xd x A X P D G P2 D2 G2) (hv : (nt.at_ G2.tail).valid) (hroom : G2.room < (nt.at_ G2.tail).enc.length) :
    Calls Tryz.prog 16 #[.pointer (some ⟨x, 0, none⟩), .agg (nt.cells Loc.none)] W fun e w' => e = .returned (.tuple #[.int .i64 0, .int .i64 50]) ∧ Tq w w' p d l q xd x A X P D G P2 D2 G2 ∧ Only (fun _ => False) W w' := by
  refine (glappend_full W x xd G2 X.base X.v8 h.xh.ww.lg hv hroom).mono ?_; rintro e w' ⟨rfl, ho⟩
  exact ⟨rfl, h.more ho, ho⟩
theorem tq_ofull {w W : World} {p d l q xd x : Nat} {A : CA} {X : XA} {P P2 : Pl} {D D2 : Dk} {G G2 : Lg} (h : Tq w W p d l q xd x A X P D G P2 D2 G2) (hv : (nt.at_ G.tail).valid) (hroom : G.room < (nt.at_ G.tail).enc.length) :
    Calls Tryz.prog 14 #[.pointer (some ⟨l, 0, none⟩), .agg (nt.cells Loc.none)] W fun e w' => e = .returned (.tuple #[.int .i64 0, .int .i64 50]) ∧ Tq w w' p d l q xd x A X P D G P2 D2 G2 ∧ Only (fun _ => False) W w' := by
  refine (append_full W l d G w.heap.size A.v7 A.v8 h.sw.log h.sw.ok nt Loc.none (nt_at W) hv hroom).mono ?_; rintro e w' ⟨rfl, ho⟩
  exact ⟨rfl, h.more ho, ho⟩
end Go.Proofs.YtebijheonkagfaaGreatDoor
