/- Parts. -/
import Derived.Test.YtajjakljheafjaaGreatK48
set_option maxRecDepth 100000
namespace Go.Proofs.YtajjakljheafjaaGreat
open Go.RowKit
/-- A plan of a Get or a Scan that goes on. -/
structure RdB (a : Aq) (P : Pn) : Prop where
  wk : P.wk = 3
  item : P.item = ⟨#[]⟩
  call : P.call = a.c
  key : P.key = a.key
  n : P.n = a.n
  own : P.own = 0
  few : P.rows.length ≤ 15
  lt : a.c = 5 → (P.rows.length : Int) < a.n
  nrow : a.c = 2 → P.rows = []
def RdS (P : Pn) : Prop := (P.sh = some 92 ∧ P.th = some 51 ∧ P.lv = 0 ∧ P.te.ok = true ∧ 0 ≤ P.seen ∧ P.seen ≤ 4095) ∨ P.sh = some 51 ∨ (P.sh = some 135 ∧ ∃ e es, P.hits = e :: es ∧ P.hits.length ≤ P.hc ∧ es.length ≤ 1000000)
def RdI (a : Aq) (P : Pn) : Prop := (P.wk = 4 ∧ P.item = ⟨#[]⟩ ∧ (P.rows.length : Int) ≤ max a.n 0 ∧ P.rows.length ≤ 16) ∨ (RdB a P ∧ RdS P)
/-- What is asked may be asked. -/
structure AskR (a : Aq) : Prop where
  c : a.c = 2 ∨ a.c = 5
  key : a.key.size ≤ 24
  n : a.c = 5 → 1 ≤ a.n ∧ a.n ≤ 16
theorem AskR.of {a : Aq} (hc : a.c = 2 ∨ a.c = 5) (h : a.ok 0 = true) : AskR a := by
  unfold Aq.ok at h
  rcases hc with e | e
  · rw [if_pos e] at h
    unfold keyB at h
    simp only [Bool.and_eq_true, decide_eq_true_eq] at h
    exact ⟨.inl e, h.2, fun q => by omega⟩
  · rw [if_neg (by omega), if_neg (by omega), if_neg (by omega), if_pos e] at h
    simp only [Bool.and_eq_true, decide_eq_true_eq] at h
    exact ⟨.inr e, h.1, fun _ => ⟨h.2.2.1, h.2.2.2⟩⟩
theorem over_R (a : Aq) (er : Int) (f : Bool) (v : ByteArray) : RdI a (Pn.over er f v none [] 0) := .inl ⟨rfl, rfl, by show ((0 : Nat) : Int) ≤ max a.n 0; omega, by show 0 ≤ 16; omega⟩
theorem fl_R {a : Aq} {P : Pn} (h : P.wk = 3) (e : Int) : RdI a (P.fl e) := by
  unfold Pn.fl
  rw [if_neg (by rw [h]; decide)]
  exact over_R a _ _ _
theorem fin_R {a : Aq} {P : Pn} (h : RdB a P) (ha : AskR a) : RdI a P.fin := by
  refine .inl ⟨rfl, rfl, ?_, ?_⟩
  · show (P.rows.length : Int) ≤ max a.n 0
    rcases ha.c with e | e
    · rw [h.nrow e]; show ((0 : Nat) : Int) ≤ max a.n 0; omega
    · have := h.lt e; omega
  · show P.rows.length ≤ 16
    have := h.few
    omega
theorem RdB.chg {a : Aq} {P : Pn} (h : RdB a P) (ha : AskR a) : P.chg = false := by
  unfold Pn.chg
  rw [h.call]
  rcases ha.c with e | e <;> rw [e] <;> rfl
theorem lko_R {a : Aq} {P : Pn} (h : RdB a P) (ha : AskR a) (h1 : P.hits.length ≤ P.hc) (h2 : P.hits.length ≤ 1000001) : RdI a P.lko := by
  unfold Pn.lko
  cases hh : P.hits with
  | nil =>
    simp only []
    by_cases hm : P.more = true
    · rw [if_pos hm]
      exact .inr ⟨⟨rfl, h.item, h.call, h.key, h.n, h.own, h.few, h.lt, h.nrow⟩, .inr (.inl rfl)⟩
    · rw [if_neg hm]
      unfold Pn.lkd
      rw [if_neg (by rw [h.chg ha]; decide)]
      exact fin_R h ha
  | cons e es =>
    simp only []
    rw [hh] at h2
    exact .inr ⟨⟨rfl, h.item, h.call, h.key, h.n, h.own, h.few, h.lt, h.nrow⟩, .inr (.inr ⟨rfl, e, es, hh, h1, by simpa using h2⟩)⟩
theorem thr_R {a : Aq} {P : Pn} (h : RdB a P) (ha : AskR a) {A : Option Addr} {C : Nat} {L : List En} {m : Bool} {r er : Int} (h1 : L.length ≤ C) (h2 : L.length ≤ 1000000) : RdI a (P.thr A C L m r er) := by
  unfold Pn.thr
  by_cases he : er = 0
  · rw [if_pos he]
    exact lko_R ⟨h.wk, h.item, h.call, h.key, h.n, h.own, h.few, h.lt, h.nrow⟩ ha h1 (by show L.length ≤ 1000001; omega)
  · rw [if_neg he]
    exact fl_R h.wk 60
theorem lat_R {a : Aq} {P : Pn} (h : RdB a P) (ha : AskR a) {e : En} {es : List En} (hh : P.hits = e :: es) (h1 : P.hits.length ≤ P.hc) (h2 : es.length ≤ 1000000) (nw vis : Bool) (o : Option Tu) (ra : Option Addr) (rc : Nat) : RdI a (P.lat es nw vis e o ra rc) := by
  have hT : RdB a (P.tl es) := ⟨h.wk, h.item, h.call, h.key, h.n, h.own, h.few, h.lt, h.nrow⟩
  have hc : es.length ≤ P.hc - 1 := by rw [hh] at h1; simp at h1; omega
  have key : ∀ Q : Pn, P.lat0 es nw vis e o ra rc = Q → (RdB a Q ∧ Q.hits.length ≤ Q.hc ∧ Q.hits.length ≤ 1000001) ∨ (Q.wk = 4 ∧ RdI a Q) → RdI a (P.lat es nw vis e o ra rc) := fun Q hQ hx => by
    unfold Pn.lat
    rw [hQ]
    rcases hx with ⟨q1, q2, q3⟩ | ⟨q1, q2⟩
    · rw [if_neg (by rw [q1.wk]; decide)]
      exact lko_R q1 ha q2 q3
    · rw [if_pos q1]
      exact q2
  cases o with
  | none => exact key (P.tl es) rfl (.inl ⟨hT, hc, by show es.length ≤ 1000001; omega⟩)
  | some t =>
    have e0 : P.lat0 es nw vis e (some t) ra rc = (P.tl es).jdg nw vis e t ra rc := rfl
    unfold Pn.jdg at e0
    rw [if_neg (by rw [hT.chg ha]; simp)] at e0
    by_cases hv : vis = true
    · rw [if_pos hv] at e0
      by_cases h2c : (P.tl es).call = 2
      · rw [if_pos h2c] at e0
        exact key _ e0 (.inr ⟨rfl, over_R a _ _ _⟩)
      · rw [if_neg h2c] at e0
        have h5 : a.c = 5 := ha.c.resolve_left (by rw [← hT.call]; exact h2c)
        rw [if_pos (by rw [hT.call]; exact h5)] at e0
        have hlt := h.lt h5
        have hn := ha.n h5
        have hlen : (((P.tl es).rows ++ [(t.key, t.value)]).length : Int) = P.rows.length + 1 := by
          rw [List.length_append]
          show ((P.rows.length + 1 : Nat) : Int) = _
          omega
        have e1 : (P.tl es).n = a.n := h.n
        unfold Pn.add at e0
        rw [hlen, e1] at e0
        by_cases hq : (P.rows.length : Int) + 1 = a.n
        · rw [if_pos hq] at e0
          refine key _ e0 (.inr ⟨rfl, .inl ⟨rfl, rfl, ?_, ?_⟩⟩)
          · show (((P.tl es).rows ++ [(t.key, t.value)]).length : Int) ≤ max a.n 0
            rw [hlen]; omega
          · show ((P.tl es).rows ++ [(t.key, t.value)]).length ≤ 16
            omega
        · rw [if_neg hq] at e0
          refine key _ e0 (.inl ⟨⟨h.wk, h.item, h.call, h.key, h.n, h.own, ?_, fun _ => ?_, fun q => by omega⟩, hc, by show es.length ≤ 1000001; omega⟩)
          · show ((P.tl es).rows ++ [(t.key, t.value)]).length ≤ 15
            omega
          · show (((P.tl es).rows ++ [(t.key, t.value)]).length : Int) < a.n
            rw [hlen]; omega
    · rw [if_neg hv] at e0
      exact key _ e0 (.inl ⟨hT, hc, by show es.length ≤ 1000001; omega⟩)
/-- Nothing is logged, and the plan is one that reads, or has ended. -/
def NoL (a : Aq) (P' : Pn) (cs : List Value) (is : Bool) : Prop := is = false ∧ cs = Hr.none.cl ∧ RdI a P'
/-- Hits of any page, told to a plan that reads. -/
theorem hits_any (a : Int) (k v r : Int) (h : ByteArray) (B cp : Nat) (ao : Option Addr) (l : List ByteArray) (w : World) (hP : PgA w a h B ao l) (f t : ByteArray) : ∃ (L : List En) (m : Bool) (er : Int), L.length ≤ 1000000 ∧
    ∀ W, PgA W a h B ao l → Calls Tryz.prog 93 #[pA a k v r h ao l.length cp, .string f, .string t] W fun x w' => HtA W w' x L m er := by
  by_cases hb : ckB a k v r h l = false ∨ ¬ v = 0
  · exact ⟨[], false, 140, by simp, fun W hW => hits_no W a k v r h B cp ao l hW hb f t⟩
  · have h1 : ckB a k v r h l = true := by
      cases q : ckB a k v r h l
      · exact absurd (.inl q) hb
      · rfl
    have h2 : v = 0 := Decidable.byContradiction (fun q => hb (.inr q))
    obtain ⟨h0, X, hG, rfl, hv, rfl, rfl, rfl⟩ := ckB_node h1
    have hx : X.lv = 0 := by omega
    have hlen : (X.es.filter (hitB f t)).length ≤ 1000000 := by
      have q1 := List.length_filter_le (hitB f t) X.es
      have q2 := (hG.nm hP.strs).few
      rw [Nd.es_len] at q1
      omega
    refine ⟨X.es.filter (hitB f t), decide (X.rt ≠ 0) && X.goOn t, 0, hlen, fun W hW => ?_⟩
    have := hits_leaf W X a B cp ao (hG.nm hW.strs) ⟨h0, hW.lsn⟩ hx f t W (Only.refl _ _)
    rw [hv]
    exact this
/-- Way of any page, at level 0. -/
theorem way_any (a : Int) (k v r : Int) (h : ByteArray) (B cp : Nat) (ao : Option Addr) (l : List ByteArray) (e : En) (he : e.ok = true) : ∃ (nx : Int) (th : Bool) (er : Int),
    ∀ W, PgA W a h B ao l → Calls Tryz.prog 28 #[pA a k v r h ao l.length cp, .int .i64 0, .agg #[.string e.key, .int .i64 e.page, .int .i64 e.slot]] W fun x w' => x = .returned (.tuple #[.int .i64 nx, .bool th, .int .i64 er]) ∧ Only (fun _ => False) W w' := by
  cases hb : ckB a k v r h l
  · exact ⟨0, false, 140, fun W hW => way_no W a k v r 0 h B cp ao l e hW hb⟩
  · obtain ⟨h0, X, hG, rfl, rfl, rfl, rfl, rfl⟩ := ckB_node hb
    exact ⟨(X.way 0 e).1, (X.way 0 e).2, 0, fun W hW => way_nd W a X 0 e B cp ao (hG.nm hW.strs) ⟨h0, hW.lsn⟩ he (Nat.zero_le _)⟩
/-- A page that came in. -/
theorem ShO.pgA {w : World} {s : Sh} (h : ShO w s) : PgA w s.p.lsn s.p.high s.pB s.pa s.p.items := ⟨h.strs, h.pb.few, h.pb.high, h.pb.lsn.2⟩
theorem page_read (w : World) (Z : Nat → Prop) (p : Nat) (P : Pn) (h : Pm w Z p P) (a : Aq) (ha : AskR a) (hI : RdI a P) (s : Sh) (n : Nat) (hs : ShO w s) (hl : ShL n s) (hz : ∀ b, Z b → n ≤ b) (fa : Option Addr) (fn fc : Nat) :
    Calls Tryz.prog 12 #[.pointer (some ⟨p, 0, none⟩), .agg (vvO s.V s.q).ar, .agg (pvS s).ar, .slice fa fn fc] w (SQ w Z p (NoL a)) := by
  have hout : SnOut s.V s.q Z := ⟨fun q e => by have := hl.a q; have := hz _ e; omega, fun q e => by have := hl.r q; have := hz _ e; omega, fun q e => by have := hl.g q; have := hz _ e; omega⟩
  have hpB : 0 < s.p.items.length → ¬ Z s.pB := fun q e => by have := hl.p q; have := hz _ e; omega
  rcases hI with hI | ⟨hB, hst⟩
  · refine (page_no w _ (vvO s.V s.q) (pvS s) fa fn fc (fun W ho => ?_)).mono (fun e w' k => ?_)
    · have := wants_any W Z p P (h.more ho) 3
      rw [hI.1] at this
      exact this
    · obtain ⟨rfl, ho⟩ := k
      exact ⟨Z, P, Hr.none.cl, false, ⟨rfl, rfl, rfl⟩, fun _ _ q => q, h.more ho, ho.mono (fun _ _ e => e.elim), rfl, rfl, .inl hI⟩
  · have hown : I64 P.own := by rw [hB.own]; exact ⟨by decide, by decide⟩
    have hkey : P.key.size ≤ 24 := by rw [hB.key]; exact ha.key
    have hkp : ∀ {W W2 : World}, Only (fun _ => False) w W → Only (fun k => k = p) W W2 → PgA W2 s.p.lsn s.p.high s.pB s.pa s.p.items := fun ho ho2 => (hs.pgA.more ho).kept ho2 (fun q e => hpB q (by rw [e]; exact h.zp))
    rcases hst with ⟨h1, h2, h3, h4, h5⟩ | h1 | ⟨h1, e, es, h2, h3, h4⟩
    · obtain ⟨nx, th, er, hw⟩ := way_any s.p.lsn s.p.kind s.p.level s.p.right s.p.high s.pB s.pc s.pa s.p.items P.te h4
      obtain ⟨L, m, er2, hL, hh⟩ := hits_any s.p.lsn s.p.kind s.p.level s.p.right s.p.high s.pB s.pc s.pa s.p.items w hs.pgA P.key P.blw
      refine page_down w Z p P h (vvO s.V s.q) (pvS s) fa fn fc hB.wk h1 (NoL a) (fun W hP ho => ?_)
      refine (downL_any W Z p P hP (vvO s.V s.q) (pvS s) fa fn fc h2 (by omega) nx th er (NoL a) (fun W2 ho2 => by rw [h3]; exact hw W2 (hkp ho ho2)) (fun _ _ W2 hP2 ho2 => ?_)).mono (fun e w' q => q.mono (fun P' cs is r => ?_))
      · refine (lookThrough_any W2 Z p P.sn hP2 hown (vvO s.V s.q) (pvS s) fa fn fc hkey L m er2 hL (fun W3 ho3 => hh W3 ((hkp ho ho2).more ho3))).mono (fun e w' q => q.mono (fun P' cs is r => ?_))
        obtain ⟨r1, r2, A, C, r3, rfl⟩ := r
        exact ⟨r1, r2, thr_R (P := P.sn) ⟨hB.wk, hB.item, hB.call, hB.key, hB.n, hB.own, hB.few, hB.lt, hB.nrow⟩ ha r3 hL⟩
      · rcases r with ⟨_, _, r⟩ | ⟨_, r1, r2, rfl⟩
        · exact r
        · refine ⟨r1, r2, ?_⟩
          by_cases hq : er = 0 ∧ P.seen + 1 < 4096
          · rw [if_pos hq]
            exact .inr ⟨⟨rfl, hB.item, hB.call, hB.key, hB.n, hB.own, hB.few, hB.lt, hB.nrow⟩, .inl ⟨rfl, h2, h3, h4, by show 0 ≤ P.seen + 1; omega, by show P.seen + 1 ≤ 4095; omega⟩⟩
          · rw [if_neg hq]
            exact fl_R (P := P.sn) hB.wk 60
    · obtain ⟨L, m, er2, hL, hh⟩ := hits_any s.p.lsn s.p.kind s.p.level s.p.right s.p.high s.pB s.pc s.pa s.p.items w hs.pgA P.key P.blw
      refine page_thr w Z p P h (vvO s.V s.q) (pvS s) fa fn fc hB.wk h1 (NoL a) (fun W hP ho => ?_)
      refine (lookThrough_any W Z p P hP hown (vvO s.V s.q) (pvS s) fa fn fc hkey L m er2 hL (fun W3 ho3 => hh W3 (hs.pgA.more (o2 ho ho3)))).mono (fun e w' q => q.mono (fun P' cs is r => ?_))
      obtain ⟨r1, r2, A, C, r3, rfl⟩ := r
      exact ⟨r1, r2, thr_R hB ha r3 hL⟩
    · refine (pg_at w Z p P h hB.wk h1 hown (by have := hB.few; omega) e es h2 h3 h4 s.V s.q hs.sn hout s.p.lsn s.p.kind s.p.level s.p.right s.p.high s.pB s.pc s.pa s.p.items hs.strs hpB fa fn fc).mono (fun e' w' q => q.mono (fun P' cs is r => ?_))
      obtain ⟨r1, r2, ra, rc, rfl⟩ := r
      exact ⟨r1, r2, lat_R hB ha h2 h3 h4 _ _ _ _ _⟩
theorem begun_R {a : Aq} (ha : AskR a) : RdI a (Pn.begun a 0) := by
  unfold Pn.begun
  rw [if_neg (by unfold Pn.chg Pn.start; rcases ha.c with h | h <;> simp [h])]
  refine .inr ⟨⟨rfl, rfl, rfl, rfl, rfl, rfl, Nat.zero_le _, fun q => ?_, fun _ => rfl⟩, .inl ⟨rfl, rfl, rfl, ?_, by show (0 : Int) ≤ 0; decide, by show (0 : Int) ≤ 4095; decide⟩⟩
  · show ((0 : Nat) : Int) < a.n
    have := ha.n q; omega
  · show (En.mk (Pn.start a 0).frm 0 0).ok = true
    have hf : (Pn.start a 0).frm = if a.key = ⟨#[]⟩ then ⟨#[0]⟩ else a.key := rfl
    rw [hf]
    by_cases q : a.key = ⟨#[]⟩
    · rw [if_pos q]; decide
    · rw [if_neg q]
      refine En.ok_iff.2 ⟨?_, ha.key, by show (0 : Int) ≤ 0; decide, by show (0 : Int) ≤ 65535; decide, by show (0 : Int) ≤ 0; decide, by show (0 : Int) ≤ 65535; decide⟩
      show 1 ≤ a.key.size
      by_cases z : a.key.size = 0
      · exact absurd (ByteArray.ext (Array.eq_empty_of_size_eq_zero z)) q
      · omega
theorem show_viewS {S : Nat → Prop} {w W : World} {B at_ : Nat} {s : Sh} (h : w.rangeAt B at_ s.cl) (ho : Only S w W) (hl : B < w.heap.size) (hS : ¬ S B) : W.rangeAt B (at_ + 7) (vvO s.V s.q).ar.toList := fun j v hv => by
  have q := show_view h (Only.refl _ w) hl j v hv
  exact (ho.cell (p := ⟨B, at_ + 7 + j, none⟩) hl hS).trans q
theorem show_pageS {S : Nat → Prop} {w W : World} {B at_ : Nat} {s : Sh} (h : w.rangeAt B at_ s.cl) (ho : Only S w W) (hl : B < w.heap.size) (hS : ¬ S B) : W.rangeAt B (at_ + 1) (pvS s).ar.toList := fun j v hv => by
  have q := show_page h (Only.refl _ w) hl j v hv
  exact (ho.cell (p := ⟨B, at_ + 1 + j, none⟩) hl hS).trans q
theorem show_all {w W : World} {B at_ : Nat} {s : Sh} (h : w.rangeAt B at_ s.cl) (ho : Only (fun _ => False) w W) (hl : B < w.heap.size) : W.rangeAt B at_ s.cl := fun i _ hv => show_cell h ho hl i hv
theorem ShO.more {w W : World} {s : Sh} (h : ShO w s) (ho : Only (fun _ => False) w W) : ShO W s := h.kept ho (fun _ e => e.elim)
section
variable {ops : Array Oper} {rest : List Oper} {o : Oper} {a : Act} {w : World} {Q : Exit → Act → World → Prop}
theorem wpList_loadg_pv (hw : Region.wanted o (yielded ops a.tmps) = true) (x : Operand) (hop : o.op = .load 37 x) (b f : Nat) (hx : a.eval x = .pointer (some ⟨b, f, none⟩)) (B : Pv) (hc : w.rangeAt b f B.ar.toList)
    (h : wpList Tryz.prog ops Q rest (a.put o.dst (.agg B.ar)) w) : wpList Tryz.prog ops Q (o :: rest) a w :=
  BigFrame.wpList_want hw fun _ hK => wp_load_mid 37 x hop b f hx B.ar.toList _ hc Tryz.underlying37 rfl Tryz.sizePageB (hK _ _ h)
end
theorem RdI.wk {a : Aq} {P : Pn} (h : RdI a P) : (P.wk = 3 ∨ P.wk = 4) ∧ P.item = ⟨#[]⟩ := by
  rcases h with ⟨h1, h2, _⟩ | ⟨h1, _⟩
  · exact ⟨.inr h1, h2⟩
  · exact ⟨.inl h1.wk, h1.item⟩
/-- What a page that is shown answers. -/
def PgR (a : Aq) (N : Nat) (Z : Nat → Prop) (p : Nat) (w : World) (e : Ending) (w' : World) : Prop :=
  e = .returned (.tuple #[.agg Hr.none.cells, .bool false]) ∧ ∃ Z2 P2, (∀ b, b < w.heap.size → Z2 b → Z b) ∧ (∀ b, Z2 b → N ≤ b) ∧ Pm w' Z2 p P2 ∧ Only Z w w' ∧ RdI a P2
theorem page_R (w : World) (Z : Nat → Prop) (p : Nat) (P : Pn) (h : Pm w Z p P) (a : Aq) (ha : AskR a) (hI : RdI a P) (s : Sh) (n : Nat) (hs : ShO w s) (hl : ShL n s) (hz : ∀ b, Z b → n ≤ b) (hn : n ≤ w.heap.size) :
    Calls Tryz.prog 12 #[.pointer (some ⟨p, 0, none⟩), .agg (vvO s.V s.q).ar, .agg (pvS s).ar, .slice none 0 0] w (PgR a n Z p w) := by
  refine (page_read w Z p P h a ha hI s n hs hl hz none 0 0).mono (fun e w' q => ?_)
  obtain ⟨Z2, P2, cs, is, ⟨r1, _, _⟩, r2, r3, r4, r5, r6, r7⟩ := q
  subst r5
  subst r6
  refine ⟨r1, Z2, P2, r2, fun b hb => ?_, r3, r4, r7⟩
  by_cases q : b < w.heap.size
  · exact hz b (r2 b q hb)
  · omega
/-- What a plan that reads answers. -/
def RpR (a : Aq) (w : World) (e : Ending) (w' : World) : Prop := ∃ A L C er f v, e = .returned (.agg #[.int .i64 er, .bool f, .string v, .slice A L C]) ∧ (L : Int) ≤ max a.n 0 ∧ Only (fun _ => False) w w'
theorem reply_R (w : World) (Z : Nat → Prop) (p : Nat) (P : Pn) (h : Pm w Z p P) (a : Aq) (hI : RdI a P) : Calls Tryz.prog 13 #[.pointer (some ⟨p, 0, none⟩)] w (RpR a w) := by
  rcases hI with ⟨h1, h2, h3, h4⟩ | ⟨h1, _⟩
  · refine (Reply_over w Z p P h h1 (by omega)).mono (fun e w' q => ?_)
    obtain ⟨A, C, rfl, _, _, ho⟩ := q
    exact ⟨A, P.rows.length, C, P.err, P.found, P.val, rfl, h3, ho⟩
  · refine (Reply_no w _ (fun W ho => ?_)).mono (fun e w' q => ?_)
    · have := wants_any W Z p P (h.more ho) 4
      rw [h1.wk] at this
      exact this
    · obtain ⟨rfl, ho⟩ := q
      exact ⟨none, 0, 0, 0, false, ⟨#[]⟩, rfl, by show ((0 : Nat) : Int) ≤ max a.n 0; omega, ho⟩
set_option maxRecDepth 100000 in
set_option maxHeartbeats 6400000 in
theorem reads_law (w : World) (a : Aq) (B cp : Nat) (ao : Option Addr) (l : List Sh) (hS : Shs w B ao l) :
    Calls Tryz.prog 3 #[.agg a.ar, .slice ao l.length cp] w fun x w' => x = .returned (.bool true) ∧ Only (fun _ => False) w w' := by
  have HO := hide (onlyA w (.cells a.ar 24))
  have HB := hide (Cb.new w a.ar.toList 24)
  have HSH := hide (hS.kept HO.out (fun _ e => e.elim))
  have hlen := hS.len
  have HNN := hide (fun W => New_no W a 0)
  have HNO := hide (fun W => New_ok W a 0)
  clear hS
  unfold Aq.ar at *
  obtain ⟨W0, hW0⟩ : ∃ x, w.alloc (.cells #[.int .u8 a.c, .string a.key, .string a.tok, .string a.val, .int .i64 a.n] 24) = x := ⟨_, rfl⟩
  have HB : Hid (Cb W0 w.heap.size [.int .u8 a.c, .string a.key, .string a.tok, .string a.val, .int .i64 a.n]) := by rw [← hW0]; exact HB.out
  rw [hW0] at HO HSH
  have HW0 := hide hW0
  clear hW0
  have a0 := HB.out.c 0 _ rfl
  have a1 := HB.out.c 1 _ rfl
  have a2 := HB.out.c 2 _ rfl
  have a3 := HB.out.c 3 _ rfl
  have a4 := HB.out.c 4 _ rfl
  by_cases hch : a.c = 2 ∨ a.c = 5
  · have HCH := hide hch
    have hb : (a.c != 2) = false ∨ ((a.c != 2) = true ∧ (a.c != 5) = false) := by
      rcases hch with q | q
      · exact .inl (by simp [q])
      · exact .inr ⟨by simp [q], by simp [q]⟩
    clear hch
    cases hk : a.ok 0
    · have HNQ := hide (HNN.out W0 hk)
      clear HNN HNO hk HSH
      go_enter Tryz.func3, Tryz.ntmps3
      go_upto_region 1 with fail
      rw [HW0.out]
      clear HW0
      go_cut [18] (fun x wx => x = .bool false ∧ wx = W0)
      case first =>
        rcases hb with hb | ⟨hb, hb2⟩
        all_goals go_wp2_with fail
        all_goals go_meet
        all_goals exact ⟨rfl, rfl⟩
      case rest =>
        obtain ⟨rfl, hwx⟩ := hcut
        obtain rfl := hwx.symm
        go_wp2_with fail
        refine HNQ.out.mono ?_
        rintro x w1 ⟨rfl, ho⟩
        have HO1 := hide (o2 HO.out ho)
        clear ho HNQ a0 a1 a2 a3 a4
        go_wp2_with fail
        refine (lwawake_any w1).mono ?_
        rintro x w2 ⟨rfl, ho⟩
        have HO2 := hide (o2 HO1.out ho)
        clear ho
        go_wp2_with fail
        go_ret
        exact ⟨rfl, HO2.out⟩
    · have HNQ := hide (HNO.out W0 hk)
      have HAS := hide (AskR.of HCH.out hk)
      have HRI : Hid (RdI a (Pn.begun a 0)) := begun_R HAS.out
      obtain ⟨P0, hP0⟩ : ∃ P, Pn.begun a 0 = P := ⟨_, rfl⟩
      rw [hP0] at HNQ HRI
      clear HNN HNO hk hP0
      go_enter Tryz.func3, Tryz.ntmps3
      go_upto_region 1 with fail
      rw [HW0.out]
      clear HW0
      go_cut [18] (fun x wx => x = .bool false ∧ wx = W0)
      case first =>
        rcases hb with hb | ⟨hb, hb2⟩
        all_goals go_wp2_with fail
        all_goals go_meet
        all_goals exact ⟨rfl, rfl⟩
      case rest =>
        obtain ⟨rfl, hwx⟩ := hcut
        obtain rfl := hwx.symm
        clear hb
        go_wp2_with fail
        refine HNQ.out.mono ?_
        rintro x w1 ⟨p, hpn, rfl, hp, ho⟩
        have HP1 := hide hp
        have HO1 := hide (o2 HO.out ho)
        have HB1 := hide (HB.out.more ho)
        have HX1 := hide ho
        have HPN : Hid (W0.heap.size ≤ p) := hpn
        have HBW : Hid (w.heap.size < W0.heap.size) := HB.out.lt
        clear hp hpn ho HNQ a0 a1 a2 a3 a4 HO HB
        go_wp2_with fail
        go_loopw [7] (fun y wr => ∃ (j : Nat), j ≤ l.length ∧ y = .int .i64 (j : Int) ∧ ∃ Z P, Hid (Pm wr Z p P) ∧ Hid (RdI a P) ∧ Hid (∀ b, Z b → W0.heap.size ≤ b) ∧ Hid (Only (fun k => W0.heap.size ≤ k) w1 wr)) (fun y _ => l.length - (intOf y).toNat)
        case atStart => exact ⟨0, by omega, rfl, _, _, HP1, HRI, (fun b e => by have q : b = p := e; rw [q]; exact HPN.out), hide (Only.refl _ _)⟩
        case round =>
          obtain ⟨j, hj, rfl, Z, P, HP, HRD, HZN, HOW⟩ := hrel
          have HOX : Hid (Only (fun k => W0.heap.size ≤ k) W0 wr) := (HX1.out.mono (fun _ _ e => e.elim)).trans HOW.out (fun _ _ e => e)
          by_cases hlt : j < l.length
          · have HSR := hide (HSH.out.kept HOX.out (fun b e => e))
            obtain ⟨o, hao, hcell⟩ := HSR.out.at_ (by omega)
            have HRG0 := hide (hcell j hlt)
            have HLT0 : Hid (B < wr.heap.size) := HSR.out.lt (by omega)
            have HNB : Hid (¬ W0.heap.size ≤ B) := by have := HSH.out.lt (by omega); show ¬ W0.heap.size ≤ B; omega
            have HSO := hide (HSR.out.each _ (List.getElem_mem hlt))
            have HSL := hide ((HSH.out.each _ (List.getElem_mem hlt)).low)
            subst hao
            obtain ⟨s, hs⟩ : ∃ s, l[j] = s := ⟨_, rfl⟩
            rw [hs] at HRG0 HSO HSL
            clear hs hcell HSR
            have hj0 : (0 : Int) ≤ (j : Int) := by omega
            have hj1 : (j : Int) < (l.length : Int) := by omega
            go_wp2_with fail
            refine (Want_any wr Z p P HP.out).mono ?_
            rintro x w2 ⟨rfl, ho⟩
            have HX2 := hide ho
            clear ho
            have HC2 := hide (Cb.new w2 [.int .i64 0, .string ⟨#[]⟩, .int .i64 0, .int .i64 0] 32)
            have HY2 := hide (onlyA w2 (.cells #[.int .i64 0, .string ⟨#[]⟩, .int .i64 0, .int .i64 0] 32))
            unfold Pn.want
            go_upto_region 10 with (refine wpList_put_cb rfl 32 (.tmp 8) (.tmp 43) (by rfl) w2.heap.size (by rfl) [.int .i64 0, .string ⟨#[]⟩, .int .i64 0, .int .i64 0] [.int .i64 P.wk, .string P.wkey, .int .i64 P.ws, .int .i64 P.wp] (by rfl) (by exact Tryz.sizeWant) (by rfl) (by rfl) HC2.out ?_; intro W3 HW3; go_frame)
            have HX3 : Hid (Only (fun _ => False) wr W3) := (o2 HX2.out HY2.out).trans HW3.out.2 (fun i hi e => by have q : i = w2.heap.size := e; have := HX2.out.size; omega)
            have HPGR : Hid (W3.rangeAt B (o + j * 22 + 1) (pvS s).ar.toList) := show_page HRG0.out HX3.out HLT0.out
            have HND := hide (fun W (h : Pm W Z p P) => Need_no W Z p P h HRD.out.wk.2 (pvS s))
            go_cut [61] (fun x wx => x = .bool false ∧ ∃ w4, w4 = wx ∧ Hid (Only (fun _ => False) W3 w4))
            case first =>
              have d0 := HW3.out.1.c 0 _ rfl
              rcases HRD.out.wk.1 with hwk | hwk
              all_goals rw [hwk] at d0
              all_goals go_wp2_with (refine wpList_loadg_pv rfl (.tmp 57) rfl B (o + j * 22 + 1) rfl (pvS s) HPGR.out ?_; go_frame)
              all_goals refine (HND.out W3 (HP.out.more HX3.out)).mono ?_
              all_goals rintro x w4 ⟨rfl, ho⟩
              all_goals have HO4 := hide ho
              all_goals clear ho
              all_goals go_wp2_with fail
              all_goals go_meet
              all_goals exact ⟨rfl, _, rfl, HO4⟩
            case rest =>
              obtain ⟨rfl, w4, hw4, HX4⟩ := hcut
              subst hw4
              have HP4 := hide (HP.out.more (o2 HX3.out HX4.out))
              have HO4 : Hid (Only (fun k => W0.heap.size ≤ k) w1 w4) := HOW.out.trans ((o2 HX3.out HX4.out).mono (fun _ _ e => e.elim)) (fun _ _ e => e)
              have HRG := hide (show_all HRG0.out (o2 HX3.out HX4.out) HLT0.out)
              have HLT : Hid (B < w4.heap.size) := Nat.lt_of_lt_of_le HLT0.out (o2 HX3.out HX4.out).size
              have HS4 := hide (HSO.out.more (o2 HX3.out HX4.out))
              have HN4 : Hid (W0.heap.size ≤ w4.heap.size) := Nat.le_trans HX1.out.size HO4.out.size
              have HPG : Hid (∀ W, Only (fun _ => False) w4 W → Calls Tryz.prog 12 #[.pointer (some ⟨p, 0, none⟩), .agg (vvO s.V s.q).ar, .agg (pvS s).ar, .slice none 0 0] W (PgR a W0.heap.size Z p W)) := fun W ho => page_R W Z p P (HP4.out.more ho) a HAS.out HRD.out s _ (HS4.out.more ho) HSL.out HZN.out (Nat.le_trans HN4.out ho.size)
              clear HND HPGR HX3 HX4 HW3 HC2 HY2 HX2
              go_upto_region 12 with fail
              go_cut [9, 10] (fun x y wx => ∃ b, x = .pointer (some ⟨b, 0, none⟩) ∧ y = .bool false ∧ ∃ Z2 P2, Hid (Pm wx Z2 p P2) ∧ Hid (RdI a P2) ∧ Hid (∀ b, Z2 b → W0.heap.size ≤ b) ∧ Hid (Only (fun k => W0.heap.size ≤ k) w4 wx))
              case first =>
                refine wp_region_noPanic ?_
                refine wp_region_held_drew (S := fun W => Only (fun k => W0.heap.size ≤ k) w4 W) (by kernel_rfl) (Only.drew _ _) (fun hHeld => ?_)
                refine wpAnyH_take (i := 0) (oi := { dst := some 63, op := Op.move (Operand.tmp 5), type := 27, pos := "law.go:131", after := #[], guard := none }) (v := .pointer (some ⟨p, 0, none⟩)) rfl (by kernel_rfl) (by kernel_rfl) (by kernel_rfl) (fun _ _ _ h => h) (Or.inl ⟨by rfl, fun w' hSw => by clear hSw; go_simp⟩) (by assumption) ?_
                simp only [Act.put, List.setIfInBounds_toArray, List.set_cons_zero, List.set_cons_succ]
                refine wpAnyH_take (i := 1) (oi := { dst := some 64, op := Op.move (Operand.tmp 1), type := 25, pos := "law.go:131", after := #[], guard := none }) (v := .slice (some ⟨B, o, none⟩) l.length cp) rfl (by kernel_rfl) (by kernel_rfl) (by kernel_rfl) (fun _ _ _ h => h) (Or.inl ⟨by rfl, fun w' hSw => by clear hSw; go_simp⟩) (by assumption) ?_
                simp only [Act.put, List.setIfInBounds_toArray, List.set_cons_zero, List.set_cons_succ]
                refine wpAnyH_take (i := 2) (oi := { dst := some 65, op := Op.move (Operand.tmp 7), type := 3, pos := "law.go:131", after := #[], guard := none }) (v := .int .i64 (j : Int)) rfl (by kernel_rfl) (by kernel_rfl) (by kernel_rfl) (fun _ _ _ h => h) (Or.inl ⟨by rfl, fun w' hSw => by clear hSw; go_simp⟩) (by assumption) ?_
                simp only [Act.put, List.setIfInBounds_toArray, List.set_cons_zero, List.set_cons_succ]
                refine wpAnyH_take (i := 6) (oi := { dst := some 69, op := Op.move (Operand.tmp 1), type := 25, pos := "law.go:131", after := #[], guard := none }) (v := .slice (some ⟨B, o, none⟩) l.length cp) rfl (by kernel_rfl) (by kernel_rfl) (by kernel_rfl) (fun _ _ _ h => h) (Or.inl ⟨by rfl, fun w' hSw => by clear hSw; go_simp⟩) (by assumption) ?_
                simp only [Act.put, List.setIfInBounds_toArray, List.set_cons_zero, List.set_cons_succ]
                refine wpAnyH_take (i := 7) (oi := { dst := some 70, op := Op.move (Operand.tmp 7), type := 3, pos := "law.go:131", after := #[], guard := none }) (v := .int .i64 (j : Int)) rfl (by kernel_rfl) (by kernel_rfl) (by kernel_rfl) (fun _ _ _ h => h) (Or.inl ⟨by rfl, fun w' hSw => by clear hSw; go_simp⟩) (by assumption) ?_
                simp only [Act.put, List.setIfInBounds_toArray, List.set_cons_zero, List.set_cons_succ]
                refine wpAnyH_take (i := 3) (oi := { dst := some 66, op := Op.indexAddr 25 (Operand.tmp 64) (Operand.tmp 65), type := 0, pos := "law.go:131", after := #[{ on := 1, ground := Ground.data }, { on := 2, ground := Ground.data }], guard := none }) (v := .pointer (some ⟨B, o + j * 22, none⟩)) rfl (by kernel_rfl) (by kernel_rfl) (by kernel_rfl) (fun _ _ _ h => h) (Or.inl ⟨by rfl, fun w' hSw => by clear hSw; go_simp⟩) (by assumption) ?_
                simp only [Act.put, List.setIfInBounds_toArray, List.set_cons_zero, List.set_cons_succ]
                refine wpAnyH_take (i := 8) (oi := { dst := some 71, op := Op.indexAddr 25 (Operand.tmp 69) (Operand.tmp 70), type := 0, pos := "law.go:131", after := #[{ on := 6, ground := Ground.data }, { on := 7, ground := Ground.data }], guard := none }) (v := .pointer (some ⟨B, o + j * 22, none⟩)) rfl (by kernel_rfl) (by kernel_rfl) (by kernel_rfl) (fun _ _ _ h => h) (Or.inl ⟨by rfl, fun w' hSw => by clear hSw; go_simp⟩) (by assumption) ?_
                simp only [Act.put, List.setIfInBounds_toArray, List.set_cons_zero, List.set_cons_succ]
                refine wpAnyH_take (i := 4) (oi := { dst := some 67, op := Op.fieldAddr 44 (Operand.tmp 66) 2, type := 0, pos := "law.go:131", after := #[{ on := 3, ground := Ground.data }], guard := none }) (v := .pointer (some ⟨B, o + j * 22 + 7, none⟩)) rfl (by kernel_rfl) (by kernel_rfl) (by kernel_rfl) (fun _ _ _ h => h) (Or.inl ⟨by rfl, fun w' hSw => by clear hSw; go_simp⟩) (by assumption) ?_
                simp only [Act.put, List.setIfInBounds_toArray, List.set_cons_zero, List.set_cons_succ]
                refine wpAnyH_take (i := 9) (oi := { dst := some 72, op := Op.fieldAddr 44 (Operand.tmp 71) 1, type := 0, pos := "law.go:131", after := #[{ on := 8, ground := Ground.data }], guard := none }) (v := .pointer (some ⟨B, o + j * 22 + 1, none⟩)) rfl (by kernel_rfl) (by kernel_rfl) (by kernel_rfl) (fun _ _ _ h => h) (Or.inl ⟨by rfl, fun w' hSw => by clear hSw; go_simp⟩) (by assumption) ?_
                simp only [Act.put, List.setIfInBounds_toArray, List.set_cons_zero, List.set_cons_succ]
                refine wpAnyH_take (i := 5) (oi := { dst := some 68, op := Op.load 42 (Operand.tmp 67), type := 42, pos := "law.go:131", after := #[{ on := 4, ground := Ground.data }], guard := none }) (v := .agg (vvO s.V s.q).ar) rfl (by kernel_rfl) (by kernel_rfl) (by kernel_rfl) (fun _ _ _ h => h) (yieldsIf_load_viewR (V := vvO s.V s.q) (by rfl) _ rfl rfl (fun W hW => show_viewS HRG.out hW HLT.out HNB.out)) (by assumption) ?_
                simp only [Act.put, List.setIfInBounds_toArray, List.set_cons_zero, List.set_cons_succ]
                refine wpAnyH_take (i := 10) (oi := { dst := some 73, op := Op.load 37 (Operand.tmp 72), type := 37, pos := "law.go:131", after := #[{ on := 9, ground := Ground.data }], guard := none }) (v := .agg (pvS s).ar) rfl (by kernel_rfl) (by kernel_rfl) (by kernel_rfl) (fun _ _ _ h => h) (yieldsIf_load_pageR (B := pvS s) (by rfl) _ rfl rfl (fun W hW => show_pageS HRG.out hW HLT.out HNB.out)) (by assumption) ?_
                simp only [Act.put, List.setIfInBounds_toArray, List.set_cons_zero, List.set_cons_succ]
                refine wpAnyH_ready (rs := [11, 15]) (by kernel_rfl) (by simp) ?_
                refine AllReadyH.cons (o := { dst := some 74, op := Op.call { callee := Callee.value (Operand.func 12), args := #[Operand.tmp 63, Operand.tmp 68, Operand.tmp 73, Operand.const (Value.slice none 0 0)], argTypes := #[27, 42, 37, 38] }, type := 51, pos := "law.go:131", after := #[{ on := 0, ground := Ground.data }, { on := 5, ground := Ground.data }, { on := 10, ground := Ground.data }], guard := none }) rfl (fun K hK => ?_) (AllReadyH.cons (o := { dst := some 9, op := Op.alloc 50, type := 0, pos := "law.go:131", after := #[], guard := none }) rfl (fun K hK => ?_) (AllReadyH.nil))
                · go_simp
                  refine (HPG.out w4.drew (Only.drew _ _)).mono ?_
                  rintro x w5 ⟨rfl, Z2, P2, hz2, hn2, hp2, ho, hr2⟩
                  have HZ2 := hide hz2
                  have HN2 := hide hn2
                  have HP2 := hide hp2
                  have HR2 := hide hr2
                  have HO2 := hide (hHeld.trans ho (fun _ _ e => HZN.out _ e))
                  clear hz2 hn2 hp2 ho hr2
                  refine hK.out _ _ (HO2.out) (fun hHeld => ?_)
                  clear hK K
                  try simp only [Act.put, List.setIfInBounds_toArray, List.set_cons_zero, List.set_cons_succ]
                  refine wpAnyH_take (i := 12) (oi := { dst := some 62, op := Op.move (Operand.tmp 74), type := 51, pos := "law.go:131", after := #[{ on := 11, ground := Ground.data }], guard := none }) (v := .tuple #[.agg Hr.none.cells, .bool false]) rfl (by kernel_rfl) (by kernel_rfl) (by kernel_rfl) (fun _ _ _ h => h) (Or.inl ⟨by rfl, fun w' hSw => by clear hSw; go_simp⟩) (by assumption) ?_
                  simp only [Act.put, List.setIfInBounds_toArray, List.set_cons_zero, List.set_cons_succ]
                  refine wpAnyH_take (i := 13) (oi := { dst := some 75, op := Op.extract (Operand.tmp 62) 0, type := 50, pos := "law.go:131", after := #[{ on := 12, ground := Ground.data }], guard := none }) (v := .agg Hr.none.cells) rfl (by kernel_rfl) (by kernel_rfl) (by kernel_rfl) (fun _ _ _ h => h) (Or.inl ⟨by rfl, fun w' hSw => by clear hSw; go_simp⟩) (by assumption) ?_
                  simp only [Act.put, List.setIfInBounds_toArray, List.set_cons_zero, List.set_cons_succ]
                  refine wpAnyH_take (i := 14) (oi := { dst := some 76, op := Op.extract (Operand.tmp 62) 1, type := 4, pos := "law.go:131", after := #[{ on := 12, ground := Ground.data }, { on := 16, ground := Ground.gcOnly Departure.lateStores }], guard := none }) (v := .bool false) rfl (by kernel_rfl) (by kernel_rfl) (by kernel_rfl) (fun _ _ _ h => h) (Or.inl ⟨by rfl, fun w' hSw => by clear hSw; go_simp⟩) (by assumption) ?_
                  simp only [Act.put, List.setIfInBounds_toArray, List.set_cons_zero, List.set_cons_succ]
                  refine wpAnyH_ready (rs := [15]) (by kernel_rfl) (by simp) ?_
                  refine AllReadyH.cons (o := { dst := some 9, op := Op.alloc 50, type := 0, pos := "law.go:131", after := #[], guard := none }) rfl (fun K hK => ?_) (AllReadyH.nil)
                  go_simp
                  have HCB := hide (Cb.new w5 Hr.none.cl 50)
                  have HO3 := hide (HO2.out.trans ((onlyA w5 (.cells Hr.none.cells 50)).mono (fun _ _ e => e.elim)) (fun _ _ e => e))
                  refine hK.out _ _ (HO3.out) (fun hHeld => ?_)
                  clear hK K
                  try simp only [Act.put, List.setIfInBounds_toArray, List.set_cons_zero, List.set_cons_succ]
                  refine wpAnyH_ready (rs := [16]) (by kernel_rfl) (by simp) ?_
                  refine AllReadyH.cons (o := { dst := none, op := Op.store 50 (Operand.tmp 9) (Operand.tmp 75), type := 0, pos := "law.go:131", after := #[{ on := 15, ground := Ground.data }, { on := 13, ground := Ground.data }, { on := 11, ground := Ground.chain }, { on := 0, ground := Ground.phase }, { on := 1, ground := Ground.phase }, { on := 2, ground := Ground.phase }, { on := 3, ground := Ground.phase }, { on := 4, ground := Ground.phase }, { on := 5, ground := Ground.phase }, { on := 6, ground := Ground.phase }, { on := 7, ground := Ground.phase }, { on := 8, ground := Ground.phase }, { on := 9, ground := Ground.phase }, { on := 10, ground := Ground.phase }, { on := 11, ground := Ground.phase }, { on := 12, ground := Ground.phase }, { on := 13, ground := Ground.phase }, { on := 14, ground := Ground.textOnly Departure.lateStores }, { on := 15, ground := Ground.phase }], guard := none }) rfl (fun K hK => ?_) (AllReadyH.nil)
                  rw [if_pos (by rfl)]
                  have HTH : Hid ((w5.alloc (.cells Hr.none.cells 50)).there w5.heap.size 0 Hr.none.cells.size) := by exact HCB.out.rg.there
                  refine wp_store_mid 50 (.tmp 9) (.tmp 75) rfl w5.heap.size 0 Hr.none.cells rfl rfl HTH.out Tryz.sizeRecF (by simp [Value.oneCell']) ?_
                  have HLB : Hid (w4.heap.size ≤ w5.heap.size) := HO2.out.size
                  have HSC := hide (only_setCells w5.heap.size Hr.none.cl 0 (w5.alloc (.cells Hr.none.cells 50)))
                  have HO4 := hide (HO3.out.trans HSC.out (fun i hi e => by have q : i = w5.heap.size := e; have q2 := HLB.out; omega))
                  have HP5 := hide ((HP2.out.more (onlyA w5 (.cells Hr.none.cells 50))).kept HSC.out (fun k hk e => by have q : k = w5.heap.size := e; subst q; exact absurd (HP2.out.zlt _ hk) (Nat.lt_irrefl _)))
                  refine hK.out _ _ (HO4.out) (fun hHeld => ?_)
                  clear hK K
                  simp only [Act.put]
                  refine wpAnyH_take (i := 17) (oi := { dst := some 10, op := Op.assign (Operand.tmp 76), type := 4, pos := "law.go:131", after := #[{ on := 14, ground := Ground.data }, { on := 16, ground := Ground.chain }, { on := 0, ground := Ground.phase }, { on := 1, ground := Ground.phase }, { on := 2, ground := Ground.phase }, { on := 3, ground := Ground.phase }, { on := 4, ground := Ground.phase }, { on := 5, ground := Ground.phase }, { on := 6, ground := Ground.phase }, { on := 7, ground := Ground.phase }, { on := 8, ground := Ground.phase }, { on := 9, ground := Ground.phase }, { on := 10, ground := Ground.phase }, { on := 11, ground := Ground.phase }, { on := 12, ground := Ground.phase }, { on := 13, ground := Ground.phase }, { on := 14, ground := Ground.phase }, { on := 15, ground := Ground.phase }, { on := 16, ground := Ground.phase }], guard := none }) (v := .bool false) rfl (by kernel_rfl) (by kernel_rfl) (by kernel_rfl) (fun _ _ _ h => h) (Or.inl ⟨by rfl, fun w' hSw => by clear hSw; go_simp⟩) (by assumption) ?_
                  simp only [Act.put, List.setIfInBounds_toArray, List.set_cons_zero, List.set_cons_succ]
                  refine wpAnyH_done (by kernel_rfl) ?_ _
                  refine NoPanic.normal ?_
                  go_wp2_with fail
                  go_meet
                  exact ⟨_, rfl, rfl, _, _, HP5, HR2, HN2, hHeld⟩
                · go_simp
                  refine hK.out _ _ (hHeld.trans ((onlyA _ _).mono (fun _ _ e => e.elim)) (fun _ _ e => e)) (fun hHeld => ?_)
                  clear hK K
                  try simp only [Act.put, List.setIfInBounds_toArray, List.set_cons_zero, List.set_cons_succ]
                  refine wpAnyH_ready (rs := [11]) (by kernel_rfl) (by simp) ?_
                  refine AllReadyH.cons (o := { dst := some 74, op := Op.call { callee := Callee.value (Operand.func 12), args := #[Operand.tmp 63, Operand.tmp 68, Operand.tmp 73, Operand.const (Value.slice none 0 0)], argTypes := #[27, 42, 37, 38] }, type := 51, pos := "law.go:131", after := #[{ on := 0, ground := Ground.data }, { on := 5, ground := Ground.data }, { on := 10, ground := Ground.data }], guard := none }) rfl (fun K hK => ?_) (AllReadyH.nil)
                  go_simp
                  refine (HPG.out (w4.drew.alloc (.cells Hr.none.cells 50)) (o2 (Only.drew _ _) (onlyA _ _))).mono ?_
                  rintro x w5 ⟨rfl, Z2, P2, hz2, hn2, hp2, ho, hr2⟩
                  have HZ2 := hide hz2
                  have HN2 := hide hn2
                  have HP2 := hide hp2
                  have HR2 := hide hr2
                  have HO2 := hide (hHeld.trans ho (fun _ _ e => HZN.out _ e))
                  have HCB := hide ((Cb.new w4.drew Hr.none.cl 50).kept ho (fun e => absurd (HP4.out.zlt _ e) (Nat.lt_irrefl _)))
                  clear hz2 hn2 hp2 ho hr2
                  refine hK.out _ _ (HO2.out) (fun hHeld => ?_)
                  clear hK K
                  try simp only [Act.put, List.setIfInBounds_toArray, List.set_cons_zero, List.set_cons_succ]
                  refine wpAnyH_take (i := 12) (oi := { dst := some 62, op := Op.move (Operand.tmp 74), type := 51, pos := "law.go:131", after := #[{ on := 11, ground := Ground.data }], guard := none }) (v := .tuple #[.agg Hr.none.cells, .bool false]) rfl (by kernel_rfl) (by kernel_rfl) (by kernel_rfl) (fun _ _ _ h => h) (Or.inl ⟨by rfl, fun w' hSw => by clear hSw; go_simp⟩) (by assumption) ?_
                  simp only [Act.put, List.setIfInBounds_toArray, List.set_cons_zero, List.set_cons_succ]
                  refine wpAnyH_take (i := 13) (oi := { dst := some 75, op := Op.extract (Operand.tmp 62) 0, type := 50, pos := "law.go:131", after := #[{ on := 12, ground := Ground.data }], guard := none }) (v := .agg Hr.none.cells) rfl (by kernel_rfl) (by kernel_rfl) (by kernel_rfl) (fun _ _ _ h => h) (Or.inl ⟨by rfl, fun w' hSw => by clear hSw; go_simp⟩) (by assumption) ?_
                  simp only [Act.put, List.setIfInBounds_toArray, List.set_cons_zero, List.set_cons_succ]
                  refine wpAnyH_take (i := 14) (oi := { dst := some 76, op := Op.extract (Operand.tmp 62) 1, type := 4, pos := "law.go:131", after := #[{ on := 12, ground := Ground.data }, { on := 16, ground := Ground.gcOnly Departure.lateStores }], guard := none }) (v := .bool false) rfl (by kernel_rfl) (by kernel_rfl) (by kernel_rfl) (fun _ _ _ h => h) (Or.inl ⟨by rfl, fun w' hSw => by clear hSw; go_simp⟩) (by assumption) ?_
                  simp only [Act.put, List.setIfInBounds_toArray, List.set_cons_zero, List.set_cons_succ]
                  refine wpAnyH_ready (rs := [16]) (by kernel_rfl) (by simp) ?_
                  refine AllReadyH.cons (o := { dst := none, op := Op.store 50 (Operand.tmp 9) (Operand.tmp 75), type := 0, pos := "law.go:131", after := #[{ on := 15, ground := Ground.data }, { on := 13, ground := Ground.data }, { on := 11, ground := Ground.chain }, { on := 0, ground := Ground.phase }, { on := 1, ground := Ground.phase }, { on := 2, ground := Ground.phase }, { on := 3, ground := Ground.phase }, { on := 4, ground := Ground.phase }, { on := 5, ground := Ground.phase }, { on := 6, ground := Ground.phase }, { on := 7, ground := Ground.phase }, { on := 8, ground := Ground.phase }, { on := 9, ground := Ground.phase }, { on := 10, ground := Ground.phase }, { on := 11, ground := Ground.phase }, { on := 12, ground := Ground.phase }, { on := 13, ground := Ground.phase }, { on := 14, ground := Ground.textOnly Departure.lateStores }, { on := 15, ground := Ground.phase }], guard := none }) rfl (fun K hK => ?_) (AllReadyH.nil)
                  rw [if_pos (by rfl)]
                  have HTH : Hid (w5.there w4.heap.size 0 Hr.none.cells.size) := by exact HCB.out.rg.there
                  refine wp_store_mid 50 (.tmp 9) (.tmp 75) rfl w4.heap.size 0 Hr.none.cells rfl rfl HTH.out Tryz.sizeRecF (by simp [Value.oneCell']) ?_
                  have HLB : Hid (w4.heap.size ≤ w4.heap.size) := Nat.le_refl _
                  have HSC := hide (only_setCells w4.heap.size Hr.none.cl 0 w5)
                  have HO4 := hide (HO2.out.trans HSC.out (fun i hi e => by have q : i = w4.heap.size := e; have q2 := HLB.out; omega))
                  have HP5 := hide (HP2.out.kept HSC.out (fun k hk e => by have q : k = w4.heap.size := e; subst q; exact absurd (HP4.out.zlt _ (HZ2.out _ (Cb.new w4.drew Hr.none.cl 50).lt hk)) (Nat.lt_irrefl _)))
                  refine hK.out _ _ (HO4.out) (fun hHeld => ?_)
                  clear hK K
                  simp only [Act.put]
                  refine wpAnyH_take (i := 17) (oi := { dst := some 10, op := Op.assign (Operand.tmp 76), type := 4, pos := "law.go:131", after := #[{ on := 14, ground := Ground.data }, { on := 16, ground := Ground.chain }, { on := 0, ground := Ground.phase }, { on := 1, ground := Ground.phase }, { on := 2, ground := Ground.phase }, { on := 3, ground := Ground.phase }, { on := 4, ground := Ground.phase }, { on := 5, ground := Ground.phase }, { on := 6, ground := Ground.phase }, { on := 7, ground := Ground.phase }, { on := 8, ground := Ground.phase }, { on := 9, ground := Ground.phase }, { on := 10, ground := Ground.phase }, { on := 11, ground := Ground.phase }, { on := 12, ground := Ground.phase }, { on := 13, ground := Ground.phase }, { on := 14, ground := Ground.phase }, { on := 15, ground := Ground.phase }, { on := 16, ground := Ground.phase }], guard := none }) (v := .bool false) rfl (by kernel_rfl) (by kernel_rfl) (by kernel_rfl) (fun _ _ _ h => h) (Or.inl ⟨by rfl, fun w' hSw => by clear hSw; go_simp⟩) (by assumption) ?_
                  simp only [Act.put, List.setIfInBounds_toArray, List.set_cons_zero, List.set_cons_succ]
                  refine wpAnyH_done (by kernel_rfl) ?_ _
                  refine NoPanic.normal ?_
                  go_wp2_with fail
                  go_meet
                  exact ⟨_, rfl, rfl, _, _, HP5, HR2, HN2, hHeld⟩
              case rest =>
                obtain ⟨b, rfl, rfl, Z2, P2, HP5, HR5, HN5, HO5⟩ := hcut
                go_wp2_with fail
                go_roundw
                case rel => exact ⟨j + 1, by omega, by go_num, Z2, P2, HP5, HR5, HN5, hide (HO4.out.trans HO5.out (fun _ _ e => e))⟩
                case measure => simp [intOf]; omega
          · have HBR := hide (HB1.out.kept HOW.out (fun e => by have q : W0.heap.size ≤ w.heap.size := e; have := HBW.out; omega))
            obtain ⟨m, hm⟩ : ∃ m, (if a.n < 0 then (0 : Int) else a.n) = m := ⟨_, rfl⟩
            have HM : Hid (max a.n 0 = m) := by show max a.n 0 = m; rw [← hm]; split <;> omega
            have HRP : Hid (∀ W, Pm W Z p P → Calls Tryz.prog 13 #[.pointer (some ⟨p, 0, none⟩)] W fun e w' => ∃ A L C er f v, e = .returned (.agg #[.int .i64 er, .bool f, .string v, .slice A L C]) ∧ (L : Int) ≤ m ∧ Only (fun _ => False) W w') := fun W h => by
              have q := reply_R W Z p P h a HRD.out
              unfold RpR at q
              rw [HM.out] at q
              exact q
            have hfr : ∀ (W : World) er f v A L C, (Instr.field 55 (.agg #[.int .i64 er, .bool f, .string v, .slice A L C]) 3).run Tryz.prog W = .ok (.slice A L C) W := fun _ _ _ _ _ _ _ => by kernel_rfl
            have hmx : max a.n 0 = m := HM.out
            go_upto_region 15 with fail
            go_cut [4] (fun x wx => x = .bool true ∧ Hid (Only (fun _ => False) wr wx))
            case first =>
              refine wp_region_noPanic ?_
              refine wp_region_held_drew (S := fun W => Only (fun _ => False) wr W) (by kernel_rfl) (Only.drew _ _) (fun hHeld => ?_)
              refine wpAnyH_take (i := 0) (oi := { dst := some 78, op := Op.move (Operand.tmp 5), type := 27, pos := "law.go:136", after := #[], guard := none }) (v := .pointer (some ⟨p, 0, none⟩)) rfl (by kernel_rfl) (by kernel_rfl) (by kernel_rfl) (fun _ _ _ h => h) (Or.inl ⟨by rfl, fun w' hSw => by clear hSw; go_simp⟩) (by assumption) ?_
              simp only [Act.put, List.setIfInBounds_toArray, List.set_cons_zero, List.set_cons_succ]
              refine wpAnyH_take (i := 4) (oi := { dst := some 82, op := Op.fieldAddr 24 (Operand.tmp 2) 4, type := 0, pos := "law.go:136", after := #[], guard := none }) (v := .pointer (some ⟨w.heap.size, 4, none⟩)) rfl (by kernel_rfl) (by kernel_rfl) (by kernel_rfl) (fun _ _ _ h => h) (Or.inl ⟨by rfl, fun w' hSw => by clear hSw; go_simp⟩) (by assumption) ?_
              simp only [Act.put, List.setIfInBounds_toArray, List.set_cons_zero, List.set_cons_succ]
              refine wpAnyH_take (i := 5) (oi := { dst := some 83, op := Op.load 3 (Operand.tmp 82), type := 3, pos := "law.go:136", after := #[{ on := 4, ground := Ground.data }], guard := none }) (v := .int .i64 a.n) rfl (by kernel_rfl) (by kernel_rfl) (by kernel_rfl) (fun _ _ _ h => h) (yieldsIf_load_cell (by rfl) 3 _ rfl _ rfl (fun W hW => (HBR.out.more hW).c 4 _ rfl) (fun W hc => ld_int hc)) (by assumption) ?_
              simp only [Act.put, List.setIfInBounds_toArray, List.set_cons_zero, List.set_cons_succ]
              refine wpAnyH_take (i := 6) (oi := { dst := some 84, op := Op.call { callee := Callee.builtin Builtin.max, args := #[Operand.tmp 83, Operand.const (Value.int IntKind.i64 0)], argTypes := #[3, 3] }, type := 3, pos := "law.go:136", after := #[{ on := 5, ground := Ground.data }], guard := none }) (v := .int .i64 m) rfl (by kernel_rfl) (by kernel_rfl) (by kernel_rfl) (fun _ _ _ h => h) (Or.inl ⟨by rfl, fun w' hSw => by clear hSw; go_simp⟩) (by assumption) ?_
              simp only [Act.put, List.setIfInBounds_toArray, List.set_cons_zero, List.set_cons_succ]
              refine wpAnyH_ready (rs := [1]) (by kernel_rfl) (by simp) ?_
              refine AllReadyH.cons (o := { dst := some 79, op := Op.call { callee := Callee.value (Operand.func 13), args := #[Operand.tmp 78], argTypes := #[27] }, type := 55, pos := "law.go:136", after := #[{ on := 0, ground := Ground.data }], guard := none }) rfl (fun K hK => ?_) (AllReadyH.nil)
              go_simp
              refine (HRP.out _ (HP.out.more hHeld)).mono ?_
              rintro x v1 ⟨A, L, C, er, f, v, rfl, hL, ho⟩
              have HV1 := hide (o2 hHeld ho)
              have hLm : ((L : Int) ≤ m) = True := eq_true hL
              clear ho
              refine hK.out _ _ (HV1.out) (fun hHeld => ?_)
              clear hK K
              try simp only [Act.put, List.setIfInBounds_toArray, List.set_cons_zero, List.set_cons_succ]
              refine wpAnyH_take (i := 2) (oi := { dst := some 80, op := Op.field 55 (Operand.tmp 79) 3, type := 53, pos := "law.go:136", after := #[{ on := 1, ground := Ground.data }], guard := none }) (v := .slice A L C) rfl (by kernel_rfl) (by kernel_rfl) (by kernel_rfl) (fun _ _ _ h => h) (Or.inl ⟨by rfl, fun w' hSw => by clear hSw; go_simp⟩) (by assumption) ?_
              simp only [Act.put, List.setIfInBounds_toArray, List.set_cons_zero, List.set_cons_succ]
              refine wpAnyH_take (i := 3) (oi := { dst := some 81, op := Op.call { callee := Callee.builtin Builtin.len, args := #[Operand.tmp 80], argTypes := #[53] }, type := 3, pos := "law.go:136", after := #[{ on := 2, ground := Ground.data }], guard := none }) (v := .int .i64 (L : Int)) rfl (by kernel_rfl) (by kernel_rfl) (by kernel_rfl) (fun _ _ _ h => h) (Or.inl ⟨by rfl, fun w' hSw => by clear hSw; go_simp⟩) (by assumption) ?_
              simp only [Act.put, List.setIfInBounds_toArray, List.set_cons_zero, List.set_cons_succ]
              refine wpAnyH_take (i := 7) (oi := { dst := some 85, op := Op.binOp BinOp.leq 3 (Operand.tmp 81) (Operand.tmp 84) 3, type := 4, pos := "law.go:136", after := #[{ on := 3, ground := Ground.data }, { on := 6, ground := Ground.data }], guard := none }) (v := .bool true) rfl (by kernel_rfl) (by kernel_rfl) (by kernel_rfl) (fun _ _ _ h => h) (Or.inl ⟨by rfl, fun w' hSw => by clear hSw; go_simp⟩) (by assumption) ?_
              simp only [Act.put, List.setIfInBounds_toArray, List.set_cons_zero, List.set_cons_succ]
              refine wpAnyH_take (i := 8) (oi := { dst := some 86, op := Op.move (Operand.tmp 85), type := 4, pos := "law.go:136", after := #[{ on := 7, ground := Ground.data }, { on := 1, ground := Ground.chain }], guard := none }) (v := .bool true) rfl (by kernel_rfl) (by kernel_rfl) (by kernel_rfl) (fun _ _ _ h => h) (Or.inl ⟨by rfl, fun w' hSw => by clear hSw; go_simp⟩) (by assumption) ?_
              simp only [Act.put, List.setIfInBounds_toArray, List.set_cons_zero, List.set_cons_succ]
              refine wpAnyH_ready (rs := [9]) (by kernel_rfl) (by simp) ?_
              refine AllReadyH.cons (o := { dst := some 87, op := Op.call { callee := Callee.value (Operand.func 8), args := #[], argTypes := #[] }, type := 4, pos := "law.go:136", after := #[{ on := 8, ground := Ground.chain }, { on := 8, ground := Ground.guard }], guard := some (8, true) }) rfl (fun K hK => ?_) (AllReadyH.nil)
              go_simp
              refine (lwawake_any _).mono ?_
              rintro x v2 ⟨rfl, ho⟩
              have HV2 := hide (o2 hHeld ho)
              clear ho
              refine hK.out _ _ (HV2.out) (fun hHeld => ?_)
              clear hK K
              try simp only [Act.put, List.setIfInBounds_toArray, List.set_cons_zero, List.set_cons_succ]
              refine wpAnyH_take (i := 10) (oi := { dst := some 88, op := Op.pick (Operand.tmp 86) (Operand.tmp 87) (Operand.const (Value.bool false)), type := 4, pos := "law.go:136", after := #[{ on := 8, ground := Ground.data }, { on := 9, ground := Ground.data }], guard := none }) (v := .bool true) rfl (by kernel_rfl) (by kernel_rfl) (by kernel_rfl) (fun _ _ _ h => h) (Or.inl ⟨by rfl, fun w' hSw => by clear hSw; go_simp⟩) (by assumption) ?_
              simp only [Act.put, List.setIfInBounds_toArray, List.set_cons_zero, List.set_cons_succ]
              refine wpAnyH_take (i := 11) (oi := { dst := some 4, op := Op.assign (Operand.tmp 88), type := 4, pos := "law.go:136", after := #[{ on := 10, ground := Ground.data }, { on := 9, ground := Ground.chain }, { on := 0, ground := Ground.phase }, { on := 1, ground := Ground.phase }, { on := 2, ground := Ground.phase }, { on := 3, ground := Ground.phase }, { on := 4, ground := Ground.phase }, { on := 5, ground := Ground.phase }, { on := 6, ground := Ground.phase }, { on := 7, ground := Ground.phase }, { on := 8, ground := Ground.phase }, { on := 9, ground := Ground.phase }, { on := 10, ground := Ground.phase }], guard := none }) (v := .bool true) rfl (by kernel_rfl) (by kernel_rfl) (by kernel_rfl) (fun _ _ _ h => h) (Or.inl ⟨by rfl, fun w' hSw => by clear hSw; go_simp⟩) (by assumption) ?_
              simp only [Act.put, List.setIfInBounds_toArray, List.set_cons_zero, List.set_cons_succ]
              refine wpAnyH_done (by kernel_rfl) ?_ _
              refine NoPanic.normal ?_
              go_wp2_with fail
              go_meet
              exact ⟨rfl, hide hHeld⟩
            case rest =>
              obtain ⟨rfl, HO9⟩ := hcut
              go_wp2_with fail
              go_ret
              exact ⟨rfl, HO1.out.trans (HOW.out.trans HO9.out (fun _ _ e => e.elim)) (fun i hi e => by have q : W0.heap.size ≤ i := e; have := HBW.out; omega)⟩
  · have hb3 : (a.c != 2) = true := by simpa using (fun q => hch (.inl q))
    have hb4 : (a.c != 5) = true := by simpa using (fun q => hch (.inr q))
    clear hch HNN HNO
    go_enter Tryz.func3, Tryz.ntmps3
    go_upto_region 1 with fail
    rw [HW0.out]
    clear HW0
    go_wp2_with fail
    refine (lwawake_any W0).mono ?_
    rintro x w1 ⟨rfl, ho⟩
    have HO1 := hide (o2 HO.out ho)
    clear ho
    go_wp2_with fail
    go_ret
    exact ⟨rfl, HO1.out⟩
end Go.Proofs.YtajjakljheafjaaGreat
