/- Parts. -/
import Derived.Test.YtpnbhddmdfcjdaaGreatK11
import Derived.Test.YtpnbhddmdfcjdaaGreatK12
set_option maxRecDepth 100000
namespace Go.Proofs.YtpnbhddmdfcjdaaGreat
open Go.RowKit
theorem load_eb {w : World} {b o : Nat} {e : En} (h : Eb w b o e) : (loadVar 74 ⟨b, o, none⟩).run Tryz.prog w = .ok e.agg w := by
  have c0 := h.c0
  have c1 := h.c1
  have c2 := h.c2
  simp [loadVar, go_sem, c0, c1, c2, En.agg]
theorem Ev.eb {w : World} {b : Nat} {e : En} (h : Ev w b e) : Eb w b 0 e := ⟨h.c0, h.c1, h.c2, h.lt⟩
theorem yieldsIf_load_eb {ops : Array Oper} {S : World → Prop} {op : Oper} {a : Act} {e : En} (hw : Region.wanted op (yielded ops a.tmps) = true) (x : Operand) (ho : op.op = .load 74 x)
    {b o : Nat} (hx : a.eval x = .pointer (some ⟨b, o, none⟩)) (hS : ∀ w, S w → Eb w b o e) : YieldsIf Tryz.prog ops S op (.agg #[.string e.key, .int .i64 e.page, .int .i64 e.slot]) a :=
  .inl ⟨hw, fun w hw' => by
    unfold execOp
    simp only [ho, hx, Instr.loadAt, Instr.sureAddr, Sem.run_bind, Sem.run_pure, Result.andThen_ok, load_eb (hS w hw'), En.agg]⟩
theorem yieldsIf_load_ev {ops : Array Oper} {S : World → Prop} {op : Oper} {a : Act} {e : En} (hw : Region.wanted op (yielded ops a.tmps) = true) (x : Operand) (ho : op.op = .load 74 x)
    {b : Nat} (hx : a.eval x = .pointer (some ⟨b, 0, none⟩)) (hS : ∀ w, S w → Ev w b e) : YieldsIf Tryz.prog ops S op (.agg #[.string e.key, .int .i64 e.page, .int .i64 e.slot]) a :=
  yieldsIf_load_eb hw x ho hx (fun w h => (hS w h).eb)
theorem yieldsIf_load_cv {ops : Array Oper} {S : World → Prop} {op : Oper} {a : Act} {a1 a2 : Option Addr} {n1 n2 c1 c2 : Nat} {e : En} (hw : Region.wanted op (yielded ops a.tmps) = true) (x : Operand) (ho : op.op = .load 200 x)
    {b : Nat} (hx : a.eval x = .pointer (some ⟨b, 0, none⟩)) (hS : ∀ w, S w → Cv w b (.slice a1 n1 c1) (.slice a2 n2 c2) e) : YieldsIf Tryz.prog ops S op (.agg #[.slice a1 n1 c1, .slice a2 n2 c2, .string e.key, .int .i64 e.page, .int .i64 e.slot]) a :=
  .inl ⟨hw, fun w hw' => by
    unfold execOp
    simp only [ho, hx, Instr.loadAt, Instr.sureAddr, Sem.run_bind, Sem.run_pure, Result.andThen_ok, load_cv (hS w hw'), cvv]⟩
theorem yieldsIf_load_page {ops : Array Oper} {S : World → Prop} {op : Oper} {a : Act} {v0 v1 v2 v3 v4 v5 : Value} (hw : Region.wanted op (yielded ops a.tmps) = true) (x : Operand) (ho : op.op = .load 30 x)
    (b : Nat) (hx : a.eval x = .pointer (some ⟨b, 0, none⟩)) (hS : ∀ w, S w → Pag w b v0 v1 v2 v3 v4 v5) : YieldsIf Tryz.prog ops S op (.agg #[v0, v1, v2, v3, v4, v5]) a :=
  .inl ⟨hw, fun w hw' => by
    unfold execOp
    simp only [ho, hx, Instr.loadAt, Instr.sureAddr, Sem.run_bind, Sem.run_pure, Result.andThen_ok, load_page (hS w hw')]⟩
theorem yieldsIf_load_cell {ops : Array Oper} {S : World → Prop} {op : Oper} {a : Act} {v : Value} (hw : Region.wanted op (yielded ops a.tmps) = true) (ty : TypeId) (x : Operand) (ho : op.op = .load ty x)
    (p : Addr) (hx : a.eval x = .pointer (some p)) (hS : ∀ w, S w → w.cell? p = some v) (hl : ∀ w, w.cell? p = some v → (loadVar ty p).run Tryz.prog w = .ok v w) : YieldsIf Tryz.prog ops S op v a :=
  .inl ⟨hw, fun w hw' => by
    unfold execOp
    simp only [ho, hx, Instr.loadAt, Instr.sureAddr, Sem.run_bind, Sem.run_pure, Result.andThen_ok, hl w (hS w hw')]⟩
theorem ld_int {w : World} {p : Addr} {v : Value} (h : w.cell? p = some v) : (loadVar 3 p).run Tryz.prog w = .ok v w := by simp [loadVar, go_sem, h]
theorem ld_string {w : World} {p : Addr} {v : Value} (h : w.cell? p = some v) : (loadVar 9 p).run Tryz.prog w = .ok v w := by simp [loadVar, go_sem, h]
theorem ld_strings {w : World} {p : Addr} {v : Value} (h : w.cell? p = some v) : (loadVar 28 p).run Tryz.prog w = .ok v w := by simp [loadVar, go_sem, h]
theorem ld_entries {w : World} {p : Addr} {v : Value} (h : w.cell? p = some v) : (loadVar 37 p).run Tryz.prog w = .ok v w := by simp [loadVar, go_sem, h]
theorem ld_ints {w : World} {p : Addr} {v : Value} (h : w.cell? p = some v) : (loadVar 25 p).run Tryz.prog w = .ok v w := by simp [loadVar, go_sem, h]
/-- Variables of a node that is read: the page, what is answered, what was read. -/
structure Lc (w W : World) (a v r : Int) (h : ByteArray) (ao : Option Addr) (n cp cb : Nat) (x y : Value) (hi : En) (es : List En) (ks : List Int) : Prop where
  pag : Pag W w.heap.size (.int .i64 a) (.int .i64 3) (.int .i64 v) (.int .i64 r) (.string h) (.slice ao n cp)
  res : Cv W (w.heap.size + 1) (.slice none 0 0) (.slice none 0 0) noE
  con : Cv W cb x y hi
  ets : Ets W w.heap.size x es
  kts : Kts W w.heap.size y ks
  dis : ∀ k, x.ownBlock = some k → w.heap.size + 1 < k ∧ k ≠ cb ∧ y.ownBlock ≠ some k ∧ k < W.heap.size
  diy : ∀ k, y.ownBlock = some k → w.heap.size + 1 < k ∧ k ≠ cb ∧ k < W.heap.size
  cbl : w.heap.size + 1 < cb
  only : Only (fun _ => False) w W
theorem Lc.kept {w W W' : World} {a v r : Int} {h : ByteArray} {ao : Option Addr} {n cp cb : Nat} {x y : Value} {hi : En} {es : List En} {ks : List Int} {S : Nat → Prop} (H : Lc w W a v r h ao n cp cb x y hi es ks) (ho : Only S W W') (h0 : ∀ k, S k → w.heap.size + 1 < k) (h1 : ¬ S cb) (h2 : ∀ k, x.ownBlock = some k → ¬ S k) (h3 : ∀ k, y.ownBlock = some k → ¬ S k) : Lc w W' a v r h ao n cp cb x y hi es ks :=
  ⟨H.pag.kept ho (fun s => by have := h0 _ s; omega), H.res.kept ho (fun s => by have := h0 _ s; omega), H.con.kept ho h1, H.ets.kept ho h2, H.kts.kept ho h3, fun k hk => ⟨(H.dis k hk).1, (H.dis k hk).2.1, (H.dis k hk).2.2.1, Nat.lt_of_lt_of_le (H.dis k hk).2.2.2 ho.size⟩, fun k hk => ⟨(H.diy k hk).1, (H.diy k hk).2.1, Nat.lt_of_lt_of_le (H.diy k hk).2.2 ho.size⟩, H.cbl, H.only.trans ho (fun i hi s => by have := h0 _ s; omega)⟩
theorem Lc.more {w W W' : World} {a v r : Int} {h : ByteArray} {ao : Option Addr} {n cp cb : Nat} {x y : Value} {hi : En} {es : List En} {ks : List Int} (H : Lc w W a v r h ao n cp cb x y hi es ks) (ho : Only (fun _ => False) W W') : Lc w W' a v r h ao n cp cb x y hi es ks :=
  H.kept ho (fun _ h => h.elim) (fun h => h) (fun _ _ h => h) (fun _ _ h => h)
/-- One entry more: appended in W, laid in the variable. -/
theorem Lc.app {w W W1 : World} {a v r : Int} {h : ByteArray} {ao : Option Addr} {n cp cb : Nat} {x x' y : Value} {hi : En} {es es' : List En} {ks : List Int} (H : Lc w W a v r h ao n cp cb x y hi es ks) (he : Ets W1 w.heap.size x' es') (ho : Only (fun j => x.ownBlock = some j) W W1) (hx : x'.ownBlock = x.ownBlock ∨ ∃ g, x'.ownBlock = some g ∧ W.heap.size ≤ g ∧ g < W1.heap.size) : Lc w (W1.setCell ⟨cb, 0, none⟩ x') a v r h ao n cp cb x' y hi es' ks := by
  have hs : Only (fun k => k = cb) W1 (W1.setCell ⟨cb, 0, none⟩ x') := Only.setCell W1 ⟨cb, 0, none⟩ x' rfl
  have hcl := H.cbl
  have hlt := H.con.lt
  have d1 : ¬ x.ownBlock = some (w.heap.size) := fun e => by have := (H.dis _ e).1; omega
  have d2 : ¬ x.ownBlock = some (w.heap.size + 1) := fun e => by have := (H.dis _ e).1; omega
  have d3 : ¬ x.ownBlock = some cb := fun e => (H.dis _ e).2.1 rfl
  have hy : ∀ k, y.ownBlock = some k → ¬ x.ownBlock = some k := fun k hk e => (H.dis k e).2.2.1 hk
  have hxn : ∀ k, x'.ownBlock = some k → w.heap.size + 1 < k ∧ k ≠ cb ∧ y.ownBlock ≠ some k ∧ k < W1.heap.size := by
    intro k hk
    rcases hx with e | ⟨g, e, hg, hg2⟩
    · rw [e] at hk
      have := H.dis k hk
      exact ⟨this.1, this.2.1, this.2.2.1, Nat.lt_of_lt_of_le this.2.2.2 ho.size⟩
    · rw [e] at hk
      cases hk
      refine ⟨by omega, by omega, fun hyk => ?_, hg2⟩
      have := (H.diy _ hyk).2.2
      omega
  refine ⟨(H.pag.kept ho d1).kept hs (by omega), (H.res.kept ho d2).kept hs (by omega), (H.con.kept ho d3).s0 x', he.kept hs (fun k hk => (hxn k hk).2.1), (H.kts.kept ho hy).kept hs (fun k hk => (H.diy k hk).2.1), fun k hk => ?_, fun k hk => ?_, H.cbl, ?_⟩
  · have := hxn k hk
    exact ⟨this.1, this.2.1, this.2.2.1, Nat.lt_of_lt_of_le this.2.2.2 hs.size⟩
  · have := H.diy k hk
    exact ⟨this.1, this.2.1, Nat.lt_of_lt_of_le (Nat.lt_of_lt_of_le this.2.2 ho.size) hs.size⟩
  · exact (H.only.trans ho (fun i hi e => by have := (H.dis _ e).1; omega)).trans hs (fun i hi e => by omega)
/-- What readLeaf answers of a leaf. -/
def LfR (w w' : World) (e : Ending) (hi : En) (es : List En) : Prop := ∃ ao cp, e = .returned (.tuple #[cvv (.slice ao es.length cp) (.slice none 0 0) hi, .bool true]) ∧ Ets w' w.heap.size (.slice ao es.length cp) es ∧ Only (fun _ => False) w w'
theorem lf_new (w : World) (v0 v1 v2 v3 v4 v5 : Value) : Pag ((w.alloc (.cells #[v0, v1, v2, v3, v4, v5] 30)).alloc (.cells #[.slice none 0 0, .slice none 0 0, .string ⟨#[]⟩, .int .i64 0, .int .i64 0] 200)) w.heap.size v0 v1 v2 v3 v4 v5 ∧ Cv ((w.alloc (.cells #[v0, v1, v2, v3, v4, v5] 30)).alloc (.cells #[.slice none 0 0, .slice none 0 0, .string ⟨#[]⟩, .int .i64 0, .int .i64 0] 200)) (w.heap.size + 1) (.slice none 0 0) (.slice none 0 0) noE ∧ Only (fun _ => False) w ((w.alloc (.cells #[v0, v1, v2, v3, v4, v5] 30)).alloc (.cells #[.slice none 0 0, .slice none 0 0, .string ⟨#[]⟩, .int .i64 0, .int .i64 0] 200)) := by
  refine ⟨(Pag.new w v0 v1 v2 v3 v4 v5).more (onlyA _ _), ?_, o2 (onlyA _ _) (onlyA _ _)⟩
  have e1 := Cv.new (w.alloc (.cells #[v0, v1, v2, v3, v4, v5] 30)) (.slice none 0 0) (.slice none 0 0) noE
  rw [World.size_alloc] at e1
  exact e1
/-- The first variable of what was read. -/
theorem Lc.first {w W : World} {a v r : Int} {h : ByteArray} {ao : Option Addr} {n cp : Nat} {g c : Nat} {hi : En} (hp : Pag W w.heap.size (.int .i64 a) (.int .i64 3) (.int .i64 v) (.int .i64 r) (.string h) (.slice ao n cp)) (hr : Cv W (w.heap.size + 1) (.slice none 0 0) (.slice none 0 0) noE) (hc : Cv W c (.slice (some ⟨g, 0, none⟩) 0 n) (.slice none 0 0) hi) (he : Ets W w.heap.size (.slice (some ⟨g, 0, none⟩) 0 n) []) (h1 : w.heap.size + 1 < g) (h2 : w.heap.size + 1 < c) (h3 : g ≠ c) (hgl : g < W.heap.size) (ho : Only (fun _ => False) w W) :
    Lc w W a v r h ao n cp c (.slice (some ⟨g, 0, none⟩) 0 n) (.slice none 0 0) hi [] [] := by
  refine ⟨hp, hr, hc, he, Kts.nil _ _, fun k hk => ?_, (fun k hk => nomatch hk), h2, ho⟩
  have : g = k := by simpa [Value.ownBlock] using hk
  subst this
  exact ⟨h1, h3, by simp [Value.ownBlock], hgl⟩
theorem lc_A {w w2 : World} {a v r : Int} {h : ByteArray} {ao : Option Addr} {n cp : Nat} {hi : En} {O : Obj} (hp : Pag w2 w.heap.size (.int .i64 a) (.int .i64 3) (.int .i64 v) (.int .i64 r) (.string h) (.slice ao n cp)) (hr : Cv w2 (w.heap.size + 1) (.slice none 0 0) (.slice none 0 0) noE) (ho : Only (fun _ => False) w w2) (hown : ∀ (W : World) (base : Nat), base ≤ W.heap.size → Ets (W.alloc O) base (.slice (some ⟨W.heap.size, 0, none⟩) 0 n) []) :
    Lc w ((w2.alloc O).alloc (.cells #[.slice (some ⟨w2.heap.size, 0, none⟩) 0 n, .slice none 0 0, .string hi.key, .int .i64 hi.page, .int .i64 hi.slot] 200)).drew a v r h ao n cp (w2.heap.size + 1) (.slice (some ⟨w2.heap.size, 0, none⟩) 0 n) (.slice none 0 0) hi [] [] := by
  have o : Only (fun _ => False) w2 ((w2.alloc O).alloc (.cells #[.slice (some ⟨w2.heap.size, 0, none⟩) 0 n, .slice none 0 0, .string hi.key, .int .i64 hi.page, .int .i64 hi.slot] 200)).drew := o2 (o2 (onlyA _ _) (onlyA _ _)) (Only.drew _ _)
  have c := Cv.new (w2.alloc O) (.slice (some ⟨w2.heap.size, 0, none⟩) 0 n) (.slice none 0 0) hi
  rw [World.size_alloc] at c
  have hz := hr.lt
  exact Lc.first (hp.more o) (hr.more o) (c.more (Only.drew _ _)) ((hown w2 w.heap.size ho.size).more (o2 (onlyA _ _) (Only.drew _ _))) (by omega) (by omega) (by omega) (Nat.lt_of_lt_of_le (by rw [World.size_alloc]; omega) (o2 (onlyA (w2.alloc O) (.cells #[.slice (some ⟨w2.heap.size, 0, none⟩) 0 n, .slice none 0 0, .string hi.key, .int .i64 hi.page, .int .i64 hi.slot] 200)) (Only.drew _ _)).size) (o2 ho o)
theorem lc_B {w w2 : World} {a v r : Int} {h : ByteArray} {ao : Option Addr} {n cp : Nat} {hi : En} {O : Obj} (hp : Pag w2 w.heap.size (.int .i64 a) (.int .i64 3) (.int .i64 v) (.int .i64 r) (.string h) (.slice ao n cp)) (hr : Cv w2 (w.heap.size + 1) (.slice none 0 0) (.slice none 0 0) noE) (ho : Only (fun _ => False) w w2) (hown : ∀ (W : World) (base : Nat), base ≤ W.heap.size → Ets (W.alloc O) base (.slice (some ⟨W.heap.size, 0, none⟩) 0 n) []) :
    Lc w ((w2.alloc (.cells #[.slice (some ⟨w2.heap.size + 1, 0, none⟩) 0 n, .slice none 0 0, .string hi.key, .int .i64 hi.page, .int .i64 hi.slot] 200)).alloc O).drew a v r h ao n cp w2.heap.size (.slice (some ⟨w2.heap.size + 1, 0, none⟩) 0 n) (.slice none 0 0) hi [] [] := by
  have o : Only (fun _ => False) w2 ((w2.alloc (.cells #[.slice (some ⟨w2.heap.size + 1, 0, none⟩) 0 n, .slice none 0 0, .string hi.key, .int .i64 hi.page, .int .i64 hi.slot] 200)).alloc O).drew := o2 (o2 (onlyA _ _) (onlyA _ _)) (Only.drew _ _)
  have c := Cv.new w2 (.slice (some ⟨w2.heap.size + 1, 0, none⟩) 0 n) (.slice none 0 0) hi
  have hz := hr.lt
  have e := hown (w2.alloc (.cells #[.slice (some ⟨w2.heap.size + 1, 0, none⟩) 0 n, .slice none 0 0, .string hi.key, .int .i64 hi.page, .int .i64 hi.slot] 200)) w.heap.size (Nat.le_trans ho.size (onlyA w2 _).size)
  rw [World.size_alloc] at e
  have hl : w2.heap.size + 1 < ((w2.alloc (.cells #[.slice (some ⟨w2.heap.size + 1, 0, none⟩) 0 n, .slice none 0 0, .string hi.key, .int .i64 hi.page, .int .i64 hi.slot] 200)).alloc O).drew.heap.size := by
    show w2.heap.size + 1 < ((w2.alloc (.cells #[.slice (some ⟨w2.heap.size + 1, 0, none⟩) 0 n, .slice none 0 0, .string hi.key, .int .i64 hi.page, .int .i64 hi.slot] 200)).alloc O).heap.size
    rw [World.size_alloc, World.size_alloc]
    omega
  exact Lc.first (hp.more o) (hr.more o) (c.more (o2 (onlyA _ _) (Only.drew _ _))) (e.more (Only.drew _ _)) (by omega) (by omega) (by omega) hl (o2 ho o)
/-- The variable that holds the last entry, apart from what was read. -/
structure Ll (w W : World) (c lb : Nat) (x : Value) (last : En) : Prop where
  ev : Ev W lb last
  ne : ∀ k, x.ownBlock = some k → k ≠ lb
  nc : c ≠ lb
  lo : w.heap.size + 1 < lb
theorem Ll.more {w W W' : World} {c lb : Nat} {x : Value} {last : En} (h : Ll w W c lb x last) (ho : Only (fun _ => False) W W') : Ll w W' c lb x last := ⟨h.ev.more ho, h.ne, h.nc, h.lo⟩
theorem LfIs.len {hi : En} {l : List ByteArray} {es : List En} (h : LfIs hi l es) : l.length = es.length := by rw [h.items, List.length_map]
end Go.Proofs.YtpnbhddmdfcjdaaGreat
