/- Parts. -/
import Derived.Test.YtpnbhddmdfcjdaaGreatRows
import Derived.WalkKit
import Derived.WalkSpells
import Derived.WalkLawsBesides
import Derived.Lib.AppendStr
import Derived.Laws.BytesArg
import Derived.Lib.IndexBytes
set_option maxRecDepth 100000
namespace Go.Proofs.YtpnbhddmdfcjdaaGreat
open Go.RowKit
theorem hide {p : Prop} (h : p) : Hid p := h
theorem unhide {p : Prop} (h : Hid p) : p := h
/-- Of the blocks that were there only those of S may have changed. -/
structure Only (S : Nat → Prop) (w w' : World) : Prop where
  os : w'.os = w.os
  tape : w'.tape = w.tape
  output : w'.output = w.output
  size : w.heap.size ≤ w'.heap.size
  block : ∀ k, k < w.heap.size → ¬ S k → w'.heap[k]? = w.heap[k]?
theorem Only.refl (S : Nat → Prop) (w : World) : Only S w w := ⟨rfl, rfl, rfl, Nat.le_refl _, fun _ _ _ => rfl⟩
theorem Only.trans {S T : Nat → Prop} {a b c : World} (h : Only S a b) (k : Only T b c) (hT : ∀ i, i < a.heap.size → T i → S i) : Only S a c :=
  ⟨k.os.trans h.os, k.tape.trans h.tape, k.output.trans h.output, Nat.le_trans h.size k.size, fun i hi hS => (k.block i (Nat.lt_of_lt_of_le hi h.size) (fun t => hS (hT i hi t))).trans (h.block i hi hS)⟩
theorem Only.mono {S T : Nat → Prop} {a b : World} (h : Only S a b) (hT : ∀ i, i < a.heap.size → S i → T i) : Only T a b :=
  ⟨h.os, h.tape, h.output, h.size, fun i hi hS => h.block i hi (fun t => hS (hT i hi t))⟩
theorem Only.alloc (S : Nat → Prop) (w : World) (o : Obj) : Only S w (w.alloc o) := ⟨rfl, rfl, rfl, by simp, fun k hk _ => Below.heap_alloc _ _ _ hk⟩
theorem Only.drew (S : Nat → Prop) (w : World) : Only S w w.drew := ⟨rfl, rfl, rfl, Nat.le_refl _, fun _ _ _ => rfl⟩
theorem Only.setCell {S : Nat → Prop} (w : World) (p : Addr) (u : Value) (h : S p.block) : Only S w (w.setCell p u) :=
  ⟨rfl, rfl, rfl, by simp [World.setCell], fun k _ hS => Below.heap_setCell _ _ _ _ (fun e => hS (e ▸ h))⟩
theorem Only.grown {S : Nat → Prop} {w w' : World} {row : Option Nat} (h : w.grownBy w' row) (hr : ∀ k, row = some k → S k) : Only S w w' :=
  ⟨h.os, h.tape, h.output, h.size, fun k hk hS => h.block k hk (fun e => hS (hr k e.symm))⟩
theorem Only.below {S : Nat → Prop} {w w' : World} {B : Nat} (h : Only S w w') (hB : B ≤ w.heap.size) (hS : ∀ k, k < B → ¬ S k) : Below B w w' :=
  ⟨h.os, h.tape, h.output, h.size, fun k hk => h.block k (by omega) (hS k hk)⟩
theorem Only.cell {S : Nat → Prop} {w w' : World} (h : Only S w w') {p : Addr} (hp : p.block < w.heap.size) (hS : ¬ S p.block) : w'.cell? p = w.cell? p := World.cell?_of_block (w := w) (h.block p.block hp hS)
theorem Only.frozen {S : Nat → Prop} {w w' : World} (h : Only S w w') {p : Addr} (hp : p.block < w.heap.size) (hS : ¬ S p.block) : w'.frozen? p = w.frozen? p := World.frozen?_of_block (w := w) (h.block p.block hp hS)
/-- Bytes as cells. -/
def cells (l : List UInt8) : List Value := l.map fun b => Value.int .u8 (b.toNat : Int)
theorem cells_length (l : List UInt8) : (cells l).length = l.length := by simp [cells]
theorem cells_append (l m : List UInt8) : cells (l ++ m) = cells l ++ cells m := by simp [cells]
/-- A row of bytes that the value v owns: v's block is row. -/
structure Row (w : World) (base : Nat) (v : Value) (row : Option Nat) (l : List UInt8) : Prop where
  own : w.ownsRow base 5 1 v l.length (cells l)
  at_ : v.ownBlock = row
theorem Row.kept {S : Nat → Prop} {w w' : World} {base : Nat} {v : Value} {row : Option Nat} {l : List UInt8} (h : Row w base v row l) (ho : Only S w w') (hS : ∀ k, row = some k → ¬ S k) : Row w' base v row l := by
  obtain ⟨⟨h1, h2⟩, ha⟩ := h
  refine ⟨⟨h1, ?_⟩, ha⟩
  rcases h2 with h2 | ⟨g, cap, cur, hv, hg, hh, r⟩
  · exact .inl h2
  · subst hv
    exact .inr ⟨g, cap, cur, rfl, hg, by rw [ho.block g (Array.getElem?_eq_some_iff.1 hh).1 (hS g ha.symm)]; exact hh, r⟩
theorem Row.alloc {w : World} {base : Nat} {v : Value} {row : Option Nat} {l : List UInt8} (h : Row w base v row l) (o : Obj) : Row (w.alloc o) base v row l :=
  h.kept (Only.alloc (fun _ => False) w o) (fun _ _ => id)
theorem Row.lt {w : World} {base : Nat} {v : Value} {row : Option Nat} {l : List UInt8} (h : Row w base v row l) : ∀ k, row = some k → base ≤ k ∧ k < w.heap.size :=
  fun k hk => h.own.lt k (h.at_.trans hk)
theorem next_le {need old : Nat} (h : old < need) : Builtin.nextslicecap need old ≤ need + need / 4 + 512 := by
  unfold Builtin.nextslicecap
  split
  · omega
  · split
    · omega
    · rw [growBy_four]
      repeat' split
      all_goals omega
theorem next_fits {need old : Nat} (h : old < need) (hb : need ≤ 158329674399744) : Builtin.nextslicecap need old * 1 ≤ 281474976710656 := by
  have := next_le h
  omega
section
variable {P : Program} (w : World)
theorem own_grown {base : Nat} {e : TypeId} {n m old : Nat} {xs news : List Value} (hx : xs.length = n) (hl : news.length = m) (h63 : n + m ≤ maxLen) (hbase : base ≤ w.heap.size) (row : Option Nat) :
    (w.drew.alloc (.cells (xs.toArray ++ news.toArray ++ Builtin.zeroCells (Value.int IntKind.u8 0).cells (grownCap w (n + m) old e - (n + m))) e)).ownsRow base e 1 (.slice (some ⟨w.heap.size, 0, none⟩) (n + m) (grownCap w (n + m) old e)) (n + m) (xs ++ news) ∧
    w.grownBy (w.drew.alloc (.cells (xs.toArray ++ news.toArray ++ Builtin.zeroCells (Value.int IntKind.u8 0).cells (grownCap w (n + m) old e - (n + m))) e)) row := by
  have hge := grownCap_ge w (n + m) old e
  have hcm : grownCap w (n + m) old e ≤ maxLen := grownCap_le_maxLen w (n + m) old e h63
  have hlen : (xs ++ news).length = n + m := by rw [List.length_append, hx, hl]
  have hz : (Value.int IntKind.u8 0).cells.size = 1 := rfl
  refine ⟨⟨by rw [hlen, Nat.mul_one], .inr ⟨w.heap.size, _, _, rfl, hbase, heap_alloc_new w.drew _, hge, hcm, ?_, ?_⟩⟩, ⟨rfl, rfl, rfl, by simp, fun k hk _ => Below.heap_alloc w.drew _ k hk⟩⟩
  · simp only [Array.size_append, List.size_toArray, size_zeroCells, hz, hx, hl]
    omega
  · simp only [Array.toList_append, List.append_assoc, Nat.mul_one]
    rw [← List.append_assoc, ← hlen]
    exact List.take_left
/-- Bytes appended to a row that is owned: as the kit's own law, with more room, and with the place of what it yields. -/
theorem append_bytes (base : Nat) (t ty e : TypeId) (i : TypeInfo) (ht : P.underlying t = some (.slice e)) (hi : P.info? e = some i) (hz : i.zero = some (.int .u8 0))
    (hsize : i.size = 1) (hby : i.bytes = 1) (v : Value) (n : Nat) (xs : List Value) (hown : w.ownsRow base e 1 v n xs)
    (a : Addr) (m c : Nat) (news : List Value) (hl : news.length = m) (hnews : ∀ j u, news[j]? = some u → w.cell? (a.add j) = some u) (h1 : ∀ u ∈ news, u.oneCell' = true)
    (hroom : n + m ≤ 158329674399744) (hm : 0 < m) (hbase : base ≤ w.heap.size) :
    ∃ v' w', (Builtin.append_ #[t, t] ty #[v, .slice (some a) m c]).run P w = .ok v' w' ∧ w'.ownsRow base e 1 v' (n + m) (xs ++ news) ∧ w.grownBy w' v.ownBlock ∧ (v'.ownBlock = v.ownBlock ∨ v'.ownBlock = some w.heap.size) := by
  have hx : xs.length = n := by simpa using hown.1
  have h63 : n + m ≤ maxLen := by unfold maxLen; omega
  have hl' : news.length = m * i.size := by rw [hsize, hl, Nat.mul_one]
  have hlen : (xs ++ news).length = (n + m) * 1 := by rw [List.length_append, hx, hl, Nat.mul_one]
  rcases hown.2 with ⟨rfl, rfl⟩ | ⟨g, cap, cur, rfl, hbg, hg, hnc, hcm, hcs, htake⟩
  · have hx0 : xs = [] := List.eq_nil_of_length_eq_zero hx
    subst hx0
    have hr := run_append_nil (P := P) w t ty e i (.int .u8 0) ht hi hz a m c news hl' hnews hm (by omega) (by rw [hby]; omega)
    have hgr := own_grown w (base := base) (e := e) (n := 0) (m := m) (old := 0) (xs := []) hx hl h63 hbase (Value.ownBlock (.slice none 0 0))
    simp only [Nat.zero_add, List.nil_append, Array.empty_append] at hgr ⊢
    exact ⟨_, _, hr, hgr.1, hgr.2, .inr rfl⟩
  · by_cases hrm : n + m ≤ cap
    · have hfit : n * i.size + news.length ≤ cur.size := by rw [hsize, hl, hcs]; omega
      have hr := run_append_room (P := P) w t ty e i ht hi g n cap cur hg a m c news hl' hnews h1 hrm hfit
      rw [hsize, Nat.mul_one] at hr
      rw [Nat.mul_one] at htake hcs
      refine ⟨_, _, hr, ⟨hlen, .inr ⟨g, cap, _, rfl, hbg, setRow_heap w g cur _ e _ hg, hrm, hcm, ?_, ?_⟩⟩, ⟨rfl, rfl, rfl, by simp, fun k _ hk => setRow_other w g k _ (fun e => hk (by simp [Value.ownBlock, e]))⟩, .inl rfl⟩
      · simp only [List.size_toArray, List.length_append, List.length_take, List.length_drop, Array.length_toList]
        omega
      · rw [htake, ← hlen]
        exact List.take_left
    · have hr := run_append_grow (P := P) w t ty e i (.int .u8 0) ht hi hz ⟨g, 0, none⟩ n cap xs (by rw [hsize, hx, Nat.mul_one]) (hown.cells (g := g) rfl) a m c news hl' hnews (by omega) (by omega) (by rw [hby]; exact next_fits (by omega) hroom)
      have hgr := own_grown w (base := base) (e := e) (n := n) (m := m) (old := cap) hx hl h63 hbase (Value.ownBlock (.slice (some ⟨g, 0, none⟩) n cap))
      exact ⟨_, _, hr, hgr.1, hgr.2, .inr rfl⟩
end
/-- One byte appended to a row that is owned. -/
theorem wpList_byte {P : Program} (w : World) {ops : Array Oper} {rest : List Oper} {o : Oper} {a : Act} {Q : Exit → Act → World → Prop} (hgd : o.guard = none) (s x : Operand) (t : TypeId)
    (ho : o.op = .call { callee := .builtin .append, args := #[s, x], argTypes := #[t, t] })
    (base : Nat) (i : TypeInfo) (ht : P.underlying t = some (.slice 5)) (hi : P.info? 5 = some i) (hz : i.zero = some (.int .u8 0)) (hsize : i.size = 1) (hby : i.bytes = 1)
    (v : Value) (row : Option Nat) (l : List UInt8) (hs : a.eval s = v) (hown : Row w base v row l)
    (ad : Addr) (c : Nat) (d : UInt8) (hx : a.eval x = .slice (some ad) 1 c) (hd : w.cell? ad = some (.int .u8 (d.toNat : Int)))
    (h63 : l.length + 1 ≤ 158329674399744) (hbase : base ≤ w.heap.size)
    (h : ∀ v' w' row', Row w' base v' row' (l ++ [d]) → Only (fun k => some k = row) w w' → (row' = row ∨ row' = some w.heap.size) → wpList P ops Q rest (a.put o.dst v') w') : wpList P ops Q (o :: rest) a w := by
  have hnews : ∀ j u, [Value.int .u8 (d.toNat : Int)][j]? = some u → w.cell? (ad.add j) = some u := by
    intro j u hj
    match j, hj with
    | 0, hj =>
      simp at hj; subst hj
      have : ad.add 0 = ad := by unfold Addr.add; split <;> simp_all
      rw [this]; exact hd
  have h1 : ∀ u ∈ [Value.int .u8 (d.toNat : Int)], u.oneCell' = true := by intro u hu; simp at hu; subst hu; rfl
  obtain ⟨v', w', hr, h2, h3, h5⟩ := append_bytes (P := P) w base t o.type 5 i ht hi hz hsize hby v l.length (cells l) hown.own ad 1 c [.int .u8 (d.toNat : Int)] rfl hnews h1 h63 (by decide) hbase
  refine wpList_plain hgd fun K hK => ?_
  unfold Oper.wp execOp
  simp only [ho, resolve, invoke, builtin, Sem.run_bind, Sem.run_pure, Result.andThen_ok, List.map_toArray, List.map_cons, List.map_nil, hs, hx, hr]
  refine hK _ _ (h v' w' v'.ownBlock ⟨?_, rfl⟩ (Only.grown h3 (fun k hk => hk.symm.trans hown.at_)) (by rw [← hown.at_]; exact h5))
  have e : l.length + 1 = (l ++ [d]).length := by simp
  rw [cells_append, ← e]
  exact h2
/-- A row was in block row, and is in row' now: the same, or a new one; no other block has changed. -/
structure Gro (w w' : World) (row row' : Option Nat) : Prop where
  only : Only (fun k => some k = row) w w'
  new : row' = row ∨ ∃ g, row' = some g ∧ w.heap.size ≤ g
theorem Gro.refl (w : World) (row : Option Nat) : Gro w w row row := ⟨Only.refl _ _, .inl rfl⟩
theorem Gro.trans {a b c : World} {r0 r1 r2 : Option Nat} (h : Gro a b r0 r1) (k : Gro b c r1 r2) : Gro a c r0 r2 := by
  refine ⟨h.only.trans k.only ?_, ?_⟩
  · intro i hi ht
    rcases h.new with e | ⟨g, e, hg⟩
    · rw [← e]; exact ht
    · rw [e] at ht; injection ht with ht; omega
  · rcases k.new with e | ⟨g, e, hg⟩
    · rw [e]; exact h.new
    · exact .inr ⟨g, e, Nat.le_trans h.only.size hg⟩
theorem Gro.alloc (w : World) (o : Obj) (row : Option Nat) : Gro w (w.alloc o) row row := ⟨Only.alloc _ _ _, .inl rfl⟩
theorem Gro.one {w w' : World} {row row' : Option Nat} (h : Only (fun k => some k = row) w w') (hn : row' = row ∨ row' = some w.heap.size) : Gro w w' row row' :=
  ⟨h, by
    rcases hn with e | e
    · exact .inl e
    · exact .inr ⟨_, e, Nat.le_refl _⟩⟩
theorem Row.form {w : World} {base : Nat} {v : Value} {row : Option Nat} {l : List UInt8} (h : Row w base v row l) : ∃ ao ln cp, v = .slice ao ln cp := by
  rcases h.own.2 with ⟨rfl, _⟩ | ⟨g, cap, cur, rfl, _⟩
  · exact ⟨_, _, _, rfl⟩
  · exact ⟨_, _, _, rfl⟩
theorem Row.len {w : World} {base n c : Nat} {a : Addr} {row : Option Nat} {l : List UInt8} (h : Row w base (.slice (some a) n c) row l) : l.length = n ∧ a = ⟨a.block, 0, none⟩ := by
  rcases h.own.2 with ⟨hv, _⟩ | ⟨g, cap, cur, hv, _⟩
  · cases hv
  · injection hv with h1 h2 h3
    injection h1 with h1
    subst h1
    exact ⟨h2.symm, rfl⟩
theorem Row.at0 {w : World} {base n c g j : Nat} {row : Option Nat} {l : List UInt8} (h : Row w base (.slice (some ⟨g, 0, none⟩) n c) row l) (hj : j < n) : (∃ v, w.cell? ⟨g, j, none⟩ = some v) ∧ w.frozen? ⟨g, j, none⟩ = false := by
  have hl := h.len.1
  have ho := h.own
  rw [hl] at ho
  have hc := ho.cellAt j (by omega)
  refine ⟨⟨_, hc.trans (List.getElem?_eq_getElem (by rw [cells_length]; omega))⟩, ho.frozenAt j⟩
theorem Row.store {w : World} {base n c g : Nat} {row : Option Nat} {l : List UInt8} (h : Row w base (.slice (some ⟨g, 0, none⟩) n c) row l) (j : Nat) (u : UInt8) :
    Row (w.setCell ⟨g, j, none⟩ (.int .u8 (u.toNat : Int))) base (.slice (some ⟨g, 0, none⟩) n c) row (l.set j u) ∧ Only (fun k => k = g) w (w.setCell ⟨g, j, none⟩ (.int .u8 (u.toNat : Int))) := by
  have hl := h.len.1
  have ho := h.own
  rw [hl] at ho
  refine ⟨⟨?_, h.at_⟩, Only.setCell (S := fun k => k = g) w ⟨g, j, none⟩ _ rfl⟩
  have hs := (ho.stored j (.int .u8 (u.toNat : Int))).1
  rw [List.length_set, hl]
  have e : (cells l).set j (.int .u8 (u.toNat : Int)) = cells (l.set j u) := by unfold cells; rw [List.map_set]
  rw [← e]
  exact hs
theorem byte_nat {n : Nat} (h : n < 256) : ((UInt8.ofNat n).toNat : Int) = (n : Int) := by
  rw [UInt8.toNat_ofNat_of_lt' h]
theorem append_string {P : Program} (w : World) (base : Nat) (t u ty e : TypeId) (i : TypeInfo) (ht : P.underlying t = some (.slice e)) (hu : P.underlying u = some .string) (hi : P.info? e = some i) (hz : i.zero = some (.int .u8 0))
    (hsize : i.size = 1) (hby : i.bytes = 1) (v : Value) (n : Nat) (xs : List Value) (hown : w.ownsRow base e 1 v n xs) (s : ByteArray)
    (hroom : n + s.size ≤ 158329674399744) (hbase : base ≤ w.heap.size) :
    ∃ v' w', (Builtin.append_ #[t, u] ty #[v, .string s]).run P w = .ok v' w' ∧ w'.ownsRow base e 1 v' (n + s.size) (xs ++ Lib.strCells s) ∧ w.grownBy w' v.ownBlock ∧ (v'.ownBlock = v.ownBlock ∨ v'.ownBlock = some w.heap.size) := by
  have hx : xs.length = n := by simpa using hown.1
  have h63 : n + s.size ≤ maxLen := by unfold maxLen; omega
  have hl := Lib.strCells_length s
  by_cases hold : n + s.size ≤ 140737488355328
  · obtain ⟨v', w', hr, h2, h3, h4⟩ := Lib.run_append_own_string (P := P) w base t u ty e i ht hu hi hz hsize hby v n xs hown s h63 hold hbase
    refine ⟨v', w', hr, h2, h3, ?_⟩
    rcases hown.2 with ⟨rfl, rfl⟩ | ⟨g, cap, cur, rfl, hbg, hg, hnc, hcm, hcs, htake⟩
    · by_cases hm : s.size = 0
      · left; rw [h4.2 ⟨rfl, hm⟩]
      · have hr2 := run_append_nil_string (P := P) w t u ty e i (.int .u8 0) ht hu hi hz s (by omega) (by omega) (by rw [hby]; omega)
        rw [hr2] at hr
        injection hr with e1 _
        subst e1
        exact .inr rfl
    · by_cases hrm : n + s.size ≤ cap
      · have hr2 := Lib.run_append_room_string (P := P) w t u ty e i ht hu hi hsize g n cap cur hg s hrm (by omega)
        rw [hr2] at hr
        injection hr with e1 _
        subst e1
        exact .inl rfl
      · have hr2 := Lib.run_append_grow_string (P := P) w t u ty e i (.int .u8 0) ht hu hi hz ⟨g, 0, none⟩ n cap xs (by rw [hsize]; exact hown.1) (hown.cells (g := g) rfl) s (by omega) (by omega) (by rw [hby]; exact next_fits (by omega) hroom)
        rw [hr2] at hr
        injection hr with e1 _
        subst e1
        exact .inr rfl
  · have hlen : (xs ++ Lib.strCells s).length = (n + s.size) * 1 := by rw [List.length_append, hx, hl, Nat.mul_one]
    rcases hown.2 with ⟨rfl, rfl⟩ | ⟨g, cap, cur, rfl, hbg, hg, hnc, hcm, hcs, htake⟩
    · have hx0 : xs = [] := List.eq_nil_of_length_eq_zero hx
      subst hx0
      have hr := run_append_nil_string (P := P) w t u ty e i (.int .u8 0) ht hu hi hz s (by omega) (by omega) (by rw [hby]; omega)
      have hgr := own_grown w (base := base) (e := e) (n := 0) (m := s.size) (old := 0) (xs := []) hx hl h63 hbase (Value.ownBlock (.slice none 0 0))
      have ec : (Lib.strCells s).toArray = s.data.map (fun b => Value.int .u8 b.toNat) := by
        apply Array.ext'
        simp [Lib.strCells]
      simp only [Nat.zero_add, List.nil_append, Array.empty_append, ec] at hgr ⊢
      exact ⟨_, _, hr, hgr.1, hgr.2, .inr rfl⟩
    · by_cases hrm : n + s.size ≤ cap
      · rw [Nat.mul_one] at htake hcs
        have hr := Lib.run_append_room_string (P := P) w t u ty e i ht hu hi hsize g n cap cur hg s hrm (by omega)
        refine ⟨_, _, hr, ⟨hlen, .inr ⟨g, cap, _, rfl, hbg, setRow_heap w g cur _ e _ hg, hrm, hcm, ?_, ?_⟩⟩, ⟨rfl, rfl, rfl, by simp, fun k _ hk => setRow_other w g k _ (fun e => hk (by simp [Value.ownBlock, e]))⟩, .inl rfl⟩
        · simp only [List.size_toArray, List.length_append, List.length_take, List.length_drop, Array.length_toList, hl]
          omega
        · rw [htake, ← hlen]
          exact List.take_left
      · have hr := Lib.run_append_grow_string (P := P) w t u ty e i (.int .u8 0) ht hu hi hz ⟨g, 0, none⟩ n cap xs (by rw [hsize]; exact hown.1) (hown.cells (g := g) rfl) s (by omega) (by omega) (by rw [hby]; exact next_fits (by omega) hroom)
        have hgr := own_grown w (base := base) (e := e) (n := n) (m := s.size) (old := cap) hx hl h63 hbase (Value.ownBlock (.slice (some ⟨g, 0, none⟩) n cap))
        exact ⟨_, _, hr, hgr.1, hgr.2, .inr rfl⟩
/-- A text appended to a row that is owned. -/
theorem wpList_text {P : Program} (w : World) {ops : Array Oper} {rest : List Oper} {o : Oper} {a : Act} {Q : Exit → Act → World → Prop} (hgd : o.guard = none) (sl x : Operand) (t u : TypeId)
    (ho : o.op = .call { callee := .builtin .append, args := #[sl, x], argTypes := #[t, u] })
    (base : Nat) (i : TypeInfo) (ht : P.underlying t = some (.slice 5)) (hu : P.underlying u = some .string) (hi : P.info? 5 = some i) (hz : i.zero = some (.int .u8 0)) (hsize : i.size = 1) (hby : i.bytes = 1)
    (v : Value) (row : Option Nat) (l : List UInt8) (hs : a.eval sl = v) (hown : Row w base v row l) (s : ByteArray) (hx : a.eval x = .string s)
    (h63 : l.length + s.size ≤ 158329674399744) (hbase : base ≤ w.heap.size)
    (h : ∀ v' w' row', Row w' base v' row' (l ++ s.data.toList) → Gro w w' row row' → wpList P ops Q rest (a.put o.dst v') w') : wpList P ops Q (o :: rest) a w := by
  obtain ⟨v', w', hr, h2, h3, h5⟩ := append_string (P := P) w base t u o.type 5 i ht hu hi hz hsize hby v l.length (cells l) hown.own s h63 hbase
  refine wpList_plain hgd fun K hK => ?_
  unfold Oper.wp execOp
  simp only [ho, resolve, invoke, builtin, Sem.run_bind, Sem.run_pure, Result.andThen_ok, List.map_toArray, List.map_cons, List.map_nil, hs, hx, hr]
  refine hK _ _ (h v' w' v'.ownBlock ⟨?_, rfl⟩ (Gro.one (Only.grown h3 (fun k hk => hk.symm.trans hown.at_)) (by rw [← hown.at_]; exact h5)))
  have e : l.length + s.size = (l ++ s.data.toList).length := by simp
  rw [cells_append, ← e]
  exact h2
/-- One bit of the sum. -/
def sbit (q : Int) : Int := if (bits BinOp.and IntKind.u32 q 1 == 1) = true then bits BinOp.xor IntKind.u32 (q / 2) 3988292384 else q / 2
def sby : Nat → Int → Int
  | 0, q => q
  | k + 1, q => sbit (sby k q)
/-- The sum's state behind bytes. -/
def sumTo (l : List UInt8) : Int := l.foldl (fun c b => sby 8 (bits BinOp.xor IntKind.u32 c ((b.toNat : Int) % 4294967296))) 4294967295
def sum (l : List UInt8) : Int := bits BinOp.xor IntKind.u32 (sumTo l) 4294967295
/-- The number of bytes, the highest first, modulo 2 to the 64. -/
def ofTo (l : List UInt8) : Int := l.foldl (fun c b => (c * 256 + (b.toNat : Int)) % 18446744073709551616) 0
theorem ofTo_snoc (l : List UInt8) (b : UInt8) : ofTo (l ++ [b]) = (ofTo l * 256 + (b.toNat : Int)) % 18446744073709551616 := by
  simp [ofTo]
theorem take_snoc (s : ByteArray) (k : Nat) (h : k < s.size) : s.data.toList.take (k + 1) = s.data.toList.take k ++ [s[k]] := by
  rw [List.take_succ_eq_append_getElem (by simpa using h)]; rfl
theorem take_all (s : ByteArray) (k : Nat) (h : ¬ k < s.size) : s.data.toList.take k = s.data.toList := by
  rw [List.take_of_length_le (by simpa using h)]
theorem ret_int {k : IntKind} {a b : Int} (h : a = b) : Ending.returned (.int k a) = .returned (.int k b) := by rw [h]
theorem wraps_u64 (n : Int) (h₀ : 0 ≤ n) (h₁ : n < 2 ^ 64) : IntKind.u64.wrap n = n := by rw [IntKind.wrap_u64]; omega
theorem of_step (q : Int) (b : UInt8) : bits BinOp.or IntKind.u64 (IntKind.u64.wrap (q * 256)) (IntKind.u64.wrap (b.toNat : Int)) = (q * 256 + (b.toNat : Int)) % 18446744073709551616 := by
  have hb := b.toNat_lt
  rw [IntKind.wrap_u64, IntKind.wrap_u64, bits_join .u64 64 (by decide) wraps_u64 8 _ _ (by omega) (by omega) (by omega) (by omega) (by omega) (by omega)]
  omega
theorem of_last (q : Int) (h0 : 0 ≤ q) (h1 : q < 18446744073709551616) : wrap64 (bits BinOp.and IntKind.u64 q 9223372036854775807) = q % 9223372036854775808 := by
  have h := bits_mask .u64 64 (by decide) wraps_u64 63 (by decide) q h0 (by omega)
  have e1 : ((2 : Int) ^ 63 - 1) = 9223372036854775807 := by decide
  have e2 : ((2 : Int) ^ 63) = 9223372036854775808 := by decide
  rw [e1, e2] at h
  rw [h]; unfold wrap64; omega
theorem ofTo_bd (l : List UInt8) : 0 ≤ ofTo l ∧ ofTo l < 18446744073709551616 := by
  rcases List.eq_nil_or_concat l with rfl | ⟨l', b, rfl⟩
  · exact ⟨by decide, by decide⟩
  · rw [List.concat_eq_append, ofTo_snoc]; omega
/-- The number whose sevens bytes begin with, how many they are, and what is wrong. -/
def rd (i : Nat) (n : Int) : List UInt8 → Int × Int × Int
  | [] => (0, 0, 10)
  | d :: t =>
    if (d.toNat : Int) < 128 then (if (d.toNat : Int) = 0 ∧ 0 < i then (0, 0, 11) else (n + (d.toNat : Int) * 128 ^ i, (i : Int) + 1, 0))
    else if i = 8 then (0, 0, 11)
    else rd (i + 1) (n + ((d.toNat : Int) - 128) * 128 ^ i) t
theorem w64_id (n : Int) (h : -9223372036854775808 ≤ n ∧ n ≤ 9223372036854775807) : wrap64 n = n := by unfold wrap64; omega
theorem rd_cons (i : Nat) (n : Int) (d : UInt8) (t : List UInt8) : rd i n (d :: t) = if (d.toNat : Int) < 128 then (if (d.toNat : Int) = 0 ∧ 0 < i then (0, 0, 11) else (n + (d.toNat : Int) * 128 ^ i, (i : Int) + 1, 0)) else if i = 8 then (0, 0, 11) else rd (i + 1) (n + ((d.toNat : Int) - 128) * 128 ^ i) t := rfl
theorem bits_or_comm (k : IntKind) (x y : Int) : bits BinOp.or k x y = bits BinOp.or k y x := by simp [bits, BitVec.or_comm]
theorem wraps_i64 (n : Int) (h₀ : 0 ≤ n) (h₁ : n < 2 ^ 63) : IntKind.i64.wrap n = n := by rw [IntKind.wrap_i64]; omega
theorem or_shift (k : Nat) (q d : Int) (hk : k ≤ 8) (q0 : 0 ≤ q) (q1 : q < 128 ^ k) (d0 : 0 ≤ d) (d1 : d < 128) :
    bits BinOp.or IntKind.i64 q (wrap64 (d * 2 ^ (7 * k))) = q + d * 128 ^ k ∧ 0 ≤ q + d * 128 ^ k ∧ q + d * 128 ^ k < 128 ^ (k + 1) := by
  have hc : k = 0 ∨ k = 1 ∨ k = 2 ∨ k = 3 ∨ k = 4 ∨ k = 5 ∨ k = 6 ∨ k = 7 ∨ k = 8 := by omega
  rcases hc with rfl | rfl | rfl | rfl | rfl | rfl | rfl | rfl | rfl
  all_goals
    simp at q1 ⊢
    rw [w64_id _ (by omega), bits_or_comm]
  · rw [bits_join .i64 63 (by decide) wraps_i64 0 _ _ (by omega) (by omega) (by omega) (by omega) (by omega) (by omega)]; omega
  · rw [bits_join .i64 63 (by decide) wraps_i64 7 _ _ (by omega) (by omega) (by omega) (by omega) (by omega) (by omega)]; omega
  · rw [bits_join .i64 63 (by decide) wraps_i64 14 _ _ (by omega) (by omega) (by omega) (by omega) (by omega) (by omega)]; omega
  · rw [bits_join .i64 63 (by decide) wraps_i64 21 _ _ (by omega) (by omega) (by omega) (by omega) (by omega) (by omega)]; omega
  · rw [bits_join .i64 63 (by decide) wraps_i64 28 _ _ (by omega) (by omega) (by omega) (by omega) (by omega) (by omega)]; omega
  · rw [bits_join .i64 63 (by decide) wraps_i64 35 _ _ (by omega) (by omega) (by omega) (by omega) (by omega) (by omega)]; omega
  · rw [bits_join .i64 63 (by decide) wraps_i64 42 _ _ (by omega) (by omega) (by omega) (by omega) (by omega) (by omega)]; omega
  · rw [bits_join .i64 63 (by decide) wraps_i64 49 _ _ (by omega) (by omega) (by omega) (by omega) (by omega) (by omega)]; omega
  · rw [bits_join .i64 63 (by decide) wraps_i64 56 _ _ (by omega) (by omega) (by omega) (by omega) (by omega) (by omega)]; omega
theorem drop_cons (s : ByteArray) (k : Nat) (h : k < s.size) : s.data.toList.drop k = s[k] :: s.data.toList.drop (k + 1) := by
  rw [List.drop_eq_getElem_cons (by simpa using h)]; rfl
theorem drop_none (s : ByteArray) (k : Nat) (h : ¬ k < s.size) : s.data.toList.drop k = [] := by
  rw [List.drop_of_length_le (by simpa using h)]
theorem rd_zero {k : Nat} {q : Int} {d : UInt8} {t : List UInt8} {R : Int × Int × Int} (h : rd k q (d :: t) = R) (h1 : (d.toNat : Int) < 128) (h2 : (d.toNat : Int) = 0) (h3 : 0 < k) : R = (0, 0, 11) := by
  rw [← h, rd_cons, if_pos h1, if_pos ⟨h2, h3⟩]
theorem rd_last {k : Nat} {q : Int} {d : UInt8} {t : List UInt8} {R : Int × Int × Int} (h : rd k q (d :: t) = R) (h1 : (d.toNat : Int) < 128) (h2 : ¬ ((d.toNat : Int) = 0 ∧ 0 < k)) : R = (q + (d.toNat : Int) * 128 ^ k, (k : Int) + 1, 0) := by
  rw [← h, rd_cons, if_pos h1, if_neg h2]
theorem rd_nine {k : Nat} {q : Int} {d : UInt8} {t : List UInt8} {R : Int × Int × Int} (h : rd k q (d :: t) = R) (h1 : ¬ (d.toNat : Int) < 128) (h3 : k = 8) : R = (0, 0, 11) := by
  rw [← h, rd_cons, if_neg h1, if_pos h3]
theorem rd_more {k : Nat} {q : Int} {d : UInt8} {t : List UInt8} {R : Int × Int × Int} (h : rd k q (d :: t) = R) (h1 : ¬ (d.toNat : Int) < 128) (h3 : ¬ k = 8) : rd (k + 1) (q + ((d.toNat : Int) - 128) * 128 ^ k) t = R := by
  rw [← h, rd_cons, if_neg h1, if_neg h3]
/-- The sevens of a number. -/
def sevF : Nat → Nat → List UInt8
  | 0, n => [UInt8.ofNat n]
  | f + 1, n => if n < 128 then [UInt8.ofNat n] else UInt8.ofNat (n % 128 + 128) :: sevF f (n / 128)
def sev (n : Nat) : List UInt8 := sevF 9 n
theorem sevF_len (f n : Nat) : (sevF f n).length ≤ f + 1 := by
  induction f generalizing n with
  | zero => simp [sevF]
  | succ f ih =>
    rw [sevF]
    split
    · simp
    · simp only [List.length_cons]; have := ih (n / 128); omega
theorem sevF_end {f n : Nat} (h : n < 128) : sevF f n = [UInt8.ofNat n] := by
  cases f with
  | zero => rfl
  | succ f => rw [sevF, if_pos h]
theorem sevF_more {f n : Nat} (h : ¬ n < 128) : sevF (f + 1) n = UInt8.ofNat (n % 128 + 128) :: sevF f (n / 128) := by rw [sevF, if_neg h]
theorem sevF_step {f q : Nat} {l' t : List UInt8} (h : l' ++ sevF f q = t) (hq : q < 128 ^ f) (h1 : ¬ q < 128) : ∃ f', f = f' + 1 ∧ (l' ++ [UInt8.ofNat (q % 128 + 128)]) ++ sevF f' (q / 128) = t ∧ q / 128 < 128 ^ f' := by
  cases f with
  | zero => simp at hq; omega
  | succ f =>
    refine ⟨f, rfl, ?_, ?_⟩
    · rw [← h, sevF_more h1]; simp
    · rw [Nat.pow_succ] at hq; omega
theorem pow_le9 (i : Nat) (hi : i ≤ 8) : (128 : Int) ^ (i + 1) ≤ 9223372036854775808 := by
  have hc : i = 0 ∨ i = 1 ∨ i = 2 ∨ i = 3 ∨ i = 4 ∨ i = 5 ∨ i = 6 ∨ i = 7 ∨ i = 8 := by omega
  rcases hc with rfl | rfl | rfl | rfl | rfl | rfl | rfl | rfl | rfl <;> decide
theorem rd_cases (l : List UInt8) (i : Nat) (q : Int) (hi : i ≤ 8) (q0 : 0 ≤ q) (q1 : q < 128 ^ i) :
    rd i q l = (0, 0, 10) ∨ rd i q l = (0, 0, 11) ∨ ∃ (n : Int) (k : Nat), rd i q l = (n, (k : Int), 0) ∧ 0 ≤ n ∧ n < 9223372036854775808 ∧ i < k ∧ k ≤ i + l.length ∧ k ≤ 9 := by
  induction l generalizing i q with
  | nil => exact .inl rfl
  | cons d t ih =>
    have hd := d.toNat_lt
    rw [rd_cons]
    split
    · split
      · exact .inr (.inl rfl)
      · have h := or_shift i q (d.toNat : Int) hi q0 q1 (by omega) (by omega)
        refine .inr (.inr ⟨_, i + 1, rfl, h.2.1, ?_, by omega, by simp, by omega⟩)
        have h9 := pow_le9 i hi
        omega
    · split
      · exact .inr (.inl rfl)
      · have h := or_shift i q ((d.toNat : Int) - 128) hi q0 q1 (by omega) (by omega)
        rcases ih (i + 1) _ (by omega) h.2.1 h.2.2 with h1 | h1 | ⟨n, k, h1, h2, h3, h4, h5, h6⟩
        · exact .inl h1
        · exact .inr (.inl h1)
        · exact .inr (.inr ⟨n, k, h1, h2, h3, by omega, by simp; omega, h6⟩)
/-- What a Reader's Num takes of bytes: the number, what is left, what is wrong. -/
def rdN (most : Int) (l : List UInt8) : Int × List UInt8 × Int :=
  if (rd 0 0 l).2.2 = 0 then (if max most 0 < (rd 0 0 l).1 then (0, [], 11) else ((rd 0 0 l).1, l.drop (rd 0 0 l).2.1.toNat, 0)) else (0, [], (rd 0 0 l).2.2)
/-- What a Reader's Text takes of bytes. -/
def rdT (most : Int) (l : List UInt8) : List UInt8 × List UInt8 × Int :=
  if (rdN most l).2.2 = 0 then (if ((rdN most l).2.1.length : Int) < (rdN most l).1 then ([], [], 10) else ((rdN most l).2.1.take (rdN most l).1.toNat, (rdN most l).2.1.drop (rdN most l).1.toNat, 0)) else ([], [], (rdN most l).2.2)
end Go.Proofs.YtpnbhddmdfcjdaaGreat
namespace Go.Proofs.YtpnbhddmdfcjdaaGreat
open Go.RowKit
theorem set_rep (j : Nat) (d : List UInt8) (u : UInt8) : (List.replicate (j + 1) 0 ++ d).set j u = List.replicate j 0 ++ u :: d := by
  induction j with
  | zero => rfl
  | succ j ih =>
    rw [List.replicate_succ, List.cons_append, List.set_cons_succ, ih]
    rfl
/-- The lowest so many bytes of a number, the highest one first. -/
def bigF : Nat → Nat → List UInt8
  | 0, _ => []
  | k + 1, n => bigF k (n / 256) ++ [UInt8.ofNat (n % 256)]
theorem bigF_len (k n : Nat) : (bigF k n).length = k := by
  induction k generalizing n with
  | zero => rfl
  | succ k ih => simp [bigF, ih]
theorem Tryz.infoByte : (Tryz.prog.info? 5).map (fun i => (i.zero, i.size, i.bytes)) = some (some (.int .u8 0), 1, 1) := by kernel_rfl
set_option maxHeartbeats 400000 in
theorem of_any (s : ByteArray) (w : World) (hs : s.size ≤ maxLen) :
    Calls Tryz.prog 98 #[.string s] w fun e w' => e = .returned (.int .i64 (ofTo s.data.toList % 9223372036854775808)) ∧ w' = w := by
  unfold maxLen at hs
  go_enter Tryz.func98, Tryz.ntmps98
  go_wp2
  go_loop [3, 4] (fun c i => ∃ (k : Nat) (q : Int), k ≤ s.size ∧ i = .int .i64 k ∧ c = .int .u64 q ∧ q = ofTo (s.data.toList.take k) ∧ 0 ≤ q ∧ q < 18446744073709551616) (fun _ i => s.size - (intOf i).toNat)
  case atStart => exact ⟨0, 0, Nat.zero_le _, rfl, rfl, rfl, by decide, by decide⟩
  case round =>
    obtain ⟨k, q, hk, rfl, rfl, hq, q0, q1⟩ := hrel
    have HQ : Hid (q = ofTo (s.data.toList.take k)) := hq
    clear hq
    by_cases hlt : k < s.size
    · have HS : Hid (ofTo (s.data.toList.take (k + 1)) = (q * 256 + (s[k].toNat : Int)) % 18446744073709551616) := by
        unfold Hid; rw [take_snoc s k hlt, ofTo_snoc, ← HQ.out]
      go_wp2
      go_round
      case rel => exact ⟨k + 1, ofTo (s.data.toList.take (k + 1)), by omega, by go_num, by rw [HS.out, of_step q s[k]], rfl, (ofTo_bd _).1, (ofTo_bd _).2⟩
      case measure => simp [intOf]; omega
    · have HT := take_all s k hlt
      have HO : Hid (q % 9223372036854775808 = ofTo s.data.toList % 9223372036854775808) := by unfold Hid; rw [HQ.out, HT]
      go_wp2
      go_ret
      exact ⟨ret_int (by rw [of_last q q0 q1]; exact HO.out), rfl⟩
theorem bytes_back (w : World) (base : Nat) (v : Value) (row : Option Nat) (l : List UInt8) (hr : Row w base v row l) : (convert 100 9 v).run Tryz.prog w = .ok (.string ⟨l.toArray⟩) w := by
  rcases hr.own.2 with ⟨rfl, hn⟩ | ⟨g, cap, cur, rfl, hb, hg, hn, hm, hs, htake⟩
  · have e : l = [] := List.eq_nil_of_length_eq_zero hn
    subst e
    rw [run_convert_bytes_nil w 100 5 Tryz.underlying100 Tryz.underlying5 0 0 9 Tryz.underlying9]
    rfl
  · refine run_convert_bytes_back w 100 9 5 ⟨g, 0, none⟩ cap l Tryz.underlying100 Tryz.underlying5 Tryz.underlying9 ?_
    intro j hj
    refine hr.own.cells (g := g) rfl j _ ?_
    unfold cells
    simp [List.getElem?_eq_getElem hj]
set_option maxRecDepth 100000 in
set_option maxHeartbeats 800000 in
theorem big_any (n k : Nat) (w : World) (hk : 1 ≤ k) (hk8 : k ≤ 8) (hn : n < 9223372036854775808) :
    Calls Tryz.prog 52 #[.int .i64 n, .int .i64 k] w fun e w' => e = .returned (.string ⟨(bigF k n).toArray⟩) ∧ Only (fun _ => False) w w' := by
  obtain ⟨i0, hi, hz0, hz1, hz2⟩ := info_parts Tryz.infoByte
  obtain ⟨w1, hmk, hown, hgr⟩ := run_make_full (P := Tryz.prog) w w.heap.size 100 5 i0 (.int .u8 0) 1 Tryz.underlying100 hi hz0 hz1 .i64 .i64 k (by rw [hz2]; omega) (by unfold maxLen; omega) (Nat.le_refl _)
  have hrow : Row w1 w.heap.size (.slice (some ⟨w.heap.size, 0, none⟩) k k) (some w.heap.size) (List.replicate k 0) := by
    refine ⟨?_, rfl⟩
    have e : (madeCells (Value.int .u8 0).cells (k * 1)).toList = cells (List.replicate k 0) := by
      have : (Value.int IntKind.u8 0).cells = #[.int .u8 0] := rfl
      rw [this, toList_madeCells_one]; simp [cells]
    rw [e] at hown
    simpa using hown
  have hon : Only (fun _ => False) w w1 := Only.grown hgr (fun k hk => by cases hk)
  have HROW := hide hrow
  have HON := hide hon
  clear hrow hon hgr hown
  go_enter Tryz.func52, Tryz.ntmps52
  go_wp2
  go_loopw [0, 6] (fun x i wr => ∃ (j q : Nat) (d : List UInt8), j ≤ k ∧ i = .int .i64 ((j : Int) - 1) ∧ x = .int .i64 q ∧ q < 9223372036854775808 ∧ Hid (bigF j q ++ d = bigF k n) ∧ Hid (Row wr w.heap.size (.slice (some ⟨w.heap.size, 0, none⟩) k k) (some w.heap.size) (List.replicate j 0 ++ d)) ∧ Hid (Only (fun _ => False) w wr))
    (fun _ i _ => (intOf i + 1).toNat)
  case atStart => exact ⟨k, n, [], by omega, rfl, rfl, hn, by unfold Hid; simp, by rw [List.append_nil]; exact HROW, HON⟩
  case round =>
    obtain ⟨j, q, d, hj, rfl, rfl, hq, HB, HR, HO⟩ := hrel
    by_cases hlt : 1 ≤ j
    · obtain ⟨j', rfl⟩ : ∃ j', j = j' + 1 := ⟨j - 1, by omega⟩
      obtain ⟨⟨v0, hc0⟩, hf0⟩ := HR.out.at0 (j := j') (by omega)
      go_wp2
      have hd : ((UInt8.ofNat (q % 256)).toNat : Int) = (q : Int) % 256 := by rw [byte_nat (by omega)]; omega
      have hst := HR.out.store j' (UInt8.ofNat (q % 256))
      rw [hd, set_rep] at hst
      have hB2 : bigF j' (q / 256) ++ UInt8.ofNat (q % 256) :: d = bigF k n := by rw [← HB.out, bigF]; simp
      go_roundw
      case rel => exact ⟨j', q / 256, UInt8.ofNat (q % 256) :: d, by omega, by go_num, by go_num, by omega, hB2, hst.1, HO.out.trans hst.2 (fun i h1 h2 => by omega)⟩
      case measure => simp [intOf]
    · have e0 : j = 0 := by omega
      have hB2 : d = bigF k n := by have h := HB.out; rw [e0] at h; simpa [bigF] using h
      have hR2 := HR.out
      rw [e0, hB2] at hR2
      have hR3 : Row wr w.heap.size (.slice (some ⟨w.heap.size, 0, none⟩) k k) (some w.heap.size) (bigF k n) := by simpa using hR2
      have hcv := bytes_back wr _ _ _ _ hR3
      clear hR2 hB2
      have HR3 := hide hR3
      clear hR3
      go_wp2
      go_ret
      exact ⟨rfl, HO.out⟩
theorem of_ref (o : Int) (b : UInt8) : o % 9223372036854775808 % 36028797018963968 * 256 + (b.toNat : Int) = (o * 256 + (b.toNat : Int)) % 18446744073709551616 % 9223372036854775808 := by
  have hb := b.toNat_lt
  omega
set_option maxRecDepth 100000 in
set_option maxHeartbeats 800000 in
theorem refOf_any (s : ByteArray) (w : World) (hs : s.size ≤ maxLen) :
    Calls Tryz.prog 61 #[.string s] w fun e w' => e = .returned (.int .i64 (ofTo s.data.toList % 9223372036854775808)) ∧ w' = w := by
  unfold maxLen at hs
  go_enter Tryz.func61, Tryz.ntmps61
  go_wp2
  go_loop [3, 4] (fun c i => ∃ (k : Nat) (q : Int), k ≤ s.size ∧ i = .int .i64 k ∧ c = .int .i64 q ∧ Hid (q = ofTo (s.data.toList.take k) % 9223372036854775808) ∧ 0 ≤ q ∧ q < 9223372036854775808) (fun _ i => s.size - (intOf i).toNat)
  case atStart => exact ⟨0, 0, Nat.zero_le _, rfl, rfl, rfl, by decide, by decide⟩
  case round =>
    obtain ⟨k, q, hk, rfl, rfl, HQ, q0, q1⟩ := hrel
    by_cases hlt : k < s.size
    · have HS : Hid (q % 36028797018963968 * 256 + (s[k].toNat : Int) = ofTo (s.data.toList.take (k + 1)) % 9223372036854775808) := by
        unfold Hid; rw [take_snoc s k hlt, ofTo_snoc, HQ.out, of_ref]
      have hb := s[k].toNat_lt
      go_wp2
      go_round
      case rel => exact ⟨k + 1, _, by omega, by go_num, rfl, HS, by omega, by omega⟩
      case measure => simp [intOf]; omega
    · have HT := take_all s k hlt
      have HO : Hid (q = ofTo s.data.toList % 9223372036854775808) := by unfold Hid; rw [HQ.out, HT]
      go_wp2
      go_ret
      exact ⟨ret_int HO.out, rfl⟩
set_option maxRecDepth 100000 in
set_option maxHeartbeats 800000 in
theorem refBig_any (n k : Nat) (w : World) (hk : 1 ≤ k) (hk8 : k ≤ 8) (hn : n < 9223372036854775808) :
    Calls Tryz.prog 108 #[.int .i64 n, .int .i64 k] w fun e w' => e = .returned (.string ⟨(bigF k n).toArray⟩) ∧ Only (fun _ => False) w w' := by
  obtain ⟨i0, hi, hz0, hz1, hz2⟩ := info_parts Tryz.infoByte
  obtain ⟨w1, hmk, hown, hgr⟩ := run_make_full (P := Tryz.prog) w w.heap.size 100 5 i0 (.int .u8 0) 1 Tryz.underlying100 hi hz0 hz1 .i64 .i64 k (by rw [hz2]; omega) (by unfold maxLen; omega) (Nat.le_refl _)
  have hrow : Row w1 w.heap.size (.slice (some ⟨w.heap.size, 0, none⟩) k k) (some w.heap.size) (List.replicate k 0) := by
    refine ⟨?_, rfl⟩
    have e : (madeCells (Value.int .u8 0).cells (k * 1)).toList = cells (List.replicate k 0) := by
      have : (Value.int IntKind.u8 0).cells = #[.int .u8 0] := rfl
      rw [this, toList_madeCells_one]; simp [cells]
    rw [e] at hown
    simpa using hown
  have hon : Only (fun _ => False) w w1 := Only.grown hgr (fun k hk => by cases hk)
  have HROW := hide hrow
  have HON := hide hon
  clear hrow hon hgr hown
  go_enter Tryz.func108, Tryz.ntmps108
  go_wp2
  go_loopw [0, 6] (fun x i wr => ∃ (j q : Nat) (d : List UInt8), j ≤ k ∧ i = .int .i64 ((j : Int) - 1) ∧ x = .int .i64 q ∧ q < 9223372036854775808 ∧ Hid (bigF j q ++ d = bigF k n) ∧ Hid (Row wr w.heap.size (.slice (some ⟨w.heap.size, 0, none⟩) k k) (some w.heap.size) (List.replicate j 0 ++ d)) ∧ Hid (Only (fun _ => False) w wr))
    (fun _ i _ => (intOf i + 1).toNat)
  case atStart => exact ⟨k, n, [], by omega, rfl, rfl, hn, by unfold Hid; simp, by rw [List.append_nil]; exact HROW, HON⟩
  case round =>
    obtain ⟨j, q, d, hj, rfl, rfl, hq, HB, HR, HO⟩ := hrel
    by_cases hlt : 1 ≤ j
    · obtain ⟨j', rfl⟩ : ∃ j', j = j' + 1 := ⟨j - 1, by omega⟩
      obtain ⟨⟨v0, hc0⟩, hf0⟩ := HR.out.at0 (j := j') (by omega)
      go_wp2
      have hd : ((UInt8.ofNat (q % 256)).toNat : Int) = (q : Int) % 256 := by rw [byte_nat (by omega)]; omega
      have hst := HR.out.store j' (UInt8.ofNat (q % 256))
      rw [hd, set_rep] at hst
      have hB2 : bigF j' (q / 256) ++ UInt8.ofNat (q % 256) :: d = bigF k n := by rw [← HB.out, bigF]; simp
      go_roundw
      case rel => exact ⟨j', q / 256, UInt8.ofNat (q % 256) :: d, by omega, by go_num, by go_num, by omega, hB2, hst.1, HO.out.trans hst.2 (fun i h1 h2 => by omega)⟩
      case measure => simp [intOf]
    · have e0 : j = 0 := by omega
      have hB2 : d = bigF k n := by have h := HB.out; rw [e0] at h; simpa [bigF] using h
      have hR2 := HR.out
      rw [e0, hB2] at hR2
      have hR3 : Row wr w.heap.size (.slice (some ⟨w.heap.size, 0, none⟩) k k) (some w.heap.size) (bigF k n) := by simpa using hR2
      have hcv := bytes_back wr _ _ _ _ hR3
      clear hR2 hB2
      have HR3 := hide hR3
      clear hR3
      go_wp2
      go_ret
      exact ⟨rfl, HO.out⟩
structure Pg where
  lsn : Int
  kind : Int
  level : Int
  right : Int
  high : ByteArray
  items : List ByteArray
abbrev bl (s : ByteArray) : List UInt8 := s.data.toList
theorem bl_len (s : ByteArray) : (bl s).length = s.size := by rw [Array.length_toList]; rfl
def str (l : List UInt8) : ByteArray := ⟨l.toArray⟩
theorem bl_str (l : List UInt8) : bl (str l) = l := rfl
theorem str_bl (s : ByteArray) : str (bl s) = s := by obtain ⟨⟨l⟩⟩ := s; rfl
theorem str_size (l : List UInt8) : (str l).size = l.length := rfl
/-- The bytes that items need. -/
def isz (l : List ByteArray) : Nat := (l.map fun s => 2 + s.size).sum
theorem isz_nil : isz [] = 0 := rfl
theorem isz_cons (s : ByteArray) (l : List ByteArray) : isz (s :: l) = 2 + s.size + isz l := by simp [isz]
theorem isz_app (l m : List ByteArray) : isz (l ++ m) = isz l + isz m := by simp [isz]
theorem isz_snoc (l : List ByteArray) (k : Nat) (h : k < l.length) : isz (l.take (k + 1)) = isz (l.take k) + (2 + l[k].size) := by
  rw [List.take_succ_eq_append_getElem h, isz_app, isz_cons, isz_nil, Nat.add_zero]
def u8 (n : Int) : UInt8 := UInt8.ofNat n.toNat
theorem ofTo_small (l : List UInt8) (h : l.length ≤ 8) : 0 ≤ ofTo l ∧ ofTo l < 256 ^ l.length := by
  induction hn : l.length generalizing l with
  | zero => have : l = [] := List.eq_nil_of_length_eq_zero hn; subst this; exact ⟨by decide, by decide⟩
  | succ n ih =>
    rcases List.eq_nil_or_concat l with rfl | ⟨l', b, rfl⟩
    · simp at hn
    · rw [List.concat_eq_append] at hn h ⊢
      have hl : l'.length = n := by simpa using hn
      have h1 := ih l' (by simp at h; omega) hl
      have hb := b.toNat_lt
      rw [ofTo_snoc]
      have hp : (256 : Int) ^ (n + 1) = 256 ^ n * 256 := Int.pow_succ 256 n
      have hle : (256 : Int) ^ n ≤ 72057594037927936 := by
        have : n ≤ 7 := by simp at h; omega
        have hc : n = 0 ∨ n = 1 ∨ n = 2 ∨ n = 3 ∨ n = 4 ∨ n = 5 ∨ n = 6 ∨ n = 7 := by omega
        rcases hc with rfl | rfl | rfl | rfl | rfl | rfl | rfl | rfl <;> decide
      rw [hp]
      rw [Int.emod_eq_of_lt (by omega) (by omega)]
      omega
theorem ofTo_big (k n : Nat) (hk : k ≤ 8) (hn : n < 256 ^ k) : ofTo (bigF k n) = n := by
  induction k generalizing n with
  | zero => simp at hn; subst hn; rfl
  | succ k ih =>
    rw [bigF, ofTo_snoc, ih (n / 256) (by omega) (by rw [Nat.pow_succ] at hn; omega), byte_nat (by omega)]
    have hle : n < 18446744073709551616 := by
      have : k ≤ 7 := by omega
      have hc : k = 0 ∨ k = 1 ∨ k = 2 ∨ k = 3 ∨ k = 4 ∨ k = 5 ∨ k = 6 ∨ k = 7 := by omega
      rcases hc with rfl | rfl | rfl | rfl | rfl | rfl | rfl | rfl <;> simp at hn <;> omega
    omega
theorem big_ofTo (l : List UInt8) (h : l.length ≤ 8) : bigF l.length (ofTo l).toNat = l := by
  induction hn : l.length generalizing l with
  | zero => have : l = [] := List.eq_nil_of_length_eq_zero hn; subst this; rfl
  | succ n ih =>
    rcases List.eq_nil_or_concat l with rfl | ⟨l', b, rfl⟩
    · simp at hn
    · rw [List.concat_eq_append] at hn h ⊢
      have hl : l'.length = n := by simpa using hn
      have h1 := ih l' (by simp at h; omega) hl
      have hs := ofTo_small l' (by simp at h; omega)
      rw [hl] at hs
      have hb := b.toNat_lt
      have hle : (256 : Int) ^ n ≤ 72057594037927936 := by
        have : n ≤ 7 := by simp at h; omega
        have hc : n = 0 ∨ n = 1 ∨ n = 2 ∨ n = 3 ∨ n = 4 ∨ n = 5 ∨ n = 6 ∨ n = 7 := by omega
        rcases hc with rfl | rfl | rfl | rfl | rfl | rfl | rfl | rfl <;> decide
      rw [ofTo_snoc, Int.emod_eq_of_lt (by omega) (by omega), bigF]
      have e1 : (ofTo l' * 256 + (b.toNat : Int)).toNat / 256 = (ofTo l').toNat := by omega
      have e2 : (ofTo l' * 256 + (b.toNat : Int)).toNat % 256 = b.toNat := by omega
      rw [e1, e2, h1, UInt8.ofNat_toNat]
def more (a : List ByteArray) : Option (List ByteArray × List UInt8) → Option (List ByteArray × List UInt8)
  | none => none
  | some (l, r) => some (a ++ l, r)
/-- A modulus. -/
def Md (m : Int) : Prop := 16 ≤ m ∧ m ≤ 1024 ∧ m % 2 = 0
instance (m : Int) : Decidable (Md m) := by unfold Md; infer_instance
/-- An id of the modulus m. -/
def Idd (m x : Int) : Prop := Md m ∧ 1 ≤ x ∧ x ≤ m
instance (m x : Int) : Decidable (Idd m x) := by unfold Idd; infer_instance
def xadd (m x n : Int) : Int := if Idd m x then (x - 1 + n) % m + 1 else 0
def xgap (m a b : Int) : Int := if Idd m a ∧ Idd m b then (b - a) % m else 0
def xbef (m a b : Int) : Bool := decide (1 ≤ xgap m a b ∧ xgap m a b ≤ m / 2 - 1)
/-- A number that an int may be. -/
def I64 (n : Int) : Prop := -9223372036854775808 ≤ n ∧ n < 9223372036854775808
theorem tmod2 {m : Int} (h : 0 ≤ m) : m.tmod 2 = m % 2 := Int.tmod_eq_emod_of_nonneg h
theorem emod_bd {m n : Int} (h : 16 ≤ m) : 0 ≤ n % m ∧ n % m < m := ⟨Int.emod_nonneg n (by omega), Int.emod_lt_of_pos n (by omega)⟩
theorem tmod_two {m n : Int} (h : 16 ≤ m) : n.tmod m = n % m ∨ (n.tmod m = n % m - m ∧ 0 < n % m) := by
  have h1 : n.tmod m = n % m - ↑(if 0 ≤ n ∨ m ∣ n then 0 else m.natAbs) := Int.tmod_eq_emod
  by_cases hc : 0 ≤ n ∨ m ∣ n
  · rw [if_pos hc] at h1
    exact .inl (by omega)
  · rw [if_neg hc] at h1
    have h2 := emod_bd (n := n) h
    have h3 : ¬ n % m = 0 := fun e => hc (.inr (Int.dvd_of_emod_eq_zero e))
    exact .inr ⟨by omega, by omega⟩
theorem tmod_bd {m n : Int} (h : 16 ≤ m) : -m < n.tmod m ∧ n.tmod m < m := by
  have h2 := emod_bd (n := n) h
  rcases tmod_two (n := n) h with e | ⟨e, _⟩ <;> rw [e] <;> omega
theorem around_is {m n : Int} (h : 16 ≤ m) : (n.tmod m + m).tmod m = n % m := by
  have h2 := emod_bd (n := n) h
  have h4 := tmod_bd (n := n) h
  rw [Int.tmod_eq_emod_of_nonneg (show 0 ≤ n.tmod m + m by omega)]
  rcases tmod_two (n := n) h with e | ⟨e, _⟩ <;> rw [e]
  · rw [Int.add_emod_right]; exact Int.emod_eq_of_lt h2.1 h2.2
  · rw [Int.sub_add_cancel]; exact Int.emod_eq_of_lt h2.1 h2.2
theorem plus_mod (y n m : Int) : (y + n % m) % m = (y + n) % m := by
  rw [Int.add_emod, Int.emod_emod_of_dvd _ (Int.dvd_refl m), ← Int.add_emod]
theorem add_is {m y n : Int} (h : 16 ≤ m) : (y + n.tmod m) % m = (y + n) % m := by
  rcases tmod_two (n := n) h with e | ⟨e, _⟩ <;> rw [e]
  · exact plus_mod y n m
  · rw [show y + (n % m - m) = y + n % m - m from by omega, Int.sub_emod_right]; exact plus_mod y n m
theorem xgap_bd {m a b : Int} : 0 ≤ xgap m a b ∧ xgap m a b < 1024 := by
  unfold xgap
  split
  · rename_i h
    have := emod_bd (m := m) (n := b - a) h.1.1.1
    have := h.1.1.2.1
    omega
  · omega
theorem xadd_id {m x n : Int} (h : Idd m x) : Idd m (xadd m x n) := by
  unfold xadd
  rw [if_pos h]
  have := emod_bd (m := m) (n := x - 1 + n) h.1.1
  exact ⟨h.1, by omega, by omega⟩
theorem xadd_bd {m x n : Int} : 0 ≤ xadd m x n ∧ xadd m x n ≤ 1024 := by
  by_cases h : Idd m x
  · have h1 := xadd_id (n := n) h
    have := h1.1.2.1
    have := h1.2
    omega
  · unfold xadd; rw [if_neg h]; omega
theorem mod_near {m y : Int} (h0 : 0 ≤ y) (h1 : y < 2 * m) : y % m = if y < m then y else y - m := by
  split
  · exact Int.emod_eq_of_lt h0 (by omega)
  · have e : y = (y - m) + m := by omega
    rw [e, Int.add_emod_right, Int.emod_eq_of_lt (by omega) (by omega)]
    omega
theorem mod_back {m y : Int} (h0 : -m ≤ y) (h1 : y < m) : y % m = if 0 ≤ y then y else y + m := by
  split
  · exact Int.emod_eq_of_lt (by omega) (by omega)
  · have e : y = (y + m) - m := by omega
    rw [e, Int.sub_emod_right, Int.emod_eq_of_lt (by omega) (by omega)]
    omega
/-- Some steps on, in plain words. -/
theorem ring_on {m a n : Int} (h : Idd m a) (h0 : 0 ≤ n) (h1 : n < m) : xadd m a n = if a + n ≤ m then a + n else a + n - m := by
  have hm := h.1.1
  have h2 := h.2
  unfold xadd
  rw [if_pos h, mod_near (by omega) (by omega)]
  split <;> split <;> omega
theorem ring_gap {m a b : Int} (h : Idd m a) (h' : Idd m b) : xgap m a b = if a ≤ b then b - a else b - a + m := by
  have hm := h.1.1
  have h2 := h.2
  have h3 := h'.2
  unfold xgap
  rw [if_pos ⟨h, h'⟩, mod_back (by omega) (by omega)]
  split <;> split <;> omega
theorem xgap_lt {m a b : Int} (h : Idd m a) (h' : Idd m b) : 0 ≤ xgap m a b ∧ xgap m a b < m := by
  have := h.2
  have := h'.2
  rw [ring_gap h h']
  split <;> omega
/-- Up to the gap only the gap itself leads there. -/
theorem gap_first {m a b n : Int} (h : Idd m a) (h' : Idd m b) (h0 : 0 ≤ n) (h1 : n ≤ xgap m a b) : (xadd m a n = b ↔ n = xgap m a b) := by
  have := xgap_lt h h'
  have := h.2
  have := h'.2
  rw [ring_on h h0 (by omega)]
  rw [ring_gap h h'] at *
  split at * <;> split at * <;> omega
/-- The Writer in block b, whose bytes lie in block row. -/
structure Wr (w : World) (b : Nat) (row : Option Nat) (l : List UInt8) : Prop where
  ex : ∃ v, w.cell? ⟨b, 0, none⟩ = some v ∧ Row w (b + 1) v row l
  fz : w.frozen? ⟨b, 0, none⟩ = false
  lt : b < w.heap.size
/-- The Reader in block r. -/
structure Rd (w : World) (r : Nat) (s : ByteArray) (x : Int) : Prop where
  c0 : w.cell? ⟨r, 0, none⟩ = some (.string s)
  c1 : w.cell? ⟨r, 1, none⟩ = some (.int .i64 x)
  f0 : w.frozen? ⟨r, 0, none⟩ = false
  f1 : w.frozen? ⟨r, 1, none⟩ = false
  lt : r < w.heap.size
theorem Wr.kept {S : Nat → Prop} {w w' : World} {b : Nat} {row : Option Nat} {l : List UInt8} (h : Wr w b row l) (ho : Only S w w') (hb : ¬ S b) (hS : ∀ k, row = some k → ¬ S k) : Wr w' b row l := by
  obtain ⟨⟨v, hc, hr⟩, hf, hl⟩ := h
  exact ⟨⟨v, (ho.cell (p := ⟨b, 0, none⟩) hl hb).trans hc, hr.kept ho hS⟩, (ho.frozen (p := ⟨b, 0, none⟩) hl hb).trans hf, Nat.lt_of_lt_of_le hl ho.size⟩
theorem Wr.rowLt {w : World} {b : Nat} {row : Option Nat} {l : List UInt8} (h : Wr w b row l) : ∀ k, row = some k → b < k ∧ k < w.heap.size := by
  obtain ⟨v, _, hr⟩ := h.ex
  intro k hk
  have := hr.lt k hk
  omega
theorem Rd.kept {S : Nat → Prop} {w w' : World} {r : Nat} {s : ByteArray} {x : Int} (h : Rd w r s x) (ho : Only S w w') (hr : ¬ S r) : Rd w' r s x :=
  ⟨(ho.cell (p := ⟨r, 0, none⟩) h.lt hr).trans h.c0, (ho.cell (p := ⟨r, 1, none⟩) h.lt hr).trans h.c1, (ho.frozen (p := ⟨r, 0, none⟩) h.lt hr).trans h.f0, (ho.frozen (p := ⟨r, 1, none⟩) h.lt hr).trans h.f1, Nat.lt_of_lt_of_le h.lt ho.size⟩
/-- A Writer in block b has laid more. -/
structure WGro (w w' : World) (b : Nat) (row row' : Option Nat) : Prop where
  only : Only (fun k => k = b ∨ some k = row) w w'
  new : row' = row ∨ ∃ g, row' = some g ∧ w.heap.size ≤ g
theorem WGro.refl (w : World) (b : Nat) (row : Option Nat) : WGro w w b row row := ⟨Only.refl _ _, .inl rfl⟩
theorem WGro.trans {a b c : World} {B : Nat} {r0 r1 r2 : Option Nat} (h : WGro a b B r0 r1) (k : WGro b c B r1 r2) : WGro a c B r0 r2 := by
  refine ⟨h.only.trans k.only ?_, ?_⟩
  · intro i hi ht
    rcases ht with ht | ht
    · exact .inl ht
    · rcases h.new with e | ⟨g, e, hg⟩
      · rw [← e]; exact .inr ht
      · rw [e] at ht; injection ht with ht; omega
  · rcases k.new with e | ⟨g, e, hg⟩
    · rw [e]; exact h.new
    · exact .inr ⟨g, e, Nat.le_trans h.only.size hg⟩
theorem Gro.wgro {w w' : World} {row row' : Option Nat} (h : Gro w w' row row') (b : Nat) : WGro w w' b row row' := ⟨h.only.mono (fun _ _ => .inr), h.new⟩
theorem WGro.store {w w' : World} {b : Nat} {row row' : Option Nat} (h : WGro w w' b row row') (v : Value) : WGro w (w'.setCell ⟨b, 0, none⟩ v) b row row' :=
  ⟨h.only.trans (Only.setCell w' ⟨b, 0, none⟩ v rfl) (fun _ _ e => .inl e) (T := fun k => k = b), h.new⟩
theorem WGro.alloc (w : World) (o : Obj) (b : Nat) (row : Option Nat) : WGro w (w.alloc o) b row row := (Gro.alloc w o row).wgro b
theorem Wr.stored {w : World} {b : Nat} {row : Option Nat} {l : List UInt8} {u v : Value} (hc : w.cell? ⟨b, 0, none⟩ = some u) (hf : w.frozen? ⟨b, 0, none⟩ = false) (hr : Row w (b + 1) v row l) : Wr (w.setCell ⟨b, 0, none⟩ v) b row l := by
  have hb : b < w.heap.size := World.block_lt_of_cell? w ⟨b, 0, none⟩ hc
  refine ⟨⟨v, World.cell?_setCell_same w ⟨b, 0, none⟩ v hc, hr.kept (Only.setCell (S := fun k => k = b) w ⟨b, 0, none⟩ v rfl) ?_⟩, by simpa using hf, by simpa using hb⟩
  intro k hk e
  have := hr.lt k hk
  omega
theorem Rd.set0 {w : World} {r : Nat} {s : ByteArray} {x : Int} (h : Rd w r s x) (t : ByteArray) : Rd (w.setCell ⟨r, 0, none⟩ (.string t)) r t x :=
  ⟨World.cell?_setCell_same _ _ _ h.c0, (World.cell?_setCell_other _ _ _ _ (by simp)).trans h.c1, by simpa using h.f0, by simpa using h.f1, by simpa using h.lt⟩
theorem Rd.set1 {w : World} {r : Nat} {s : ByteArray} {x : Int} (h : Rd w r s x) (y : Int) : Rd (w.setCell ⟨r, 1, none⟩ (.int .i64 y)) r s y :=
  ⟨(World.cell?_setCell_other _ _ _ _ (by simp)).trans h.c0, World.cell?_setCell_same _ _ _ h.c1, by simpa using h.f0, by simpa using h.f1, by simpa using h.lt⟩
theorem Wr.new (w : World) : Wr (w.alloc (.cells #[.slice none 0 0] 166)) w.heap.size none [] :=
  ⟨⟨.slice none 0 0, by simp, ⟨World.ownsRow_nil _ _ _ _, rfl⟩⟩, by simp, by simp⟩
theorem Rd.new (w : World) (s : ByteArray) : Rd (w.alloc (.cells #[.string s, .int .i64 0] 179)) w.heap.size s 0 :=
  ⟨by simp, by simp, by simp, by simp, by simp⟩
theorem Rd.alloc {w : World} {r : Nat} {s : ByteArray} {x : Int} (h : Rd w r s x) (o : Obj) : Rd (w.alloc o) r s x := h.kept (Only.alloc (fun _ => False) w o) (fun h => h)
/-- The sevens of each number; one below 0 counts as 0. -/
def nums (zs : List Int) : List UInt8 := (zs.map fun z => sev z.toNat).flatten
theorem nums_snoc (zs : List Int) (k : Nat) (h : k < zs.length) : nums (zs.take (k + 1)) = nums (zs.take k) ++ sev (zs.getD k 0).toNat := by
  have e : zs.getD k 0 = zs[k] := by simp [List.getD, List.getElem?_eq_getElem h]
  rw [List.take_succ_eq_append_getElem h, e]
  unfold nums
  rw [List.map_append, List.flatten_append]
  simp
theorem nums_len (zs : List Int) : (nums zs).length ≤ 10 * zs.length := by
  induction zs with
  | nil => simp [nums]
  | cons z zs ih =>
    have h : (sev z.toNat).length ≤ 10 := sevF_len 9 z.toNat
    simp only [nums, List.map_cons, List.flatten_cons, List.length_append, List.length_cons] at ih ⊢
    omega
theorem new_any (w : World) :
    Calls Tryz.prog 82 #[] w fun e w' => e = .returned (.pointer (some ⟨w.heap.size, 0, none⟩)) ∧ w' = w.alloc (.cells #[.slice none 0 0] 166) := by
  go_enter Tryz.func82, Tryz.ntmps82
  go_wp2
  go_ret
  exact ⟨rfl, rfl⟩
theorem read_any (s : ByteArray) (w : World) :
    Calls Tryz.prog 97 #[.string s] w fun e w' => e = .returned (.pointer (some ⟨w.heap.size, 0, none⟩)) ∧ w' = w.alloc (.cells #[.string s, .int .i64 0] 179) := by
  go_enter Tryz.func97, Tryz.ntmps97
  go_wp2
  go_ret
  exact ⟨rfl, rfl⟩
theorem rerr_nil (w : World) : Calls Tryz.prog 141 #[.pointer none] w fun e w' => e = .returned (.int .i64 2) ∧ w' = w := by
  go_enter Tryz.func141, Tryz.ntmps141
  go_wp2
  go_ret
  exact ⟨rfl, rfl⟩
theorem rerr_any (w : World) (r : Nat) (x : Int) (hc : w.cell? ⟨r, 1, none⟩ = some (.int .i64 x)) : Calls Tryz.prog 141 #[.pointer (some ⟨r, 0, none⟩)] w fun e w' => e = .returned (.int .i64 x) ∧ w' = w := by
  go_enter Tryz.func141, Tryz.ntmps141
  go_wp2
  go_ret
  exact ⟨rfl, rfl⟩
theorem rleft_any (w : World) (r : Nat) (s : ByteArray) (hc : w.cell? ⟨r, 0, none⟩ = some (.string s)) : Calls Tryz.prog 143 #[.pointer (some ⟨r, 0, none⟩)] w fun e w' => e = .returned (.int .i64 s.size) ∧ w' = w := by
  go_enter Tryz.func143, Tryz.ntmps143
  go_wp2
  go_ret
  exact ⟨rfl, rfl⟩
theorem rend_nil (w : World) : Calls Tryz.prog 100 #[.pointer none] w fun e w' => e = .returned (.int .i64 2) ∧ w' = w := by
  go_enter Tryz.func100, Tryz.ntmps100
  go_wp2_with (go_at_call 141; refine (rerr_nil _).mono ?_; rintro e w' ⟨rfl, rfl⟩)
  go_ret
  exact ⟨rfl, rfl⟩
theorem rend_err (w : World) (r : Nat) (x : Int) (hc : w.cell? ⟨r, 1, none⟩ = some (.int .i64 x)) (hx : (x != 0) = true) : Calls Tryz.prog 100 #[.pointer (some ⟨r, 0, none⟩)] w fun e w' => e = .returned (.int .i64 x) ∧ w' = w := by
  go_enter Tryz.func100, Tryz.ntmps100
  go_wp2_with (go_at_call 141; refine (rerr_any _ r x hc).mono ?_; rintro e w' ⟨rfl, rfl⟩)
  go_ret
  exact ⟨rfl, rfl⟩
theorem rend_ok (w : World) (r : Nat) (s : ByteArray) (hc : w.cell? ⟨r, 1, none⟩ = some (.int .i64 0)) (hs : w.cell? ⟨r, 0, none⟩ = some (.string s)) : Calls Tryz.prog 100 #[.pointer (some ⟨r, 0, none⟩)] w fun e w' => e = .returned (.int .i64 (if s.size = 0 then 0 else 12)) ∧ w' = w := by
  by_cases hz : s.size = 0
  · rw [if_pos hz]
    have hz' : ¬ (0 : Int) < (s.size : Int) := by omega
    clear hz
    go_enter Tryz.func100, Tryz.ntmps100
    go_wp2_with (first | (go_at_call 141; refine (rerr_any _ r 0 hc).mono ?_; rintro e w' ⟨rfl, rfl⟩) | (go_at_call 143; refine (rleft_any _ r s hs).mono ?_; rintro e w' ⟨rfl, rfl⟩))
    go_ret
    exact ⟨rfl, rfl⟩
  · rw [if_neg hz]
    have hz' : (0 : Int) < (s.size : Int) := by omega
    clear hz
    go_enter Tryz.func100, Tryz.ntmps100
    go_wp2_with (first | (go_at_call 141; refine (rerr_any _ r 0 hc).mono ?_; rintro e w' ⟨rfl, rfl⟩) | (go_at_call 143; refine (rleft_any _ r s hs).mono ?_; rintro e w' ⟨rfl, rfl⟩))
    go_ret
    exact ⟨rfl, rfl⟩
theorem fail_any (w : World) (r : Nat) (s : ByteArray) (x y : Int) (h0 : w.cell? ⟨r, 0, none⟩ = some (.string s)) (h1 : w.cell? ⟨r, 1, none⟩ = some (.int .i64 y)) (f0 : w.frozen? ⟨r, 0, none⟩ = false) (f1 : w.frozen? ⟨r, 1, none⟩ = false) :
    Calls Tryz.prog 142 #[.pointer (some ⟨r, 0, none⟩), .int .i64 x] w fun e w' => e = .returned (.tuple #[]) ∧ w' = (w.setCell ⟨r, 0, none⟩ (.string ⟨#[]⟩)).setCell ⟨r, 1, none⟩ (.int .i64 x) := by
  go_enter Tryz.func142, Tryz.ntmps142
  go_wp2
  go_end0
  exact ⟨rfl, rfl⟩
set_option maxRecDepth 100000 in
set_option maxHeartbeats 800000 in
theorem sevens_any (s : ByteArray) (w : World) :
    Calls Tryz.prog 182 #[.string s] w fun e w' => e = .returned (.tuple #[.int .i64 (rd 0 0 s.data.toList).1, .int .i64 (rd 0 0 s.data.toList).2.1, .int .i64 (rd 0 0 s.data.toList).2.2]) ∧ w' = w := by
  obtain ⟨R, hR⟩ : ∃ R, rd 0 0 s.data.toList = R := ⟨_, rfl⟩
  rw [hR]
  have HR : Hid (rd 0 0 s.data.toList = R) := hR
  clear hR
  go_enter Tryz.func182, Tryz.ntmps182
  go_wp2
  go_loop [2, 5] (fun n i => ∃ (k : Nat) (q : Int), k ≤ s.size ∧ k ≤ 8 ∧ i = .int .i64 k ∧ n = .int .i64 q ∧ Hid (rd k q (s.data.toList.drop k) = R) ∧ 0 ≤ q ∧ Hid (q < 128 ^ k)) (fun _ i => s.size - (intOf i).toNat)
  case atStart => exact ⟨0, 0, Nat.zero_le _, by omega, rfl, rfl, HR, by omega, (by unfold Hid; decide)⟩
  case round =>
    obtain ⟨k, q, hk, hk8, rfl, rfl, HQ, q0, q1⟩ := hrel
    by_cases hlt : k < s.size
    · have hb := s[k].toNat_lt
      have HD : Hid (rd k q (s[k] :: s.data.toList.drop (k + 1)) = R) := by unfold Hid; rw [← drop_cons s k hlt]; exact HQ.out
      clear HQ
      by_cases h1 : (s[k].toNat : Int) < 128
      · have HO : Hid (bits BinOp.or IntKind.i64 q (wrap64 ((s[k].toNat : Int) * 2 ^ (7 * k))) = q + (s[k].toNat : Int) * 128 ^ k) := (or_shift k q _ hk8 q0 q1.out (by omega) h1).1
        by_cases h2 : (s[k].toNat : Int) = 0
        · have h2' : ((s[k].toNat : Int) == 0) = true := by simpa using h2
          by_cases h3 : 0 < k
          · have HE : Hid (R = (0, 0, 11)) := rd_zero HD.out h1 h2 h3
            clear h2
            go_wp2
            go_ret3
            rw [HE.out]
            exact ⟨rfl, rfl⟩
          · have HE : Hid (R = (q + (s[k].toNat : Int) * 128 ^ k, (k : Int) + 1, 0)) := rd_last HD.out h1 (by omega)
            clear h2
            go_wp2
            go_ret3
            rw [HE.out, HO.out]
            exact ⟨rfl, rfl⟩
        · have h2' : ((s[k].toNat : Int) == 0) = false := by simpa using h2
          have HE : Hid (R = (q + (s[k].toNat : Int) * 128 ^ k, (k : Int) + 1, 0)) := rd_last HD.out h1 (by omega)
          clear h2
          go_wp2
          go_ret3
          rw [HE.out, HO.out]
          exact ⟨rfl, rfl⟩
      · by_cases h3 : k = 8
        · have h3' : ((k : Int) == 8) = true := by simp; omega
          have HE : Hid (R = (0, 0, 11)) := rd_nine HD.out h1 h3
          clear h3
          go_wp2
          go_ret3
          rw [HE.out]
          exact ⟨rfl, rfl⟩
        · have h3' : ((k : Int) == 8) = false := by simp; omega
          have HO := or_shift k q ((s[k].toNat : Int) - 128) hk8 q0 q1.out (by omega) (by omega)
          have HO' : Hid (bits BinOp.or IntKind.i64 q (wrap64 (((s[k].toNat : Int) - 128) * 2 ^ (7 * k))) = q + ((s[k].toNat : Int) - 128) * 128 ^ k ∧ 0 ≤ q + ((s[k].toNat : Int) - 128) * 128 ^ k ∧ q + ((s[k].toNat : Int) - 128) * 128 ^ k < 128 ^ (k + 1)) := HO
          clear HO
          go_wp2
          go_round
          case rel => exact ⟨k + 1, q + ((s[k].toNat : Int) - 128) * 128 ^ k, by omega, by omega, by go_num, by rw [HO'.out.1], rd_more HD.out h1 h3, HO'.out.2.1, HO'.out.2.2⟩
          case measure => simp [intOf]; omega
    · have HE : Hid (R = (0, 0, 10)) := by
        unfold Hid; have h := HQ.out; rw [drop_none s k hlt] at h; rw [← h]; rfl
      go_wp2
      go_ret3
      rw [HE.out]
      exact ⟨rfl, rfl⟩
set_option maxRecDepth 100000 in
set_option maxHeartbeats 800000 in
theorem appendSevens_any (w : World) (v : Value) (row : Option Nat) (l : List UInt8) (base : Nat) (n : Nat) (hown : Row w base v row l) (hb : base ≤ w.heap.size) (hn : n < 9223372036854775808) (hl : l.length + 10 ≤ 158329674399744) :
    Calls Tryz.prog 130 #[v, .int .i64 n] w fun e w' => ∃ v' row', e = .returned v' ∧ Row w' base v' row' (l ++ sev n) ∧ Gro w w' row row' := by
  obtain ⟨i0, hi, hz0, hz1, hz2⟩ := info_parts Tryz.infoByte
  go_enter Tryz.func130, Tryz.ntmps130
  go_wp2
  go_loopw [0, 1] (fun x y wr => ∃ (q f : Nat) (row' : Option Nat) (l' : List UInt8), y = .int .i64 q ∧ Row wr base x row' l' ∧ f ≤ 9 ∧ q < 9223372036854775808 ∧ Hid (q < 128 ^ f) ∧ Hid (l' ++ sevF f q = l ++ sev n) ∧ Gro w wr row row' ∧ l'.length + f ≤ l.length + 9)
    (fun _ y _ => (intOf y).toNat)
  case atStart => exact ⟨n, 9, row, l, rfl, hown, by omega, hn, (by unfold Hid; omega), (by unfold Hid; rfl), Gro.refl _ _, by omega⟩
  case round =>
    obtain ⟨q, f, row', l', rfl, hr, hf, hq, Hq, HL, hgr, hlen⟩ := hrel
    by_cases hlt : (128 : Int) ≤ q
    · have hd : ∀ o : World, o = wr.alloc (.cells #[.int .u8 ((q : Int) % 128 + 128)] 5) → o.cell? ⟨wr.heap.size, 0, none⟩ = some (.int .u8 (((UInt8.ofNat (q % 128 + 128)).toNat : Nat) : Int)) := by
        intro o ho
        subst ho
        rw [byte_nat (by omega)]
        simp
      have HD : Hid (∀ o : World, o = wr.alloc (.cells #[.int .u8 ((q : Int) % 128 + 128)] 5) → o.cell? ⟨wr.heap.size, 0, none⟩ = some (.int .u8 (((UInt8.ofNat (q % 128 + 128)).toNat : Nat) : Int))) := hd
      clear hd
      go_wp2_with (at_builtin; go_must (refine wpList_byte _ rfl (.tmp 7) (.tmp 12) 100 rfl base i0 Tryz.underlying100 hi hz0 hz1 hz2 _ row' l' rfl (hr.alloc _) ⟨wr.heap.size, 0, none⟩ 1 (UInt8.ofNat (q % 128 + 128)) rfl (HD.out _ rfl) (by omega) (by have := hgr.only.size; simp; omega) ?_); intro v1 w1 row1 hr1 ho1 hrow1)
      obtain ⟨f', hf', HL', Hq'⟩ := sevF_step HL.out Hq.out (by omega)
      go_roundw
      case rel => exact ⟨q / 128, f', row1, l' ++ [UInt8.ofNat (q % 128 + 128)], by go_num, hr1, by omega, by omega, Hq', HL', hgr.trans ((Gro.alloc _ _ _).trans (Gro.one ho1 hrow1)), by simp; omega⟩
      case measure => simp [intOf]; omega
    · go_wp2_with (at_builtin; go_must (refine wpList_byte _ rfl (.tmp 16) (.tmp 19) 100 rfl base i0 Tryz.underlying100 hi hz0 hz1 hz2 _ row' l' rfl (hr.alloc _) ⟨wr.heap.size, 0, none⟩ 1 (UInt8.ofNat q) rfl (by rw [byte_nat (by omega)]; simp) (by omega) (by have := hgr.only.size; simp; omega) ?_); intro v1 w1 row1 hr1 ho1 hrow1)
      have hl2 : l ++ sev n = l' ++ [UInt8.ofNat q] := by rw [← HL.out, sevF_end (by omega)]
      go_ret
      rw [hl2]
      exact ⟨_, rfl, row1, hr1, hgr.trans ((Gro.alloc _ _ _).trans (Gro.one ho1 hrow1))⟩
theorem appendSevens_int (w : World) (v : Value) (row : Option Nat) (l : List UInt8) (base : Nat) (z : Int) (hown : Row w base v row l) (hb : base ≤ w.heap.size) (h0 : 0 ≤ z) (hn : z < 9223372036854775808) (hl : l.length + 10 ≤ 158329674399744) :
    Calls Tryz.prog 130 #[v, .int .i64 z] w fun e w' => ∃ v' row', e = .returned v' ∧ Row w' base v' row' (l ++ sev z.toNat) ∧ Gro w w' row row' := by
  obtain ⟨n, rfl⟩ := Int.eq_ofNat_of_zero_le h0
  rw [Int.toNat_natCast]
  exact appendSevens_any w v row l base n hown hb (by omega) hl
set_option maxRecDepth 100000 in
set_option maxHeartbeats 800000 in
theorem wnum_any (w : World) (b : Nat) (row : Option Nat) (l : List UInt8) (zs : List Int) (g off cap : Nat) (hW : Wr w b row l)
    (hc : ∀ k, k < zs.length → w.cell? ⟨g, off + k, none⟩ = some (.int .i64 (zs.getD k 0))) (hz : ∀ k, k < zs.length → zs.getD k 0 < 9223372036854775808)
    (hgb : g ≠ b) (hgr : some g ≠ row) (hgl : g < w.heap.size) (hl : l.length + 10 * zs.length + 10 ≤ 158329674399744) :
    Calls Tryz.prog 83 #[.pointer (some ⟨b, 0, none⟩), .slice (some ⟨g, off, none⟩) zs.length cap] w fun e w' => e = .returned (.tuple #[]) ∧ ∃ row', Wr w' b row' (l ++ nums zs) ∧ WGro w w' b row row' := by
  go_enter Tryz.func83, Tryz.ntmps83
  go_wp2
  go_loopw [10] (fun i wr => ∃ (k : Nat) (row' : Option Nat), k ≤ zs.length ∧ i = .int .i64 k ∧ Wr wr b row' (l ++ nums (zs.take k)) ∧ WGro w wr b row row')
    (fun i _ => zs.length - (intOf i).toNat)
  case atStart => exact ⟨0, row, Nat.zero_le _, rfl, by simpa [nums] using hW, WGro.refl _ _ _⟩
  case round =>
    obtain ⟨k, row', hk, rfl, hWr, hg⟩ := hrel
    by_cases hlt : k < zs.length
    · have hck : wr.cell? ⟨g, off + k, none⟩ = some (.int .i64 (zs.getD k 0)) := (hg.only.cell (p := ⟨g, off + k, none⟩) hgl (by simp; exact ⟨hgb, hgr⟩)).trans (hc k hlt)
      have hzk := hz k hlt
      obtain ⟨z, hzz⟩ : ∃ z, zs.getD k 0 = z := ⟨_, rfl⟩
      rw [hzz] at hck hzk
      have HZ : Hid (zs.getD k 0 = z) := hzz
      clear hzz
      obtain ⟨⟨v, hcv, hrv⟩, hfz, hbl⟩ := hWr
      have hlen : (l ++ nums (zs.take k)).length + 10 ≤ 158329674399744 := by
        have h1 := nums_len (zs.take k)
        have h2 : (zs.take k).length ≤ k := List.length_take_le _ _
        rw [List.length_append]; omega
      have hnb : some b ≠ row' := by
        intro e
        have h1 := hrv.lt b e.symm
        omega
      have HN : Hid (nums (zs.take (k + 1)) = nums (zs.take k) ++ sev z.toNat) := by unfold Hid; rw [nums_snoc zs k hlt, HZ.out]
      have fin : ∀ (v1 : Value) (w1 : World) (row1 : Option Nat), Row w1 (b + 1) v1 row1 (l ++ nums (zs.take k) ++ sev z.toNat) → Gro wr w1 row' row1 →
          Wr (w1.setCell ⟨b, 0, none⟩ v1) b row1 (l ++ nums (zs.take (k + 1))) ∧ WGro w (w1.setCell ⟨b, 0, none⟩ v1) b row row1 := by
        intro v1 w1 row1 hr1 hg1
        refine ⟨?_, (hg.trans (hg1.wgro b)).store v1⟩
        rw [HN.out, ← List.append_assoc]
        have hc1 : w1.cell? ⟨b, 0, none⟩ = some v := (hg1.only.cell (p := ⟨b, 0, none⟩) hbl hnb).trans hcv
        have hf1 : w1.frozen? ⟨b, 0, none⟩ = false := (hg1.only.frozen (p := ⟨b, 0, none⟩) hbl hnb).trans hfz
        exact Wr.stored hc1 hf1 hr1
      have FIN := hide fin
      clear fin
      by_cases hneg : z < 0
      · have HZ0 : Hid (z.toNat = (0 : Int).toNat) := by unfold Hid; omega
        go_wp2_with fail
        refine (appendSevens_int _ v row' _ (b + 1) 0 hrv (by omega) (by omega) (by omega) hlen).mono ?_
        rintro e w1 ⟨v1, row1, rfl, hr1, hg1⟩
        have hr1' : Row w1 (b + 1) v1 row1 (l ++ nums (zs.take k) ++ sev z.toNat) := by rw [HZ0.out]; exact hr1
        have hc1 : w1.cell? ⟨b, 0, none⟩ = some v := (hg1.only.cell (p := ⟨b, 0, none⟩) hbl hnb).trans hcv
        have hf1 : w1.frozen? ⟨b, 0, none⟩ = false := (hg1.only.frozen (p := ⟨b, 0, none⟩) hbl hnb).trans hfz
        obtain ⟨ao, ln, cp, rfl⟩ := hr1.form
        go_wp2
        have hfin := unhide FIN _ _ _ hr1' hg1
        go_roundw
        case rel => exact ⟨k + 1, row1, by omega, by go_num, hfin.1, hfin.2⟩
        case measure => simp [intOf]; omega
      · go_wp2_with fail
        refine (appendSevens_int _ v row' _ (b + 1) z hrv (by omega) (by omega) (by omega) hlen).mono ?_
        rintro e w1 ⟨v1, row1, rfl, hr1, hg1⟩
        have hc1 : w1.cell? ⟨b, 0, none⟩ = some v := (hg1.only.cell (p := ⟨b, 0, none⟩) hbl hnb).trans hcv
        have hf1 : w1.frozen? ⟨b, 0, none⟩ = false := (hg1.only.frozen (p := ⟨b, 0, none⟩) hbl hnb).trans hfz
        have hr1' := hr1
        obtain ⟨ao, ln, cp, rfl⟩ := hr1.form
        go_wp2
        have hfin := unhide FIN _ _ _ hr1' hg1
        go_roundw
        case rel => exact ⟨k + 1, row1, by omega, by go_num, hfin.1, hfin.2⟩
        case measure => simp [intOf]; omega
    · have HT : Hid (zs.take k = zs) := List.take_of_length_le (by omega)
      go_wp2
      go_end0
      exact ⟨rfl, row', by have h := hWr; rw [HT.out] at h; exact h, hg⟩
set_option maxHeartbeats 400000 in
theorem wbytes_any (w : World) (b : Nat) (row : Option Nat) (l : List UInt8) (hW : Wr w b row l) :
    Calls Tryz.prog 84 #[.pointer (some ⟨b, 0, none⟩)] w fun e w' => e = .returned (.string ⟨l.toArray⟩) ∧ w' = w := by
  obtain ⟨⟨v, hcv, hrv⟩, hfz, hbl⟩ := hW
  have hcv2 := bytes_back w _ v row l hrv
  go_enter Tryz.func84, Tryz.ntmps84
  go_wp2
  go_ret
  exact ⟨rfl, rfl⟩
theorem wnum_one (w : World) (b : Nat) (row : Option Nat) (l : List UInt8) (z : Int) (hW : Wr w b row l) (hz : z < 9223372036854775808) (hl : l.length + 20 ≤ 158329674399744) :
    Calls Tryz.prog 83 #[.pointer (some ⟨b, 0, none⟩), .slice (some ⟨w.heap.size, 0, none⟩) 1 1] (w.alloc (.cells #[.int .i64 z] 3)) fun e w' => e = .returned (.tuple #[]) ∧ ∃ row', Wr w' b row' (l ++ sev z.toNat) ∧ WGro w w' b row row' := by
  have hW1 : Wr (w.alloc (.cells #[.int .i64 z] 3)) b row l := hW.kept (Only.alloc (fun _ => False) w _) (fun h => h) (fun _ _ h => h)
  have hb := hW.lt
  have h := wnum_any (w.alloc (.cells #[.int .i64 z] 3)) b row l [z] w.heap.size 0 1 hW1
    (by intro k hk; have e : k = 0 := by simpa using hk
        subst e; simp)
    (by intro k hk; have e : k = 0 := by simpa using hk
        subst e; simpa using hz)
    (by omega) (by intro e; have := (hW.rowLt _ e.symm).2; omega) (by simp) (by simpa using hl)
  refine Calls.mono h ?_
  rintro e w' ⟨he, row', h1, h2⟩
  refine ⟨he, row', ?_, (WGro.alloc w _ b row).trans h2⟩
  simpa [nums] using h1
set_option maxRecDepth 100000 in
set_option maxHeartbeats 800000 in
theorem wtext_any (w : World) (b : Nat) (row : Option Nat) (l : List UInt8) (s : ByteArray) (hW : Wr w b row l) (hl : l.length + s.size + 30 ≤ 158329674399744) :
    Calls Tryz.prog 95 #[.pointer (some ⟨b, 0, none⟩), .string s] w fun e w' => e = .returned (.tuple #[]) ∧ ∃ row', Wr w' b row' (l ++ (sev s.size ++ s.data.toList)) ∧ WGro w w' b row row' := by
  obtain ⟨i0, hi, hz0, hz1, hz2⟩ := info_parts Tryz.infoByte
  go_enter Tryz.func95, Tryz.ntmps95
  go_wp2_with fail
  refine (wnum_one w b row l (s.size : Int) hW (by omega) (by omega)).mono ?_
  rintro e w1 ⟨rfl, row1, hW1, hg1⟩
  rw [Int.toNat_natCast] at hW1
  have hsl : (sev s.size).length ≤ 10 := sevF_len 9 s.size
  have hll : (l ++ sev s.size).length + s.size ≤ 158329674399744 := by rw [List.length_append]; omega
  have HF : Hid (Wr w1 b row1 (l ++ sev s.size)) := hW1
  obtain ⟨⟨v, hcv, hrv⟩, hfz, hbl⟩ := hW1
  have hnb : some b ≠ row1 := by
    intro e
    have h1 := hrv.lt b e.symm
    omega
  go_wp2_with (at_builtin; go_must (refine wpList_text _ rfl (.tmp 15) (.tmp 16) 100 9 rfl (b + 1) i0 Tryz.underlying100 Tryz.underlying9 hi hz0 hz1 hz2 v row1 (l ++ sev s.size) rfl hrv s rfl hll (by omega) ?_); intro v2 w2 row2 hr2 hg2; obtain ⟨hc2, hf2⟩ : w2.cell? ⟨b, 0, none⟩ = some v ∧ w2.frozen? ⟨b, 0, none⟩ = false := ⟨(hg2.only.cell (p := ⟨b, 0, none⟩) hbl hnb).trans hcv, (hg2.only.frozen (p := ⟨b, 0, none⟩) hbl hnb).trans hfz⟩; have hr2' := hide hr2; obtain ⟨ao, ln, cp, rfl⟩ := hr2.form)
  go_end0
  rw [← List.append_assoc]
  exact ⟨rfl, row2, Wr.stored hc2 hf2 (unhide hr2'), (hg1.trans (hg2.wgro b)).store _⟩
def Pg.none : Pg := ⟨0, 0, 0, 0, ⟨#[]⟩, []⟩
/-- What stands in the bytes behind the sum is a page's. -/
def good (D : List UInt8) (p : Pg) (r : List UInt8) : Prop := (D.getD 0 0).toNat ≤ 127 ∧ (1 ≤ p.kind ∧ p.kind ≤ 3) ∧ r = List.replicate r.length 0
instance (D : List UInt8) (p : Pg) (r : List UInt8) : Decidable (good D p r) := by unfold good; exact inferInstance
end Go.Proofs.YtpnbhddmdfcjdaaGreat
