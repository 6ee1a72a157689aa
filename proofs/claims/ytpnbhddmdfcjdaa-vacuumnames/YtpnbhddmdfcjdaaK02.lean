/- Parts. -/
import Derived.Test.YtpnbhddmdfcjdaaRows
import Derived.WalkKit
import Derived.WalkSpells
import Derived.WalkLawsBesides
import Derived.Lib.AppendStr
set_option maxRecDepth 100000
namespace Go.Proofs.Ytpnbhddmdfcjdaa
open Go.RowKit
theorem hide {p : Prop} (h : p) : Hid p := h
theorem unhide {p : Prop} (h : Hid p) : p := h
/-- Of the blocks that were there only those of S may have changed. -/
structure Only (S : Nat → Prop) (w w' : World) : Prop where
  os : w'.os = w.os
  tape : w'.tape = w.tape
  output : w'.output = w.output
  size : w.heap.size ≤ w'.heap.size
  block : ∀ k, k < w.heap.size → ¬ S k → w'.heap[k]? = w.heap[k]?
theorem Only.refl (S : Nat → Prop) (w : World) : Only S w w := ⟨rfl, rfl, rfl, Nat.le_refl _, fun _ _ _ => rfl⟩
theorem Only.trans {S T : Nat → Prop} {a b c : World} (h : Only S a b) (k : Only T b c) (hT : ∀ i, i < a.heap.size → T i → S i) : Only S a c :=
  ⟨k.os.trans h.os, k.tape.trans h.tape, k.output.trans h.output, Nat.le_trans h.size k.size, fun i hi hS => (k.block i (Nat.lt_of_lt_of_le hi h.size) (fun t => hS (hT i hi t))).trans (h.block i hi hS)⟩
theorem Only.mono {S T : Nat → Prop} {a b : World} (h : Only S a b) (hT : ∀ i, i < a.heap.size → S i → T i) : Only T a b :=
  ⟨h.os, h.tape, h.output, h.size, fun i hi hS => h.block i hi (fun t => hS (hT i hi t))⟩
theorem Only.alloc (S : Nat → Prop) (w : World) (o : Obj) : Only S w (w.alloc o) := ⟨rfl, rfl, rfl, by simp, fun k hk _ => Below.heap_alloc _ _ _ hk⟩
theorem Only.drew (S : Nat → Prop) (w : World) : Only S w w.drew := ⟨rfl, rfl, rfl, Nat.le_refl _, fun _ _ _ => rfl⟩
theorem Only.setCell {S : Nat → Prop} (w : World) (p : Addr) (u : Value) (h : S p.block) : Only S w (w.setCell p u) :=
  ⟨rfl, rfl, rfl, by simp [World.setCell], fun k _ hS => Below.heap_setCell _ _ _ _ (fun e => hS (e ▸ h))⟩
theorem Only.grown {S : Nat → Prop} {w w' : World} {row : Option Nat} (h : w.grownBy w' row) (hr : ∀ k, row = some k → S k) : Only S w w' :=
  ⟨h.os, h.tape, h.output, h.size, fun k hk hS => h.block k hk (fun e => hS (hr k e.symm))⟩
theorem Only.below {S : Nat → Prop} {w w' : World} {B : Nat} (h : Only S w w') (hB : B ≤ w.heap.size) (hS : ∀ k, k < B → ¬ S k) : Below B w w' :=
  ⟨h.os, h.tape, h.output, h.size, fun k hk => h.block k (by omega) (hS k hk)⟩
theorem Only.cell {S : Nat → Prop} {w w' : World} (h : Only S w w') {p : Addr} (hp : p.block < w.heap.size) (hS : ¬ S p.block) : w'.cell? p = w.cell? p := World.cell?_of_block (w := w) (h.block p.block hp hS)
theorem Only.frozen {S : Nat → Prop} {w w' : World} (h : Only S w w') {p : Addr} (hp : p.block < w.heap.size) (hS : ¬ S p.block) : w'.frozen? p = w.frozen? p := World.frozen?_of_block (w := w) (h.block p.block hp hS)
/-- Bytes as cells. -/
def cells (l : List UInt8) : List Value := l.map fun b => Value.int .u8 (b.toNat : Int)
theorem cells_length (l : List UInt8) : (cells l).length = l.length := by simp [cells]
theorem cells_append (l m : List UInt8) : cells (l ++ m) = cells l ++ cells m := by simp [cells]
/-- A row of bytes that the value v owns: v's block is row. -/
structure Row (w : World) (base : Nat) (v : Value) (row : Option Nat) (l : List UInt8) : Prop where
  own : w.ownsRow base 5 1 v l.length (cells l)
  at_ : v.ownBlock = row
theorem Row.kept {S : Nat → Prop} {w w' : World} {base : Nat} {v : Value} {row : Option Nat} {l : List UInt8} (h : Row w base v row l) (ho : Only S w w') (hS : ∀ k, row = some k → ¬ S k) : Row w' base v row l := by
  obtain ⟨⟨h1, h2⟩, ha⟩ := h
  refine ⟨⟨h1, ?_⟩, ha⟩
  rcases h2 with h2 | ⟨g, cap, cur, hv, hg, hh, r⟩
  · exact .inl h2
  · subst hv
    exact .inr ⟨g, cap, cur, rfl, hg, by rw [ho.block g (Array.getElem?_eq_some_iff.1 hh).1 (hS g ha.symm)]; exact hh, r⟩
theorem Row.alloc {w : World} {base : Nat} {v : Value} {row : Option Nat} {l : List UInt8} (h : Row w base v row l) (o : Obj) : Row (w.alloc o) base v row l :=
  h.kept (Only.alloc (fun _ => False) w o) (fun _ _ => id)
theorem Row.lt {w : World} {base : Nat} {v : Value} {row : Option Nat} {l : List UInt8} (h : Row w base v row l) : ∀ k, row = some k → base ≤ k ∧ k < w.heap.size :=
  fun k hk => h.own.lt k (h.at_.trans hk)
theorem next_le {need old : Nat} (h : old < need) : Builtin.nextslicecap need old ≤ need + need / 4 + 512 := by
  unfold Builtin.nextslicecap
  split
  · omega
  · split
    · omega
    · rw [growBy_four]
      repeat' split
      all_goals omega
theorem next_fits {need old : Nat} (h : old < need) (hb : need ≤ 158329674399744) : Builtin.nextslicecap need old * 1 ≤ 281474976710656 := by
  have := next_le h
  omega
section
variable {P : Program} (w : World)
theorem own_grown {base : Nat} {e : TypeId} {n m old : Nat} {xs news : List Value} (hx : xs.length = n) (hl : news.length = m) (h63 : n + m ≤ maxLen) (hbase : base ≤ w.heap.size) (row : Option Nat) :
    (w.drew.alloc (.cells (xs.toArray ++ news.toArray ++ Builtin.zeroCells (Value.int IntKind.u8 0).cells (grownCap w (n + m) old e - (n + m))) e)).ownsRow base e 1 (.slice (some ⟨w.heap.size, 0, none⟩) (n + m) (grownCap w (n + m) old e)) (n + m) (xs ++ news) ∧
    w.grownBy (w.drew.alloc (.cells (xs.toArray ++ news.toArray ++ Builtin.zeroCells (Value.int IntKind.u8 0).cells (grownCap w (n + m) old e - (n + m))) e)) row := by
  have hge := grownCap_ge w (n + m) old e
  have hcm : grownCap w (n + m) old e ≤ maxLen := grownCap_le_maxLen w (n + m) old e h63
  have hlen : (xs ++ news).length = n + m := by rw [List.length_append, hx, hl]
  have hz : (Value.int IntKind.u8 0).cells.size = 1 := rfl
  refine ⟨⟨by rw [hlen, Nat.mul_one], .inr ⟨w.heap.size, _, _, rfl, hbase, heap_alloc_new w.drew _, hge, hcm, ?_, ?_⟩⟩, ⟨rfl, rfl, rfl, by simp, fun k hk _ => Below.heap_alloc w.drew _ k hk⟩⟩
  · simp only [Array.size_append, List.size_toArray, size_zeroCells, hz, hx, hl]
    omega
  · simp only [Array.toList_append, List.append_assoc, Nat.mul_one]
    rw [← List.append_assoc, ← hlen]
    exact List.take_left
/-- Bytes appended to a row that is owned: as the kit's own law, with more room, and with the place of what it yields. -/
theorem append_bytes (base : Nat) (t ty e : TypeId) (i : TypeInfo) (ht : P.underlying t = some (.slice e)) (hi : P.info? e = some i) (hz : i.zero = some (.int .u8 0))
    (hsize : i.size = 1) (hby : i.bytes = 1) (v : Value) (n : Nat) (xs : List Value) (hown : w.ownsRow base e 1 v n xs)
    (a : Addr) (m c : Nat) (news : List Value) (hl : news.length = m) (hnews : ∀ j u, news[j]? = some u → w.cell? (a.add j) = some u) (h1 : ∀ u ∈ news, u.oneCell' = true)
    (hroom : n + m ≤ 158329674399744) (hm : 0 < m) (hbase : base ≤ w.heap.size) :
    ∃ v' w', (Builtin.append_ #[t, t] ty #[v, .slice (some a) m c]).run P w = .ok v' w' ∧ w'.ownsRow base e 1 v' (n + m) (xs ++ news) ∧ w.grownBy w' v.ownBlock ∧ (v'.ownBlock = v.ownBlock ∨ v'.ownBlock = some w.heap.size) := by
  have hx : xs.length = n := by simpa using hown.1
  have h63 : n + m ≤ maxLen := by unfold maxLen; omega
  have hl' : news.length = m * i.size := by rw [hsize, hl, Nat.mul_one]
  have hlen : (xs ++ news).length = (n + m) * 1 := by rw [List.length_append, hx, hl, Nat.mul_one]
  rcases hown.2 with ⟨rfl, rfl⟩ | ⟨g, cap, cur, rfl, hbg, hg, hnc, hcm, hcs, htake⟩
  · have hx0 : xs = [] := List.eq_nil_of_length_eq_zero hx
    subst hx0
    have hr := run_append_nil (P := P) w t ty e i (.int .u8 0) ht hi hz a m c news hl' hnews hm (by omega) (by rw [hby]; omega)
    have hgr := own_grown w (base := base) (e := e) (n := 0) (m := m) (old := 0) (xs := []) hx hl h63 hbase (Value.ownBlock (.slice none 0 0))
    simp only [Nat.zero_add, List.nil_append, Array.empty_append] at hgr ⊢
    exact ⟨_, _, hr, hgr.1, hgr.2, .inr rfl⟩
  · by_cases hrm : n + m ≤ cap
    · have hfit : n * i.size + news.length ≤ cur.size := by rw [hsize, hl, hcs]; omega
      have hr := run_append_room (P := P) w t ty e i ht hi g n cap cur hg a m c news hl' hnews h1 hrm hfit
      rw [hsize, Nat.mul_one] at hr
      rw [Nat.mul_one] at htake hcs
      refine ⟨_, _, hr, ⟨hlen, .inr ⟨g, cap, _, rfl, hbg, setRow_heap w g cur _ e _ hg, hrm, hcm, ?_, ?_⟩⟩, ⟨rfl, rfl, rfl, by simp, fun k _ hk => setRow_other w g k _ (fun e => hk (by simp [Value.ownBlock, e]))⟩, .inl rfl⟩
      · simp only [List.size_toArray, List.length_append, List.length_take, List.length_drop, Array.length_toList]
        omega
      · rw [htake, ← hlen]
        exact List.take_left
    · have hr := run_append_grow (P := P) w t ty e i (.int .u8 0) ht hi hz ⟨g, 0, none⟩ n cap xs (by rw [hsize, hx, Nat.mul_one]) (hown.cells (g := g) rfl) a m c news hl' hnews (by omega) (by omega) (by rw [hby]; exact next_fits (by omega) hroom)
      have hgr := own_grown w (base := base) (e := e) (n := n) (m := m) (old := cap) hx hl h63 hbase (Value.ownBlock (.slice (some ⟨g, 0, none⟩) n cap))
      exact ⟨_, _, hr, hgr.1, hgr.2, .inr rfl⟩
end
/-- One byte appended to a row that is owned. -/
theorem wpList_byte {P : Program} (w : World) {ops : Array Oper} {rest : List Oper} {o : Oper} {a : Act} {Q : Exit → Act → World → Prop} (hgd : o.guard = none) (s x : Operand) (t : TypeId)
    (ho : o.op = .call { callee := .builtin .append, args := #[s, x], argTypes := #[t, t] })
    (base : Nat) (i : TypeInfo) (ht : P.underlying t = some (.slice 5)) (hi : P.info? 5 = some i) (hz : i.zero = some (.int .u8 0)) (hsize : i.size = 1) (hby : i.bytes = 1)
    (v : Value) (row : Option Nat) (l : List UInt8) (hs : a.eval s = v) (hown : Row w base v row l)
    (ad : Addr) (c : Nat) (d : UInt8) (hx : a.eval x = .slice (some ad) 1 c) (hd : w.cell? ad = some (.int .u8 (d.toNat : Int)))
    (h63 : l.length + 1 ≤ 158329674399744) (hbase : base ≤ w.heap.size)
    (h : ∀ v' w' row', Row w' base v' row' (l ++ [d]) → Only (fun k => some k = row) w w' → (row' = row ∨ row' = some w.heap.size) → wpList P ops Q rest (a.put o.dst v') w') : wpList P ops Q (o :: rest) a w := by
  have hnews : ∀ j u, [Value.int .u8 (d.toNat : Int)][j]? = some u → w.cell? (ad.add j) = some u := by
    intro j u hj
    match j, hj with
    | 0, hj =>
      simp at hj; subst hj
      have : ad.add 0 = ad := by unfold Addr.add; split <;> simp_all
      rw [this]; exact hd
  have h1 : ∀ u ∈ [Value.int .u8 (d.toNat : Int)], u.oneCell' = true := by intro u hu; simp at hu; subst hu; rfl
  obtain ⟨v', w', hr, h2, h3, h5⟩ := append_bytes (P := P) w base t o.type 5 i ht hi hz hsize hby v l.length (cells l) hown.own ad 1 c [.int .u8 (d.toNat : Int)] rfl hnews h1 h63 (by decide) hbase
  refine wpList_plain hgd fun K hK => ?_
  unfold Oper.wp execOp
  simp only [ho, resolve, invoke, builtin, Sem.run_bind, Sem.run_pure, Result.andThen_ok, List.map_toArray, List.map_cons, List.map_nil, hs, hx, hr]
  refine hK _ _ (h v' w' v'.ownBlock ⟨?_, rfl⟩ (Only.grown h3 (fun k hk => hk.symm.trans hown.at_)) (by rw [← hown.at_]; exact h5))
  have e : l.length + 1 = (l ++ [d]).length := by simp
  rw [cells_append, ← e]
  exact h2
/-- A row was in block row, and is in row' now: the same, or a new one; no other block has changed. -/
structure Gro (w w' : World) (row row' : Option Nat) : Prop where
  only : Only (fun k => some k = row) w w'
  new : row' = row ∨ ∃ g, row' = some g ∧ w.heap.size ≤ g
theorem Gro.refl (w : World) (row : Option Nat) : Gro w w row row := ⟨Only.refl _ _, .inl rfl⟩
theorem Gro.trans {a b c : World} {r0 r1 r2 : Option Nat} (h : Gro a b r0 r1) (k : Gro b c r1 r2) : Gro a c r0 r2 := by
  refine ⟨h.only.trans k.only ?_, ?_⟩
  · intro i hi ht
    rcases h.new with e | ⟨g, e, hg⟩
    · rw [← e]; exact ht
    · rw [e] at ht; injection ht with ht; omega
  · rcases k.new with e | ⟨g, e, hg⟩
    · rw [e]; exact h.new
    · exact .inr ⟨g, e, Nat.le_trans h.only.size hg⟩
theorem Gro.alloc (w : World) (o : Obj) (row : Option Nat) : Gro w (w.alloc o) row row := ⟨Only.alloc _ _ _, .inl rfl⟩
theorem Gro.one {w w' : World} {row row' : Option Nat} (h : Only (fun k => some k = row) w w') (hn : row' = row ∨ row' = some w.heap.size) : Gro w w' row row' :=
  ⟨h, by
    rcases hn with e | e
    · exact .inl e
    · exact .inr ⟨_, e, Nat.le_refl _⟩⟩
theorem Row.form {w : World} {base : Nat} {v : Value} {row : Option Nat} {l : List UInt8} (h : Row w base v row l) : ∃ ao ln cp, v = .slice ao ln cp := by
  rcases h.own.2 with ⟨rfl, _⟩ | ⟨g, cap, cur, rfl, _⟩
  · exact ⟨_, _, _, rfl⟩
  · exact ⟨_, _, _, rfl⟩
theorem Row.len {w : World} {base n c : Nat} {a : Addr} {row : Option Nat} {l : List UInt8} (h : Row w base (.slice (some a) n c) row l) : l.length = n ∧ a = ⟨a.block, 0, none⟩ := by
  rcases h.own.2 with ⟨hv, _⟩ | ⟨g, cap, cur, hv, _⟩
  · cases hv
  · injection hv with h1 h2 h3
    injection h1 with h1
    subst h1
    exact ⟨h2.symm, rfl⟩
theorem Row.at0 {w : World} {base n c g j : Nat} {row : Option Nat} {l : List UInt8} (h : Row w base (.slice (some ⟨g, 0, none⟩) n c) row l) (hj : j < n) : (∃ v, w.cell? ⟨g, j, none⟩ = some v) ∧ w.frozen? ⟨g, j, none⟩ = false := by
  have hl := h.len.1
  have ho := h.own
  rw [hl] at ho
  have hc := ho.cellAt j (by omega)
  refine ⟨⟨_, hc.trans (List.getElem?_eq_getElem (by rw [cells_length]; omega))⟩, ho.frozenAt j⟩
theorem Row.store {w : World} {base n c g : Nat} {row : Option Nat} {l : List UInt8} (h : Row w base (.slice (some ⟨g, 0, none⟩) n c) row l) (j : Nat) (u : UInt8) :
    Row (w.setCell ⟨g, j, none⟩ (.int .u8 (u.toNat : Int))) base (.slice (some ⟨g, 0, none⟩) n c) row (l.set j u) ∧ Only (fun k => k = g) w (w.setCell ⟨g, j, none⟩ (.int .u8 (u.toNat : Int))) := by
  have hl := h.len.1
  have ho := h.own
  rw [hl] at ho
  refine ⟨⟨?_, h.at_⟩, Only.setCell (S := fun k => k = g) w ⟨g, j, none⟩ _ rfl⟩
  have hs := (ho.stored j (.int .u8 (u.toNat : Int))).1
  rw [List.length_set, hl]
  have e : (cells l).set j (.int .u8 (u.toNat : Int)) = cells (l.set j u) := by unfold cells; rw [List.map_set]
  rw [← e]
  exact hs
theorem byte_nat {n : Nat} (h : n < 256) : ((UInt8.ofNat n).toNat : Int) = (n : Int) := by
  rw [UInt8.toNat_ofNat_of_lt' h]
end Go.Proofs.Ytpnbhddmdfcjdaa
