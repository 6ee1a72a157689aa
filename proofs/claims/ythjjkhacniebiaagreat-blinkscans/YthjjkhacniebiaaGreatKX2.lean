/- What the document's Compare of entries does. -/
import Derived.Test.YthjjkhacniebiaaGreatK28
import Derived.Test.YthjjkhacniebiaaGreatKX1
import Derived.Test.YthjjkhacniebiaaGreatK50
import Derived.Test.YthjjkhacniebiaaGreatK19
namespace Go.Proofs.YthjjkhacniebiaaGreat
open Go.RowKit

/-- Two lists in order that have the same entries are the same. -/
theorem rise_same : ∀ {l m : List En}, Rise l → Rise m → (∀ e, e ∈ l ↔ e ∈ m) → l = m
  | [], [], _, _, _ => rfl
  | [], b :: m, _, _, h => absurd ((h b).2 (List.mem_cons_self ..)) (by simp)
  | a :: l, [], _, _, h => absurd ((h a).1 (List.mem_cons_self ..)) (by simp)
  | a :: l, b :: m, h1, h2, h => by
    obtain ⟨p1, p2⟩ := List.pairwise_cons.1 h1
    obtain ⟨q1, q2⟩ := List.pairwise_cons.1 h2
    have e : a = b := by
      rcases List.mem_cons.1 ((h a).1 (List.mem_cons_self ..)) with k | k
      · exact k
      · rcases List.mem_cons.1 ((h b).2 (List.mem_cons_self ..)) with k' | k'
        · exact k'.symm
        · exact absurd (En.lt_trans (q1 a k) (p1 b k')) (En.lt_irrefl _)
    subst e
    have t : l = m := rise_same p2 q2 (fun x => ⟨fun k => by
      rcases List.mem_cons.1 ((h x).1 (List.mem_cons_of_mem _ k)) with e | e
      · subst e; exact absurd (p1 x k) (En.lt_irrefl _)
      · exact e, fun k => by
      rcases List.mem_cons.1 ((h x).2 (List.mem_cons_of_mem _ k)) with e | e
      · subst e; exact absurd (q1 x k) (En.lt_irrefl _)
      · exact e⟩)
    rw [t]
theorem rise_ins {Q : List En} {e : En} {m : Nat} (h : Rise Q) (h1 : ∀ x ∈ Q.take m, x.lt e) (h2 : ∀ x ∈ Q.drop m, e.lt x) : Rise (Q.take m ++ [e] ++ Q.drop m) := by
  have h' : List.Pairwise En.lt (Q.take m ++ Q.drop m) := by rw [List.take_append_drop]; exact h
  obtain ⟨a, b, c⟩ := List.pairwise_append.1 h'
  refine List.pairwise_append.2 ⟨List.pairwise_append.2 ⟨a, List.pairwise_singleton _ _, fun x hx y hy => ?_⟩, b, fun x hx y hy => ?_⟩
  · rw [List.mem_singleton.1 hy]
    exact h1 x hx
  · rcases List.mem_append.1 hx with k | k
    · exact c x k y hy
    · rw [List.mem_singleton.1 k]
      exact h2 y hy
theorem mem_ins {Q : List En} {e x : En} {m : Nat} : x ∈ Q.take m ++ [e] ++ Q.drop m ↔ (x ∈ Q ∨ x = e) := by
  have hq : x ∈ Q ↔ (x ∈ Q.take m ∨ x ∈ Q.drop m) := by rw [← List.mem_append, List.take_append_drop]
  rw [List.mem_append, List.mem_append, List.mem_singleton, hq]
  constructor
  · rintro ((k | k) | k)
    · exact .inl (.inl k)
    · exact .inr k
    · exact .inl (.inr k)
  · rintro ((k | k) | k)
    · exact .inl (.inl k)
    · exact .inr k
    · exact .inl (.inr k)
theorem drop_gt {Q : List En} {e : En} {m : Nat} (h : Rise Q) (hm : m < Q.length) (h1 : ¬ Q[m].lt e) (h2 : ¬ Q[m] = e) : ∀ x ∈ Q.drop m, e.lt x := by
  have hlt : e.lt Q[m] := by
    rcases En.lt_total h2 with k | k
    · exact absurd k h1
    · exact k
  rw [List.drop_eq_getElem_cons hm]
  have h' : List.Pairwise En.lt (Q.take m ++ Q.drop m) := by rw [List.take_append_drop]; exact h
  have hb := (List.pairwise_append.1 h').2.1
  rw [List.drop_eq_getElem_cons hm] at hb
  have hc := (List.pairwise_cons.1 hb).1
  intro x hx
  rcases List.mem_cons.1 hx with k | k
  · rw [k]; exact hlt
  · exact En.lt_trans hlt (hc x k)
theorem rise_out {Q : List En} {k : Nat} (h : Rise Q) : Rise (Q.take k ++ Q.drop (k + 1)) := by
  rw [← List.eraseIdx_eq_take_drop_succ]
  exact List.Pairwise.sublist (List.eraseIdx_sublist _ _) h
theorem mem_out {Q : List En} {k : Nat} (h : Rise Q) (hk : k < Q.length) (x : En) : x ∈ Q.take k ++ Q.drop (k + 1) ↔ (x ∈ Q ∧ x ≠ Q[k]) := by
  have h' : List.Pairwise En.lt (Q.take k ++ Q.drop k) := by rw [List.take_append_drop]; exact h
  obtain ⟨_, b, c⟩ := List.pairwise_append.1 h'
  rw [List.drop_eq_getElem_cons hk] at b c
  have hd := (List.pairwise_cons.1 b).1
  have hq : x ∈ Q ↔ (x ∈ Q.take k ∨ x = Q[k] ∨ x ∈ Q.drop (k + 1)) := by
    rw [← List.mem_cons, ← List.mem_append, ← List.drop_eq_getElem_cons hk, List.take_append_drop]
  rw [List.mem_append, hq]
  constructor
  · rintro (m | m)
    · exact ⟨.inl m, fun e => En.lt_irrefl _ (e ▸ c x m _ (List.mem_cons_self ..))⟩
    · exact ⟨.inr (.inr m), fun e => En.lt_irrefl _ (e ▸ hd x m)⟩
  · rintro ⟨m | m | m, n⟩
    · exact .inl m
    · exact absurd m n
    · exact .inr m
/-- What a list has up to an entry. -/
def upTo (lo : En) (Q : List En) : List En := Q.filter (fun e => !decide (lo.lt e))
theorem mem_upTo {lo e : En} {Q : List En} : e ∈ upTo lo Q ↔ (e ∈ Q ∧ ¬ lo.lt e) := by unfold upTo; rw [List.mem_filter]; simp
theorem upTo_least {Q : List En} (h : ∀ e ∈ Q, e.ok = true) : upTo noE Q = [] := by
  unfold upTo
  rw [List.filter_eq_nil_iff]
  intro e he
  have := noE_lt (h e he)
  simp [this]
section Scan
variable {N : Nat} {F : Nat → Nd} {lo : Nat → En} {A : En → Prop} {Q : List En} {j : Nat}
theorem scan_rise (hF : Fst N F lo A) (hQ : Rise Q) (hj : pg N j) (hv : (F j).lv = 0) : Rise (upTo (lo j) Q ++ (F j).es) := by
  refine List.pairwise_append.2 ⟨List.Pairwise.filter _ hQ, (hF.ok j hj).rise, fun a ha b hb => ?_⟩
  have h1 := (mem_upTo.1 ha).2
  have h2 := ((hF.cont j hj hv b).1 hb).2.1
  exact En.le_lt h1 h2
theorem scan_last (hF : Fst N F lo A) (hQ : Rise Q) (hA : ∀ e, A e ↔ e ∈ Q) (hj : pg N j) (hv : (F j).lv = 0) (hh : (F j).hi = noE) : upTo (lo j) Q ++ (F j).es = Q := by
  refine rise_same (scan_rise hF hQ hj hv) hQ (fun e => ?_)
  rw [List.mem_append, mem_upTo, hF.cont j hj hv e, hA e, hh, byd_noE]
  constructor
  · rintro (k | k)
    · exact k.1
    · exact k.1
  · intro k
    by_cases c : (lo j).lt e
    · exact .inr ⟨k, c, rfl⟩
    · exact .inl ⟨k, c⟩
theorem scan_step (hF : Fst N F lo A) (hQ : Rise Q) (hA : ∀ e, A e ↔ e ∈ Q) (hj : pg N j) (hv : (F j).lv = 0) (hh : (F j).hi ≠ noE) : upTo (lo j) Q ++ (F j).es = upTo (lo (F j).rt) Q ∧ pg N (F j).rt ∧ (F (F j).rt).lv = 0 ∧ mu N F lo (F j).rt < mu N F lo j := by
  obtain ⟨n1, n2, n3⟩ := hF.next j hj hh
  have hlh : (lo j).lt (F j).hi := by
    rcases (hF.ok j hj).hiok with x | x
    · exact absurd x hh
    · exact x.2
  refine ⟨?_, n1, n2.trans hv, mu_less n1 (.inr ⟨n2, by rw [n3]; exact hlh⟩)⟩
  refine rise_same (scan_rise hF hQ hj hv) (List.Pairwise.filter _ hQ) (fun e => ?_)
  have hb : byd (F j).hi e = false ↔ ¬ (F j).hi.lt e := by
    constructor
    · intro k l
      rw [byd_yes.2 ⟨hh, l⟩] at k
      cases k
    · intro k
      cases c : byd (F j).hi e with
      | false => rfl
      | true => exact absurd (byd_yes.1 c).2 k
  show _ ↔ e ∈ upTo (lo (F j).rt) Q
  rw [List.mem_append, mem_upTo, mem_upTo, hF.cont j hj hv e, hA e, n3, hb]
  constructor
  · rintro (k | k)
    · exact ⟨k.1, fun l => k.2 (En.lt_trans hlh l)⟩
    · exact ⟨k.1, k.2.2⟩
  · rintro ⟨k, l⟩
    by_cases c : (lo j).lt e
    · exact .inr ⟨k, c, l⟩
    · exact .inl ⟨k, c⟩
end Scan
/-- The least entry that there can be. -/
def e00 : En := ⟨⟨#[0]⟩, 0, 0⟩
theorem e00_ok : e00.ok = true := by decide
theorem e00_least {e : En} (h : e.ok = true) : ¬ e.lt e00 := by
  have h' := En.ok_iff.1 h
  unfold En.lt
  by_cases hk : e.key = e00.key
  · rw [if_pos hk]
    split
    · show ¬ e.slot < 0
      omega
    · show ¬ e.page < 0
      omega
  · rw [if_neg hk]
    have hl : bl e00.key = [0] := rfl
    rw [hl]
    cases hb : bl e.key with
    | nil =>
      have hs : e.key.size = (bl e.key).length := by unfold bl; simp
      rw [hb, List.length_nil] at hs
      omega
    | cons x l =>
      rw [List.cons_lt_cons_iff]
      rintro (k | ⟨_, k⟩)
      · exact absurd k (by simp [UInt8.lt_iff_toNat_lt])
      · exact absurd k (by simp)
theorem scan_first {N : Nat} {F : Nat → Nd} {lo : Nat → En} {A : En → Prop} {j : Nat} (hF : Fst N F lo A) (hj : pg N j) (h : (lo j).lt e00) : lo j = noE := by
  rcases hF.low j hj with k | k
  · exact k
  · exact absurd h (e00_least k)
end Go.Proofs.YthjjkhacniebiaaGreat

namespace Go.Proofs.YthjjkhacniebiaaGreat
open Go.RowKit

/-- Nothing is appended. -/
theorem app_none (w : World) (base : Nat) (v : Value) (n : Nat) (xs : List Value) (h : w.ownsRow base 41 3 v n xs) (c : Nat) :
    (Builtin.append_ #[47, 47] 47 #[v, .slice none 0 c]).run Tryz.prog w = .ok v w := by
  rcases h.2 with ⟨rfl, h0⟩ | ⟨g, cap, cur, rfl, hg, hh, hc, _⟩
  · simp [Builtin.append_, go_sem, Builtin.firstCells, Builtin.lenOf]
  · simp [Builtin.append_, go_sem, Builtin.firstCells, Builtin.lenOf, hc]
/-- Whatever list is appended. -/
theorem ets_app (w : World) (base : Nat) (v : Value) (es : List En) (h : Ets w base v es) (A : Option Addr) (m c : Nat) (fs : List En) (hm : fs.length = m) (B : Nat) (hf : Els w B A fs) (hl : es.length + m ≤ 4194304) (hbase : base ≤ w.heap.size) :
    ∃ ao cp w', (Builtin.append_ #[47, 47] 47 #[v, .slice A m c]).run Tryz.prog w = .ok (.slice ao (es.length + m) cp) w' ∧ Ets w' base (.slice ao (es.length + m) cp) (es ++ fs) ∧ Only (fun j => v.ownBlock = some j) w w' ∧ ((Value.slice ao (es.length + m) cp).ownBlock = v.ownBlock ∨ (Value.slice ao (es.length + m) cp).ownBlock = some w.heap.size) := by
  by_cases h0 : 0 < fs.length
  · obtain ⟨o, rfl, hc⟩ := hf.at_ h0
    exact ets_append w base v es h B o m c fs hm hc hl hbase
  · obtain rfl : fs = [] := List.eq_nil_of_length_eq_zero (by omega)
    have m0 : m = 0 := hm.symm
    subst m0
    cases A with
    | none =>
      obtain ⟨ao, cp, rfl⟩ := h.form
      refine ⟨ao, cp, w, app_none w base _ _ _ h c, ?_, Only.refl _ _, .inl rfl⟩
      rw [List.append_nil]
      exact h
    | some a =>
      obtain ⟨i0, hi, hz0, hz1, hz2⟩ := info_parts Tryz.infoEn
      obtain ⟨v', w', hr, h2, h3, _, h4⟩ := run_append_own_at (P := Tryz.prog) w base 47 47 41 i0 (.agg #[.string ⟨#[]⟩, .int .i64 0, .int .i64 0]) 3 32 Tryz.underlying47 hi hz0 hz1 hz2 rfl (by decide) v es.length (ecs es) h a 0 c [] rfl (fun j u hu => by simp at hu) (fun u hu => by cases hu) (by unfold maxLen; omega) (by omega) hbase
      rw [List.append_nil, Nat.add_zero] at h2
      have e : Ets w' base v' es := h2
      obtain ⟨ao, cp, rfl⟩ := e.form
      exact ⟨ao, cp, w', hr, by rw [List.append_nil]; exact e, Only.grown h3 (fun j hj => hj), h4⟩
theorem Els.take {w : World} {B : Nat} {A : Option Addr} {Q : List En} (h : Els w B A Q) (k : Nat) : Els w B A (Q.take k) := by
  refine ⟨fun h0 => ?_⟩
  rw [List.length_take] at h0
  obtain ⟨o, e, hc⟩ := h.at_ (by omega)
  refine ⟨o, e, fun j hj => ?_⟩
  have hj' := hj
  rw [List.length_take] at hj'
  rw [List.getElem_take]
  exact hc j (by omega)
theorem Els.drop {w : World} {B : Nat} {A A2 : Option Addr} {Q : List En} (h : Els w B A Q) (k : Nat) (hA : k < Q.length → A2 = A.map (·.add (k * 3))) : Els w B A2 (Q.drop k) := by
  refine ⟨fun h0 => ?_⟩
  rw [List.length_drop] at h0
  obtain ⟨o, e, hc⟩ := h.at_ (by omega)
  refine ⟨o + k * 3, by rw [hA (by omega), e, Option.map_some, add_at], fun j hj => ?_⟩
  have hj' := hj
  rw [List.length_drop] at hj'
  rw [List.getElem_drop]
  have q := hc (k + j) (by omega)
  have e2 : o + k * 3 + j * 3 = o + (k + j) * 3 := by omega
  rw [e2]
  exact q
/-- An entry comes in between: a new list out of a list's beginning, the entry and the rest. -/
theorem ets_three (w : World) (va : Option Addr) (B : Nat) (Q : List En) (q : En) (m : Nat) (A2 : Option Addr) (h : Els w B va Q) (hm : m ≤ Q.length) (hA : m < Q.length → A2 = va.map (·.add (m * 3))) (hQ : Q.length ≤ 4000000) (c1 c2 : Nat) :
    ∃ v6 w6 v7 w7 v8 w8, (Builtin.append_ #[47, 47] 47 #[.slice none 0 0, .slice va m c1]).run Tryz.prog w = .ok v6 w6 ∧
      (Builtin.append_ #[47, 47] 47 #[v6, .slice (some ⟨w6.heap.size, 0, none⟩) 1 1]).run Tryz.prog (w6.alloc (.cells #[.string q.key, .int .i64 q.page, .int .i64 q.slot] 41)) = .ok v7 w7 ∧
      (Builtin.append_ #[47, 47] 47 #[v7, .slice A2 (Q.length - m) c2]).run Tryz.prog w7 = .ok v8 w8 ∧
      Ets w8 w.heap.size v8 (Q.take m ++ [q] ++ Q.drop m) ∧ Only (fun _ => False) w w6 ∧ Only (fun _ => False) w w8 := by
  obtain ⟨a6, c6, w6, r6, e6, o6, _⟩ := ets_app w w.heap.size (.slice none 0 0) [] (Ets.nil _ _) va m c1 (Q.take m) (by rw [List.length_take]; omega) B (h.take m) (by simp; omega) (Nat.le_refl _)
  rw [List.nil_append] at e6
  obtain ⟨v6, hv6⟩ : ∃ v, Value.slice a6 (([] : List En).length + m) c6 = v := ⟨_, rfl⟩
  rw [hv6] at r6 e6
  have O6 : Only (fun _ => False) w w6 := o6.mono (fun k _ hk => by cases hk)
  have OA := onlyA w6 (.cells #[.string q.key, .int .i64 q.page, .int .i64 q.slot] 41)
  have L6 : (Q.take m).length = m := by rw [List.length_take]; omega
  obtain ⟨a7, c7, w7, r7, e7, o7, _⟩ := ets_app (w6.alloc (.cells #[.string q.key, .int .i64 q.page, .int .i64 q.slot] 41)) w.heap.size v6 (Q.take m) (e6.more OA) (some ⟨w6.heap.size, 0, none⟩) 1 1 [q] rfl w6.heap.size ⟨fun _ => ⟨0, rfl, fun k hk => by
    have : k = 0 := by simpa using hk
    subst this
    have h := Ev.new w6 q
    exact ⟨h.c0, h.c1, h.c2, h.lt⟩⟩⟩ (by omega) (by have := O6.size; have := OA.size; omega)
  obtain ⟨v7, hv7⟩ : ∃ v, Value.slice a7 ((Q.take m).length + 1) c7 = v := ⟨_, rfl⟩
  rw [hv7] at r7 e7
  have O7 : Only (fun _ => False) w w7 := (o2 O6 OA).trans o7 (fun k hk z => by have := (World.ownsRow.lt e6 k z).1; omega)
  obtain ⟨a8, c8, w8, r8, e8, o8, _⟩ := ets_app w7 w.heap.size v7 (Q.take m ++ [q]) e7 A2 (Q.length - m) c2 (Q.drop m) (List.length_drop ..) B ((h.more O7).drop m hA) (by rw [List.length_append, L6, List.length_singleton]; omega) O7.size
  exact ⟨v6, w6, v7, w7, _, w8, r6, r7, r8, e8, O6, O7.trans o8 (fun k hk z => by have := (World.ownsRow.lt e7 k z).1; omega)⟩
/-- An entry goes out: a new list out of what is ahead of it and what is behind it. -/
theorem ets_two (w : World) (va : Option Addr) (B : Nat) (Q : List En) (k : Nat) (A2 : Option Addr) (h : Els w B va Q) (hk : k < Q.length) (hA : k + 1 < Q.length → A2 = va.map (·.add ((k + 1) * 3))) (hQ : Q.length ≤ 4000000) (c1 c2 : Nat) :
    ∃ v6 w6 v7 w7, (Builtin.append_ #[47, 47] 47 #[.slice none 0 0, .slice va k c1]).run Tryz.prog w = .ok v6 w6 ∧
      (Builtin.append_ #[47, 47] 47 #[v6, .slice A2 (Q.length - (k + 1)) c2]).run Tryz.prog w6 = .ok v7 w7 ∧
      Ets w7 w.heap.size v7 (Q.take k ++ Q.drop (k + 1)) ∧ Only (fun _ => False) w w7 := by
  obtain ⟨a6, c6, w6, r6, e6, o6, _⟩ := ets_app w w.heap.size (.slice none 0 0) [] (Ets.nil _ _) va k c1 (Q.take k) (by rw [List.length_take]; omega) B (h.take k) (by simp; omega) (Nat.le_refl _)
  rw [List.nil_append] at e6
  obtain ⟨v6, hv6⟩ : ∃ v, Value.slice a6 (([] : List En).length + k) c6 = v := ⟨_, rfl⟩
  rw [hv6] at r6 e6
  have O6 : Only (fun _ => False) w w6 := o6.mono (fun k _ hk => by cases hk)
  have L6 : (Q.take k).length = k := by rw [List.length_take]; omega
  obtain ⟨a8, c8, w8, r8, e8, o8, _⟩ := ets_app w6 w.heap.size v6 (Q.take k) e6 A2 (Q.length - (k + 1)) c2 (Q.drop (k + 1)) (List.length_drop ..) B ((h.more O6).drop (k + 1) hA) (by rw [L6]; omega) O6.size
  exact ⟨v6, w6, _, w8, r6, r8, e8, O6.trans o8 (fun k hk z => by have := (World.ownsRow.lt e6 k z).1; omega)⟩
section Sa
variable {w W : World} {f g cap : Nat} {zs : List Pz} {N : Nat} {F : Nat → Nd} {lo : Nat → En} {A : En → Prop} {v : Value} {L : List En}
/-- Another list, made since, in the old one's place. -/
theorem Sa.fresh (h : Sa w W f g cap zs N F lo A v L) {W' : World} {v' : Value} {L' : List En} (ho : Only (fun _ => False) W W') (he : Ets W' W.heap.size v' L') : Sa w W' f g cap zs N F lo A v' L' := by
  have hff := h.sn.fm.flt
  have hgg := (World.ownsRow.lt h.sn.fm.row g rfl).2
  have hw : w.heap.size ≤ W.heap.size := by have := h.sn.f0; omega
  have new : ∀ k, v'.ownBlock = some k → W.heap.size ≤ k ∧ k < W'.heap.size := fun k hk => World.ownsRow.lt he k hk
  refine ⟨⟨h.sn.fm.rek (ho.mono (fun _ _ q => q.elim)) (fun k hk => ⟨.inr (new k hk).1, (new k hk).2⟩) h.nf h.ng, h.sn.fz, h.sn.fs, h.sn.f0, h.sn.g0⟩, he.base hw, fun q => ?_, fun q => ?_⟩
  · have := (new f q).1
    omega
  · have := (new g q).1
    omega
/-- An entry goes out. -/
theorem sa_out (h : Sa w W f g cap zs N F lo A v L) {i : Nat} (hb : Bd N F i) (hi : i ≤ 301) {e : En} (he : e.ok = true) {j : Nat} (hj : pg N j) (hv : (F j).lv = 0) (hm : e ∈ (F j).es) : Calls Tryz.prog 22 #[.pointer (some ⟨f, 0, none⟩), .agg (Br.cells ⟨4, (j : Int), e.enc, none, 0, 0⟩)] W fun x w' => x = .returned (.bool true) ∧ ∃ g' cap' zs' F', Sa w w' f g' cap' zs' N F' lo (fun x => A x ∧ x ≠ e) v L ∧ Bd N F' i ∧ Only (fun k => k = f ∨ k = g) W w' := by
  refine (h.sn.out hb hi he hj hv hm).mono ?_
  rintro x w' ⟨rfl, g', cap', zs', F', q1, q2, q3, q4⟩
  refine ⟨rfl, g', cap', zs', F', ⟨q1, h.ets.kept q3 (fun k hk => ?_), h.nf, ?_⟩, q2, q3⟩
  · rintro (rfl | rfl)
    · exact h.nf hk
    · exact h.ng hk
  · intro hk
    rcases q4 with k | k
    · rw [k] at hk
      exact h.ng hk
    · have := h.lt g' hk
      omega
/-- What was entered is another thing, told by the same. -/
theorem Sa.congr (h : Sa w W f g cap zs N F lo A v L) {A' : En → Prop} (ha : ∀ e, A e ↔ A' e) : Sa w W f g cap zs N F lo A' v L := ⟨⟨h.sn.fm, h.sn.fz, h.sn.fs.congr (fun e => (ha e).symm), h.sn.f0, h.sn.g0⟩, h.ets, h.nf, h.ng⟩
end Sa
set_option maxHeartbeats 3200000 in
theorem ahits_same (w : World) (B1 B2 n C1 C2 : Nat) (A1 A2 : Option Addr) (es : List En) (h1 : Els w B1 A1 es) (h2 : Els w B2 A2 es) (hn : es.length = n) (hl : n ≤ 4194304) :
    Calls Tryz.prog 23 #[.slice A1 n C1, .slice A2 n C2] w fun x w' => x = .returned (.bool true) ∧ Only (fun _ => False) w w' := by
  have H1 := hide h1
  have H2 := hide h2
  have HN := hide hn
  clear h1 h2 hn
  go_enter Tryz.func23, Tryz.ntmps23
  go_upto_region 4 with fail
  go_loopw [5] (fun i wr => ∃ (j : Nat), j ≤ n ∧ i = .int .i64 (j : Int) ∧ Hid (Only (fun _ => False) w wr)) (fun i _ => n - (intOf i).toNat)
  case atStart => exact ⟨0, Nat.zero_le _, rfl, hide (Only.refl _ _)⟩
  case round =>
    obtain ⟨j, hj, rfl, HW⟩ := hrel
    by_cases hlt : j < n
    · have hlk : (j : Int) < (n : Int) := by omega
      have hlk2 : ¬ (n : Int) ≤ (j : Int) := by omega
      have hje : j < es.length := by have := HN.out; omega
      obtain ⟨o1, rfl, hb1⟩ := (H1.out.more HW.out).of j hje
      obtain ⟨o2, rfl, hb2⟩ := (H2.out.more HW.out).of j hje
      have hq := neqE_run es[j] es[j]
      rw [decide_eq_true rfl] at hq
      obtain ⟨g, hg⟩ : ∃ g, es[j] = g := ⟨_, rfl⟩
      rw [hg] at hb1 hb2 hq
      have HB1 := hide hb1
      have HB2 := hide hb2
      clear hb1 hb2 hg
      go_upto_region 6 with fail
      -- {r6
      refine wp_region_noPanic ?_
      refine wp_region_held_drew (S := fun W => Only (fun _ => False) wr W) (by kernel_rfl) (Only.drew _ _) (fun hHeld => ?_)
      refine wpAnyH_take (i := 0) (oi := { dst := some 17, op := Op.move (Operand.tmp 0), type := 47, pos := "law.go:49", after := #[], guard := none }) (v := .slice (some ⟨B1, o1, none⟩) n C1) rfl (by kernel_rfl) (by kernel_rfl) (by kernel_rfl) (fun _ _ _ h => h) (Or.inl ⟨by rfl, fun w' hSw => by clear hSw; go_simp⟩) (by assumption) ?_
      simp only [Act.put, List.setIfInBounds_toArray, List.set_cons_zero, List.set_cons_succ]
      refine wpAnyH_take (i := 1) (oi := { dst := some 18, op := Op.move (Operand.tmp 5), type := 3, pos := "law.go:49", after := #[], guard := none }) (v := .int .i64 (j : Int)) rfl (by kernel_rfl) (by kernel_rfl) (by kernel_rfl) (fun _ _ _ h => h) (Or.inl ⟨by rfl, fun w' hSw => by clear hSw; go_simp⟩) (by assumption) ?_
      simp only [Act.put, List.setIfInBounds_toArray, List.set_cons_zero, List.set_cons_succ]
      refine wpAnyH_take (i := 4) (oi := { dst := some 21, op := Op.move (Operand.tmp 1), type := 47, pos := "law.go:49", after := #[], guard := none }) (v := .slice (some ⟨B2, o2, none⟩) n C2) rfl (by kernel_rfl) (by kernel_rfl) (by kernel_rfl) (fun _ _ _ h => h) (Or.inl ⟨by rfl, fun w' hSw => by clear hSw; go_simp⟩) (by assumption) ?_
      simp only [Act.put, List.setIfInBounds_toArray, List.set_cons_zero, List.set_cons_succ]
      refine wpAnyH_take (i := 5) (oi := { dst := some 22, op := Op.move (Operand.tmp 5), type := 3, pos := "law.go:49", after := #[], guard := none }) (v := .int .i64 (j : Int)) rfl (by kernel_rfl) (by kernel_rfl) (by kernel_rfl) (fun _ _ _ h => h) (Or.inl ⟨by rfl, fun w' hSw => by clear hSw; go_simp⟩) (by assumption) ?_
      simp only [Act.put, List.setIfInBounds_toArray, List.set_cons_zero, List.set_cons_succ]
      refine wpAnyH_take (i := 2) (oi := { dst := some 19, op := Op.indexAddr 47 (Operand.tmp 17) (Operand.tmp 18), type := 0, pos := "law.go:49", after := #[{ on := 0, ground := Ground.data }, { on := 1, ground := Ground.data }], guard := none }) (v := .pointer (some ⟨B1, o1 + j * 3, none⟩)) rfl (by kernel_rfl) (by kernel_rfl) (by kernel_rfl) (fun _ _ _ h => h) (Or.inl ⟨by rfl, fun w' hSw => by clear hSw; go_simp⟩) (by assumption) ?_
      simp only [Act.put, List.setIfInBounds_toArray, List.set_cons_zero, List.set_cons_succ]
      refine wpAnyH_take (i := 6) (oi := { dst := some 23, op := Op.indexAddr 47 (Operand.tmp 21) (Operand.tmp 22), type := 0, pos := "law.go:49", after := #[{ on := 4, ground := Ground.data }, { on := 5, ground := Ground.data }], guard := none }) (v := .pointer (some ⟨B2, o2 + j * 3, none⟩)) rfl (by kernel_rfl) (by kernel_rfl) (by kernel_rfl) (fun _ _ _ h => h) (Or.inl ⟨by rfl, fun w' hSw => by clear hSw; go_simp⟩) (by assumption) ?_
      simp only [Act.put, List.setIfInBounds_toArray, List.set_cons_zero, List.set_cons_succ]
      refine wpAnyH_take (i := 3) (oi := { dst := some 20, op := Op.load 41 (Operand.tmp 19), type := 41, pos := "law.go:49", after := #[{ on := 2, ground := Ground.data }], guard := none }) (v := .agg #[.string g.key, .int .i64 g.page, .int .i64 g.slot]) rfl (by kernel_rfl) (by kernel_rfl) (by kernel_rfl) (fun _ _ _ h => h) (yieldsIf_load_eb (by rfl) _ rfl rfl (fun W hW => HB1.out.more hW)) (by assumption) ?_
      simp only [Act.put, List.setIfInBounds_toArray, List.set_cons_zero, List.set_cons_succ]
      refine wpAnyH_take (i := 7) (oi := { dst := some 24, op := Op.load 41 (Operand.tmp 23), type := 41, pos := "law.go:49", after := #[{ on := 6, ground := Ground.data }], guard := none }) (v := .agg #[.string g.key, .int .i64 g.page, .int .i64 g.slot]) rfl (by kernel_rfl) (by kernel_rfl) (by kernel_rfl) (fun _ _ _ h => h) (yieldsIf_load_eb (by rfl) _ rfl rfl (fun W hW => HB2.out.more hW)) (by assumption) ?_
      simp only [Act.put, List.setIfInBounds_toArray, List.set_cons_zero, List.set_cons_succ]
      refine wpAnyH_take (i := 8) (oi := { dst := some 25, op := Op.binOp BinOp.neq 41 (Operand.tmp 20) (Operand.tmp 24) 41, type := 4, pos := "law.go:49", after := #[{ on := 3, ground := Ground.data }, { on := 7, ground := Ground.data }], guard := none }) (v := .bool false) rfl (by kernel_rfl) (by kernel_rfl) (by kernel_rfl) (fun _ _ _ h => h) (Or.inl ⟨by rfl, fun w' hSw => by clear hSw; go_simp⟩) (by assumption) ?_
      simp only [Act.put, List.setIfInBounds_toArray, List.set_cons_zero, List.set_cons_succ]
      refine wpAnyH_done (by kernel_rfl) ?_ _
      refine NoPanic.normal ?_
      -- r6}
      clear hq
      go_wp2_with fail
      go_roundw
      case rel => exact ⟨j + 1, by omega, by go_num, hide (HW.out.trans (Only.drew (fun _ => False) _) (fun _ _ h => h))⟩
      case measure => simp [intOf]; omega
    · have hlk : ¬ (j : Int) < (n : Int) := by omega
      go_wp2_with fail
      go_ret
      exact ⟨rfl, HW.out⟩
end Go.Proofs.YthjjkhacniebiaaGreat

namespace Go.Proofs.YthjjkhacniebiaaGreat
open Go.RowKit

set_option maxHeartbeats 3200000 in
theorem fcompare_any (a b : En) (w : World) : Calls Tryz.prog 20 #[a.agg, b.agg] w fun x w' => x = .returned (.int .i64 (cmpE a b)) ∧ Only (fun _ => False) w w' := by
  have he := eqE_run a b
  have HO := hide (o2 (onlyA w (.cells #[.string a.key, .int .i64 a.page, .int .i64 a.slot] 41)) (onlyA _ (.cells #[.string b.key, .int .i64 b.page, .int .i64 b.slot] 41)))
  by_cases h : a = b
  · have hz : cmpE a b = 0 := cmpE_zero.2 h
    have hd : decide (a = b) = true := decide_eq_true h
    rw [hd] at he
    rw [hz]
    clear h hd hz
    obtain ⟨k, p, s⟩ := a
    obtain ⟨k', p', s'⟩ := b
    unfold En.agg
    simp only [] at he HO ⊢
    go_enter Tryz.func20, Tryz.ntmps20
    go_wp2_with fail
    go_ret
    exact ⟨rfl, HO.out⟩
  · have hd : decide (a = b) = false := decide_eq_false h
    rw [hd] at he
    have hz : cmpE a b = if a.lt b then -1 else 1 := by unfold cmpE; rw [if_neg h]
    obtain ⟨z, hz2⟩ : ∃ z, cmpE a b = z := ⟨_, rfl⟩
    rw [hz2] at hz ⊢
    have HZ := hide hz
    clear h hd hz hz2
    obtain ⟨k, p, s⟩ := a
    obtain ⟨k', p', s'⟩ := b
    unfold En.agg
    unfold En.lt at HZ
    simp only [] at he HO HZ ⊢
    by_cases h1 : k = k'
    · have e1 := ba_eqN h1
      have e0 : Op.bytesLess k.toList k'.toList = false := by rw [bless_lt, h1]; simp [List.lt_irrefl]
      have HZ1 : Hid (z = if (if p = p' then s < s' else p < p') then -1 else 1) := by unfold Hid; rw [HZ.out]; simp only [if_pos h1]
      clear h1 HZ
      by_cases h2 : p = p'
      · have e2 : (p == p') = true := by simpa using h2
        have e3 : ¬ p < p' := by omega
        have HZ2 : Hid (z = if s < s' then -1 else 1) := by unfold Hid; rw [HZ1.out]; simp only [if_pos h2]
        clear h2 HZ1
        by_cases h3 : s < s'
        · have HZ3 : Hid (z = -1) := by unfold Hid; rw [HZ2.out, if_pos h3]
          clear HZ2
          go_enter Tryz.func20, Tryz.ntmps20
          go_wp2_with fail
          go_ret
          exact ⟨by rw [HZ3.out]; rfl, HO.out⟩
        · have HZ3 : Hid (z = 1) := by unfold Hid; rw [HZ2.out, if_neg h3]
          clear HZ2
          go_enter Tryz.func20, Tryz.ntmps20
          go_wp2_with fail
          go_ret
          exact ⟨by rw [HZ3.out]; rfl, HO.out⟩
      · have e2 : (p == p') = false := by simpa using h2
        have HZ2 : Hid (z = if p < p' then -1 else 1) := by unfold Hid; rw [HZ1.out]; simp only [if_neg h2]
        clear h2 HZ1
        by_cases h3 : p < p'
        · have HZ3 : Hid (z = -1) := by unfold Hid; rw [HZ2.out, if_pos h3]
          clear HZ2
          go_enter Tryz.func20, Tryz.ntmps20
          go_wp2_with fail
          go_ret
          exact ⟨by rw [HZ3.out]; rfl, HO.out⟩
        · have HZ3 : Hid (z = 1) := by unfold Hid; rw [HZ2.out, if_neg h3]
          clear HZ2
          go_enter Tryz.func20, Tryz.ntmps20
          go_wp2_with fail
          go_ret
          exact ⟨by rw [HZ3.out]; rfl, HO.out⟩
    · have e1 := ba_neN h1
      have HZ1 : Hid (z = if bl k < bl k' then -1 else 1) := by unfold Hid; rw [HZ.out]; simp only [if_neg h1]
      clear h1 HZ
      by_cases h3 : bl k < bl k'
      · have e0 : Op.bytesLess k.toList k'.toList = true := by rw [bless_lt]; exact decide_eq_true h3
        have HZ3 : Hid (z = -1) := by unfold Hid; rw [HZ1.out, if_pos h3]
        clear HZ1 h3
        go_enter Tryz.func20, Tryz.ntmps20
        go_wp2_with fail
        go_ret
        exact ⟨by rw [HZ3.out]; rfl, HO.out⟩
      · have e0 : Op.bytesLess k.toList k'.toList = false := by rw [bless_lt]; exact decide_eq_false h3
        have HZ3 : Hid (z = 1) := by unfold Hid; rw [HZ1.out, if_neg h3]
        clear HZ1 h3
        go_enter Tryz.func20, Tryz.ntmps20
        go_wp2_with fail
        go_ret
        exact ⟨by rw [HZ3.out]; rfl, HO.out⟩
end Go.Proofs.YthjjkhacniebiaaGreat
