/- What Keys does: a list of entries. -/
import Derived.Test.YtpbpamhlenogoaaHIns
namespace Go.Proofs.Ytpbpamhlenogoaa
open Go.RowKit

/-- The entries of the first n items. -/
def entsL (l : List ByteArray) : Nat → List (ByteArray × Nat)
  | 0 => []
  | n + 1 => entsL l n ++ (match keyT (bl (l.getD n ⟨#[]⟩)) with | some k => [(k, n)] | none => [])
theorem entsL_len (l : List ByteArray) (n : Nat) : (entsL l n).length ≤ n := by
  induction n with
  | zero => simp [entsL]
  | succ n ih =>
    simp only [entsL, List.length_append]
    cases keyT (bl (l.getD n ⟨#[]⟩)) <;> simp <;> omega
theorem entsL_some {l : List ByteArray} {n : Nat} {k : ByteArray} (h : n < l.length) (hk : keyT (bl l[n]) = some k) : entsL l (n + 1) = entsL l n ++ [(k, n)] := by
  simp only [entsL]
  rw [show l.getD n ⟨#[]⟩ = l[n] by simp [List.getD, h], hk]
theorem entsL_none {l : List ByteArray} {n : Nat} (h : n < l.length) (hk : keyT (bl l[n]) = none) : entsL l (n + 1) = entsL l n := by
  simp only [entsL]
  rw [show l.getD n ⟨#[]⟩ = l[n] by simp [List.getD, h], hk, List.append_nil]
/-- Entries as cells. -/
def ecells (es : List (ByteArray × Nat)) : List Value := es.flatMap fun e => [.string e.1, .int .i64 0, .int .i64 (e.2 : Int)]
theorem ecells_len (es : List (ByteArray × Nat)) : (ecells es).length = es.length * 3 := by
  induction es with
  | nil => rfl
  | cons e es ih => simp only [ecells, List.flatMap_cons, List.length_append, List.length_cons, List.length_nil] at ih ⊢; omega
theorem ecells_app (es fs : List (ByteArray × Nat)) : ecells (es ++ fs) = ecells es ++ ecells fs := by simp [ecells]
theorem ecells_get (es : List (ByteArray × Nat)) (j : Nat) (h : j < es.length) : (ecells es)[j * 3]? = some (.string es[j].1) ∧ (ecells es)[j * 3 + 1]? = some (.int .i64 0) ∧ (ecells es)[j * 3 + 2]? = some (.int .i64 (es[j].2 : Int)) := by
  induction es generalizing j with
  | nil => simp at h
  | cons e es ih =>
    have hc : ecells (e :: es) = [.string e.1, .int .i64 0, .int .i64 (e.2 : Int)] ++ ecells es := rfl
    rw [hc]
    cases j with
    | zero => exact ⟨rfl, rfl, rfl⟩
    | succ j =>
      obtain ⟨a, b, c⟩ := ih j (by simpa using h)
      refine ⟨?_, ?_, ?_⟩
      · rw [List.getElem?_append_right (by simp; omega)]
        simpa [show (j + 1) * 3 - 3 = j * 3 by omega] using a
      · rw [List.getElem?_append_right (by simp; omega)]
        simpa [show (j + 1) * 3 + 1 - 3 = j * 3 + 1 by omega] using b
      · rw [List.getElem?_append_right (by simp; omega)]
        simpa [show (j + 1) * 3 + 2 - 3 = j * 3 + 2 by omega] using c
/-- Entries that the value v owns, in a block from base on. -/
def Ens (w : World) (base : Nat) (v : Value) (es : List (ByteArray × Nat)) : Prop := w.ownsRow base 54 3 v es.length (ecells es)
theorem Ens.nil (w : World) (base : Nat) : Ens w base (.slice none 0 0) [] := World.ownsRow_nil _ _ _ _
theorem Ens.kept {S : Nat → Prop} {w w' : World} {base : Nat} {v : Value} {es : List (ByteArray × Nat)} (h : Ens w base v es) (ho : Only S w w') (hS : ∀ k, v.ownBlock = some k → ¬ S k) : Ens w' base v es := by
  obtain ⟨h1, h2⟩ := h
  refine ⟨h1, ?_⟩
  rcases h2 with h2 | ⟨g, cap, cur, hv, hg, hh, r⟩
  · exact .inl h2
  · subst hv
    exact .inr ⟨g, cap, cur, rfl, hg, by rw [ho.block g (Array.getElem?_eq_some_iff.1 hh).1 (hS g rfl)]; exact hh, r⟩
theorem Ens.more {w w' : World} {base : Nat} {v : Value} {es : List (ByteArray × Nat)} (h : Ens w base v es) (ho : Only (fun _ => False) w w') : Ens w' base v es := h.kept ho (fun _ _ h => h)
theorem Ens.form {w : World} {base : Nat} {v : Value} {es : List (ByteArray × Nat)} (h : Ens w base v es) : ∃ ao cp, v = .slice ao es.length cp := by
  rcases h.2 with ⟨rfl, h0⟩ | ⟨g, cap, cur, rfl, _⟩
  · exact ⟨none, 0, by rw [h0]⟩
  · exact ⟨_, _, rfl⟩
/-- Entry j, where there is one. -/
theorem Ens.at_ {w : World} {base : Nat} {v : Value} {es : List (ByteArray × Nat)} (h : Ens w base v es) (j : Nat) (hj : j < es.length) : ∃ g cp, v = .slice (some ⟨g, 0, none⟩) es.length cp ∧ base ≤ g ∧ g < w.heap.size ∧ w.cell? ⟨g, j * 3, none⟩ = some (.string es[j].1) ∧ w.cell? ⟨g, j * 3 + 1, none⟩ = some (.int .i64 0) ∧ w.cell? ⟨g, j * 3 + 2, none⟩ = some (.int .i64 (es[j].2 : Int)) := by
  have h' := h
  rcases h.2 with ⟨rfl, h0⟩ | ⟨g, cap, cur, rfl, hb, hh, _⟩
  · omega
  · obtain ⟨a, b, c⟩ := ecells_get es j hj
    have hl := ecells_len es
    refine ⟨g, cap, rfl, hb, (Array.getElem?_eq_some_iff.1 hh).1, ?_, ?_, ?_⟩
    · rw [World.ownsRow.cellAt h' _ (by omega)]; exact a
    · rw [World.ownsRow.cellAt h' _ (by omega)]; exact b
    · rw [World.ownsRow.cellAt h' _ (by omega)]; exact c
theorem Try.infoEntry : (Try.prog.info? 54).map (fun i => (i.zero, i.size, i.bytes)) = some (some (.agg #[.string ⟨#[]⟩, .int .i64 0, .int .i64 0]), 3, 32) := by kernel_rfl
theorem ens_append (w : World) (base : Nat) (v : Value) (es : List (ByteArray × Nat)) (h : Ens w base v es) (k : ByteArray) (n : Nat) (hl : es.length ≤ 1048576) (hbase : base ≤ w.heap.size) :
    ∃ ao cp w', (Builtin.append_ #[49, 49] 49 #[v, .slice (some ⟨w.heap.size, 0, none⟩) 1 1]).run Try.prog (w.alloc (.cells #[.string k, .int .i64 0, .int .i64 (n : Int)] 54)) = .ok (.slice ao (es.length + 1) cp) w' ∧ Ens w' base (.slice ao (es.length + 1) cp) (es ++ [(k, n)]) ∧ Only (fun j => base ≤ j) w w' := by
  obtain ⟨i0, hi, hz0, hz1, hz2⟩ := info_parts Try.infoEntry
  have h' := h.more (onlyA w (.cells #[.string k, .int .i64 0, .int .i64 (n : Int)] 54))
  obtain ⟨v', w', hr, h2, h3, _, _⟩ := run_append_own_at (P := Try.prog) (w.alloc (.cells #[.string k, .int .i64 0, .int .i64 (n : Int)] 54)) base 49 49 54 i0 (.agg #[.string ⟨#[]⟩, .int .i64 0, .int .i64 0]) 3 32 Try.underlying49 hi hz0 hz1 hz2 rfl (by decide) v es.length (ecells es) h' ⟨w.heap.size, 0, none⟩ 1 1 [.string k, .int .i64 0, .int .i64 (n : Int)] rfl
    (fun j u hu => by
      match j, hu with
      | 0, hu => simp at hu; subst hu; simp [Addr.add]
      | 1, hu => simp at hu; subst hu; simp [Addr.add]
      | 2, hu => simp at hu; subst hu; simp [Addr.add]) (by intro u hu; simp at hu; rcases hu with rfl | rfl | rfl <;> rfl) (by unfold maxLen; omega) (by omega) (by simp; omega)
  have e : Ens w' base v' (es ++ [(k, n)]) := by
    unfold Ens
    rw [ecells_app, List.length_append]
    exact h2
  obtain ⟨ao, cp, rfl⟩ := e.form
  rw [List.length_append] at hr e
  exact ⟨ao, cp, w', hr, e, ((onlyA w _).mono (fun _ _ h => h.elim)).trans (Only.grown h3 (fun j hj => (World.ownsRow.lt h' j hj).1)) (fun _ _ h => h)⟩
set_option maxRecDepth 100000 in
set_option maxHeartbeats 1600000 in
theorem keys_any (w : World) (a k v r : Int) (h : ByteArray) (B cp : Nat) (ao : Option Addr) (l : List ByteArray) (hS : Strs w B ao l) (hl : l.length ≤ 1048576) :
    Calls Try.prog 13 #[pv a k v r h ao l.length cp] w fun e w' => ∃ ks, e = .returned ks ∧ Ens w' w.heap.size ks (if k = 2 then entsL l l.length else []) ∧ Only (fun _ => False) w w' := by
  have HO := hide (onlyA w (.cells #[.int .i64 a, .int .i64 k, .int .i64 v, .int .i64 r, .string h, .slice ao l.length cp] 24))
  have HP := hide (Pag.new w (.int .i64 a) (.int .i64 k) (.int .i64 v) (.int .i64 r) (.string h) (.slice ao l.length cp))
  have HS := hide hS
  clear hS
  by_cases hk : k = 2
  · have hk' : (k == 2) = true := by simpa using hk
    rw [if_pos hk]
    clear hk
    go_enter Try.func13, Try.ntmps13
    go_wp2_with fail
    refine (isHeap_any _ a k v r h ao l.length cp).mono ?_
    rintro e w1 ⟨rfl, ho1⟩
    rw [hk']
    have HO1 := hide (o2 HO.out ho1)
    have HP1 := hide (HP.out.more ho1)
    clear ho1 HP HO
    have p5 := HP1.out.c5
    go_wp2_with fail
    clear p5
    go_loopw [3, 14] (fun x i wr => ∃ (j : Nat), j ≤ l.length ∧ i = .int .i64 (j : Int) ∧ Hid (Ens wr w.heap.size x (entsL l j)) ∧ Hid (Only (fun _ => False) w wr)) (fun _ i _ => l.length - (intOf i).toNat)
    case atStart => exact ⟨0, Nat.zero_le _, rfl, hide (Ens.nil _ _), HO1⟩
    case round =>
      obtain ⟨j, hj, rfl, HX, HW⟩ := hrel
      by_cases hlt : j < l.length
      · obtain ⟨o, rfl, hc⟩ := (HS.out.more HW.out).at_ (by omega)
        have ck := hc j hlt
        have hlk : (j : Int) < (l.length : Int) := by omega
        have HKY : Hid (∀ W, Calls Try.prog 30 #[.string l[j]] W fun e w' => e = .returned (outK (keyT (bl l[j]))) ∧ Only (fun _ => False) W w') := fun W => ukey_any _ W
        have HES := hide (fun k (h : keyT (bl l[j]) = some k) => entsL_some hlt h)
        have HEN := hide (fun (h : keyT (bl l[j]) = none) => entsL_none hlt h)
        have hel := entsL_len l j
        obtain ⟨s, hs⟩ : ∃ s, l[j] = s := ⟨_, rfl⟩
        rw [hs] at ck HKY HES HEN
        clear hc hs
        cases hq : keyT (bl s) with
        | none =>
          have HE := hide (HEN.out hq)
          rw [hq] at HKY
          unfold outK at HKY
          simp only [Option.getD_none, Option.isSome_none] at HKY
          clear hq HES HEN
          go_wp2_with fail
          refine (HKY.out _).mono ?_
          rintro e w2 ⟨rfl, ho2⟩
          have HX2 := hide (HX.out.more ho2)
          rw [← HE.out] at HX2
          have HW2 := hide (o2 HW.out ho2)
          clear ho2
          go_wp2_with fail
          go_roundw
          case rel => exact ⟨j + 1, by omega, by go_num, HX2, HW2⟩
          case measure => simp [intOf]; omega
        | some key =>
          have HE := hide (HES.out key hq)
          rw [hq] at HKY
          unfold outK at HKY
          simp only [Option.getD_some, Option.isSome_some] at HKY
          clear hq HES HEN
          go_wp2_with fail
          refine (HKY.out _).mono ?_
          rintro e w2 ⟨rfl, ho2⟩
          obtain ⟨ao3, cp3, w3, hr3, he3, ho3⟩ := ens_append w2 w.heap.size _ _ (HX.out.more ho2) key j (by omega) (Nat.le_trans HW.out.size ho2.size)
          have HX3 := hide he3
          rw [← HE.out] at HX3
          have HW3 : Hid (Only (fun _ => False) w w3) := (o2 HW.out ho2).trans ho3 (fun i hi e => by omega)
          have HR3 := hide hr3
          clear ho2 hr3 he3 ho3
          go_wp2_with (at_builtin; go_must (refine Lib.wpList_append_run _ rfl _ _ _ _ rfl _ _ rfl rfl _ _ HR3.out ?_))
          go_roundw
          case rel => exact ⟨j + 1, by omega, by go_num, HX3, HW3⟩
          case measure => simp [intOf]; omega
      · have hlk : ¬ (j : Int) < (l.length : Int) := by omega
        have ej : j = l.length := by omega
        subst ej
        go_wp2_with fail
        go_ret
        exact ⟨_, rfl, HX.out, HW.out⟩
  · have hk' : (k == 2) = false := by simpa using hk
    rw [if_neg hk]
    clear hk
    go_enter Try.func13, Try.ntmps13
    go_wp2_with fail
    refine (isHeap_any _ a k v r h ao l.length cp).mono ?_
    rintro e w1 ⟨rfl, ho1⟩
    rw [hk']
    have HO1 := hide (o2 HO.out ho1)
    clear ho1
    go_wp2_with fail
    go_ret
    exact ⟨_, rfl, Ens.nil _ _, HO1.out⟩
end Go.Proofs.Ytpbpamhlenogoaa
