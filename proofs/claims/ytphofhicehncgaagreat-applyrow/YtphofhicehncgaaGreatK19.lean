/- Loads in regions that draw: entries, what a node says, pages, single cells. -/
import Derived.Test.YtphofhicehncgaaGreatK18
import Derived.Test.YtphofhicehncgaaGreatK05
namespace Go.Proofs.YtphofhicehncgaaGreat
open Go.RowKit

/-- A page as a value. -/
def pgv (a k v r : Int) (h : ByteArray) (ao : Option Addr) (n cp : Nat) : Value := .agg #[.int .i64 a, .int .i64 k, .int .i64 v, .int .i64 r, .string h, .slice ao n cp]
theorem HiIs.dec {h : ByteArray} {hi : En} (x : h = hi.enc) (ho : hi.ok = true) : decE (bl h) = some hi := by
  rw [x, bl_enc, decE_lay ho]
theorem enc_ne {hi : En} : ¬ hi.enc = (⟨#[]⟩ : ByteArray) := by
  intro e
  have h1 : bl hi.enc = [] := by rw [e]
  rw [bl_enc] at h1
  have h2 : (txL hi.key).length = 0 := by
    have := congrArg List.length h1
    unfold En.lay at this
    simp only [List.length_append, List.length_nil] at this
    omega
  unfold txL at h2
  have h3 : 0 < (sev hi.key.size).length := by unfold sev sevF; split <;> simp
  simp only [List.length_append] at h2
  omega
/-- The boxes of a page and of an entry that is answered. -/
theorem hd_new (w : World) (v0 v1 v2 v3 v4 v5 : Value) : Pag ((w.alloc (.cells #[v0, v1, v2, v3, v4, v5] 25)).alloc (.cells #[.string ⟨#[]⟩, .int .i64 0, .int .i64 0] 83)) w.heap.size v0 v1 v2 v3 v4 v5 ∧ Ev ((w.alloc (.cells #[v0, v1, v2, v3, v4, v5] 25)).alloc (.cells #[.string ⟨#[]⟩, .int .i64 0, .int .i64 0] 83)) (w.heap.size + 1) noE ∧ Only (fun _ => False) w ((w.alloc (.cells #[v0, v1, v2, v3, v4, v5] 25)).alloc (.cells #[.string ⟨#[]⟩, .int .i64 0, .int .i64 0] 83)) := by
  refine ⟨(Pag.new w v0 v1 v2 v3 v4 v5).more (onlyA _ _), ?_, o2 (onlyA _ _) (onlyA _ _)⟩
  have e1 := Ev.zero (w.alloc (.cells #[v0, v1, v2, v3, v4, v5] 25))
  rw [World.size_alloc] at e1
  exact e1
set_option maxHeartbeats 1600000 in
theorem readHead_ok (w : World) (a v r : Int) (h : ByteArray) (hi : En) (ao : Option Addr) (n cp : Nat) (hv : 0 ≤ v ∧ v ≤ 255) (hr : 0 ≤ r ∧ r ≤ 65535) (hh : HiIs h hi) :
    Calls Tryz.prog 114 #[pgv a 3 v r h ao n cp] w fun e w' => e = .returned (.tuple #[hi.agg, .bool true]) ∧ Only (fun _ => False) w w' := by
  have HX := hide (hd_new w (.int .i64 a) (.int .i64 3) (.int .i64 v) (.int .i64 r) (.string h) (.slice ao n cp))
  have HN : Hid (∀ W, Calls Tryz.prog 113 #[.int .i64 r] W fun e w' => e = .returned (.bool true) ∧ w' = W) := fun W => by
    have := isNumber_any r W
    rwa [show nm r = true by unfold nm; simp; omega] at this
  have t1 : ¬ v < 0 := by omega
  have t2 : ¬ (255 : Int) < v := by omega
  clear hv hr
  unfold pgv
  rcases hh with ⟨rfl, rfl⟩ | ⟨hx, ho⟩
  · go_enter Tryz.func114, Tryz.ntmps114
    go_upto_region 1 with fail
    obtain ⟨W0, hW0⟩ : ∃ x, (w.alloc (.cells #[.int .i64 a, .int .i64 3, .int .i64 v, .int .i64 r, .string ⟨#[]⟩, .slice ao n cp] 25)).alloc (.cells #[.string ⟨#[]⟩, .int .i64 0, .int .i64 0] 83) = x := ⟨_, rfl⟩
    rw [hW0] at HX ⊢
    clear hW0
    obtain ⟨p0, p1, p2, p3, p4, p5, _⟩ := HX.out.1
    obtain ⟨q0, q1, q2, g0, g1, g2, ql⟩ := HX.out.2.1
    go_wp2_with fail
    refine (HN.out _).mono ?_
    rintro x w1 ⟨rfl, h1⟩
    obtain rfl := h1.symm
    go_wp2_with fail
    refine bodyPost_ret (results_ev rfl rfl (HX.out.2.1.all noE)) rfl ?_
    exact ⟨rfl, HX.out.2.2.trans (Only.three _ _ _ _ _) (fun i hi e => by omega)⟩
  · have HD : Hid (∀ W, Calls Tryz.prog 42 #[.string h] W fun e w' => e = .returned (.tuple #[.agg #[.string hi.key, .int .i64 hi.page, .int .i64 hi.slot], .int .i64 0]) ∧ Only (fun _ => False) W w') := fun W => by
      have := decode_any h W
      rw [HiIs.dec hx ho] at this
      exact this
    have hne := ba_neN (s := h) (t := ⟨#[]⟩) (by rw [hx]; exact enc_ne)
    have hne' : ¬ h.toList = [] := by
      have h2 : ¬ h.toList = (⟨#[]⟩ : ByteArray).toList := by simpa using hne
      rw [ByteArray.toList_eq ⟨#[]⟩] at h2
      exact h2
    have hn1 : (h.toList == []) = false := by simpa using hne'
    have hn2 : h.toList.isEmpty = false := by
      cases e : h.toList with
      | nil => exact absurd e hne'
      | cons _ _ => rfl
    clear hx ho hne
    go_enter Tryz.func114, Tryz.ntmps114
    go_upto_region 1 with fail
    obtain ⟨W0, hW0⟩ : ∃ x, (w.alloc (.cells #[.int .i64 a, .int .i64 3, .int .i64 v, .int .i64 r, .string h, .slice ao n cp] 25)).alloc (.cells #[.string ⟨#[]⟩, .int .i64 0, .int .i64 0] 83) = x := ⟨_, rfl⟩
    rw [hW0] at HX ⊢
    clear hW0
    obtain ⟨p0, p1, p2, p3, p4, p5, _⟩ := HX.out.1
    go_wp2_with fail
    refine (HN.out _).mono ?_
    rintro x w1 ⟨rfl, h1⟩
    obtain rfl := h1.symm
    go_wp2_with fail
    refine (HD.out _).mono ?_
    rintro x w2 ⟨rfl, ho⟩
    have HE2 := hide (HX.out.2.1.more ho)
    have HO2 := hide (o2 HX.out.2.2 ho)
    clear ho p0 p1 p2 p3 p4 p5 HX
    go_upto_region 6 with fail
    have HE3 := hide (HE2.out.more (onlyA w2 (.cells #[.string hi.key, .int .i64 hi.page, .int .i64 hi.slot] 83)))
    have HO3 := hide (o2 HO2.out (onlyA w2 (.cells #[.string hi.key, .int .i64 hi.page, .int .i64 hi.slot] 83)))
    have HV3 := hide (Ev.new w2 hi)
    clear HE2 HO2
    obtain ⟨W3, hW3⟩ : ∃ x, w2.alloc (.cells #[.string hi.key, .int .i64 hi.page, .int .i64 hi.slot] 83) = x := ⟨_, rfl⟩
    rw [hW3] at HE3 HO3 HV3 ⊢
    clear hW3
    obtain ⟨q0, q1, q2, g0, g1, g2, ql⟩ := HE3.out
    obtain ⟨d0, d1, d2, _⟩ := HV3.out
    go_wp2_with fail
    refine bodyPost_ret (results_ev rfl rfl (HE3.out.all hi)) rfl ?_
    exact ⟨rfl, HO3.out.trans (Only.three _ _ _ _ _) (fun i hi e => by omega)⟩
theorem readHead_bad (w : World) (a k v r : Int) (h : ByteArray) (ao : Option Addr) (n cp : Nat) (hk : ¬ k = 3) :
    Calls Tryz.prog 114 #[pgv a k v r h ao n cp] w fun e w' => e = .returned (.tuple #[noE.agg, .bool false]) ∧ Only (fun _ => False) w w' := by
  have HX := hide (hd_new w (.int .i64 a) (.int .i64 k) (.int .i64 v) (.int .i64 r) (.string h) (.slice ao n cp))
  have t1 : (k != 3) = true := by simpa using hk
  clear hk
  unfold pgv
  go_enter Tryz.func114, Tryz.ntmps114
  go_upto_region 1 with fail
  obtain ⟨W0, hW0⟩ : ∃ x, (w.alloc (.cells #[.int .i64 a, .int .i64 k, .int .i64 v, .int .i64 r, .string h, .slice ao n cp] 25)).alloc (.cells #[.string ⟨#[]⟩, .int .i64 0, .int .i64 0] 83) = x := ⟨_, rfl⟩
  rw [hW0] at HX ⊢
  clear hW0
  obtain ⟨p0, p1, p2, p3, p4, p5, _⟩ := HX.out.1
  obtain ⟨q0, q1, q2, g0, g1, g2, ql⟩ := HX.out.2.1
  go_wp2_with fail
  refine bodyPost_ret (results_ev rfl rfl (HX.out.2.1.all noE)) rfl ?_
  exact ⟨rfl, HX.out.2.2.trans (Only.three _ _ _ _ _) (fun i hi e => by omega)⟩
end Go.Proofs.YtphofhicehncgaaGreat

namespace Go.Proofs.YtphofhicehncgaaGreat
open Go.RowKit

/-- Entries as cells. -/
def ecs (es : List En) : List Value := es.flatMap fun e => [.string e.key, .int .i64 e.page, .int .i64 e.slot]
theorem ecs_len (es : List En) : (ecs es).length = es.length * 3 := by
  induction es with
  | nil => rfl
  | cons e es ih => simp only [ecs, List.flatMap_cons, List.length_append, List.length_cons, List.length_nil] at ih ⊢; omega
theorem ecs_app (es fs : List En) : ecs (es ++ fs) = ecs es ++ ecs fs := by simp [ecs]
theorem ecs_get (es : List En) (j : Nat) (h : j < es.length) : (ecs es)[j * 3]? = some (.string es[j].key) ∧ (ecs es)[j * 3 + 1]? = some (.int .i64 es[j].page) ∧ (ecs es)[j * 3 + 2]? = some (.int .i64 es[j].slot) := by
  induction es generalizing j with
  | nil => simp at h
  | cons e es ih =>
    have hc : ecs (e :: es) = [.string e.key, .int .i64 e.page, .int .i64 e.slot] ++ ecs es := rfl
    rw [hc]
    cases j with
    | zero => exact ⟨rfl, rfl, rfl⟩
    | succ j =>
      obtain ⟨a, b, c⟩ := ih j (by simpa using h)
      refine ⟨?_, ?_, ?_⟩
      · rw [List.getElem?_append_right (by simp; omega)]
        simpa [show (j + 1) * 3 - 3 = j * 3 by omega] using a
      · rw [List.getElem?_append_right (by simp; omega)]
        simpa [show (j + 1) * 3 + 1 - 3 = j * 3 + 1 by omega] using b
      · rw [List.getElem?_append_right (by simp; omega)]
        simpa [show (j + 1) * 3 + 2 - 3 = j * 3 + 2 by omega] using c
theorem ecs_one (es : List En) : ∀ u ∈ ecs es, u.oneCell' = true := by
  intro u hu
  simp only [ecs, List.mem_flatMap] at hu
  obtain ⟨e, _, hu⟩ := hu
  simp only [List.mem_cons, List.not_mem_nil, or_false] at hu
  rcases hu with rfl | rfl | rfl <;> rfl
/-- Entries that can be read: in block B from the slice's place on. -/
structure Els (w : World) (B : Nat) (ao : Option Addr) (es : List En) : Prop where
  at_ : 0 < es.length → ∃ o, ao = some ⟨B, o, none⟩ ∧ ∀ j (h : j < es.length), Eb w B (o + j * 3) es[j]
theorem Els.nil (w : World) (B : Nat) (ao : Option Addr) : Els w B ao [] := ⟨fun h => absurd h (by simp)⟩
theorem Els.kept {S : Nat → Prop} {w w' : World} {B : Nat} {ao : Option Addr} {es : List En} (h : Els w B ao es) (ho : Only S w w') (hS : 0 < es.length → ¬ S B) : Els w' B ao es :=
  ⟨fun h0 => by
    obtain ⟨o, e, hc⟩ := h.at_ h0
    exact ⟨o, e, fun j hj => (hc j hj).kept ho (hS h0)⟩⟩
theorem Els.more {w w' : World} {B : Nat} {ao : Option Addr} {es : List En} (h : Els w B ao es) (ho : Only (fun _ => False) w w') : Els w' B ao es := h.kept ho (fun _ h => h)
/-- Entries that the value v owns, in a block from base on. -/
def Ets (w : World) (base : Nat) (v : Value) (es : List En) : Prop := w.ownsRow base 83 3 v es.length (ecs es)
theorem Ets.nil (w : World) (base : Nat) : Ets w base (.slice none 0 0) [] := World.ownsRow_nil _ _ _ _
theorem Ets.kept {S : Nat → Prop} {w w' : World} {base : Nat} {v : Value} {es : List En} (h : Ets w base v es) (ho : Only S w w') (hS : ∀ k, v.ownBlock = some k → ¬ S k) : Ets w' base v es := by
  obtain ⟨h1, h2⟩ := h
  refine ⟨h1, ?_⟩
  rcases h2 with h2 | ⟨g, cap, cur, hv, hg, hh, r⟩
  · exact .inl h2
  · subst hv
    exact .inr ⟨g, cap, cur, rfl, hg, by rw [ho.block g (Array.getElem?_eq_some_iff.1 hh).1 (hS g rfl)]; exact hh, r⟩
theorem Ets.more {w w' : World} {base : Nat} {v : Value} {es : List En} (h : Ets w base v es) (ho : Only (fun _ => False) w w') : Ets w' base v es := h.kept ho (fun _ _ h => h)
theorem Ets.form {w : World} {base : Nat} {v : Value} {es : List En} (h : Ets w base v es) : ∃ ao cp, v = .slice ao es.length cp := by
  rcases h.2 with ⟨rfl, h0⟩ | ⟨g, cap, cur, rfl, _⟩
  · exact ⟨none, 0, by rw [h0]⟩
  · exact ⟨_, _, rfl⟩
theorem Ets.els {w : World} {base : Nat} {v : Value} {es : List En} (h : Ets w base v es) : ∃ B ao cp, v = .slice ao es.length cp ∧ Els w B ao es ∧ (0 < es.length → base ≤ B) ∧ (∀ k, v.ownBlock = some k → base ≤ k ∧ k < w.heap.size) := by
  have h' := h
  have hlt : ∀ k, v.ownBlock = some k → base ≤ k ∧ k < w.heap.size := fun k hk => World.ownsRow.lt h' k hk
  rcases h.2 with ⟨rfl, h0⟩ | ⟨g, cap, cur, rfl, hb, hh, _⟩
  · exact ⟨0, none, 0, by rw [h0], ⟨fun hp => by omega⟩, fun hp => by omega, hlt⟩
  · refine ⟨g, _, cap, rfl, ⟨fun _ => ⟨0, rfl, fun j hj => ?_⟩⟩, fun _ => hb, hlt⟩
    obtain ⟨a, b, c⟩ := ecs_get es j hj
    have hl := ecs_len es
    refine ⟨?_, ?_, ?_, (Array.getElem?_eq_some_iff.1 hh).1⟩
    · rw [Nat.zero_add, World.ownsRow.cellAt h' _ (by omega)]; exact a
    · rw [Nat.zero_add, World.ownsRow.cellAt h' _ (by omega)]; exact b
    · rw [Nat.zero_add, World.ownsRow.cellAt h' _ (by omega)]; exact c
theorem Tryz.infoEn : (Tryz.prog.info? 83).map (fun i => (i.zero, i.size, i.bytes)) = some (some (.agg #[.string ⟨#[]⟩, .int .i64 0, .int .i64 0]), 3, 32) := by kernel_rfl
/-- Entries appended to an owned list: those of another slice. -/
theorem ets_append (w : World) (base : Nat) (v : Value) (es : List En) (h : Ets w base v es) (B o m c : Nat) (fs : List En) (hm : fs.length = m) (hf : ∀ j (hj : j < fs.length), Eb w B (o + j * 3) fs[j]) (hl : es.length + m ≤ 4194304) (hbase : base ≤ w.heap.size) :
    ∃ ao cp w', (Builtin.append_ #[116, 116] 116 #[v, .slice (some ⟨B, o, none⟩) m c]).run Tryz.prog w = .ok (.slice ao (es.length + m) cp) w' ∧ Ets w' base (.slice ao (es.length + m) cp) (es ++ fs) ∧ Only (fun j => v.ownBlock = some j) w w' ∧ ((Value.slice ao (es.length + m) cp).ownBlock = v.ownBlock ∨ (Value.slice ao (es.length + m) cp).ownBlock = some w.heap.size) := by
  obtain ⟨i0, hi, hz0, hz1, hz2⟩ := info_parts Tryz.infoEn
  obtain ⟨v', w', hr, h2, h3, _, h4⟩ := run_append_own_at (P := Tryz.prog) w base 116 116 83 i0 (.agg #[.string ⟨#[]⟩, .int .i64 0, .int .i64 0]) 3 32 Tryz.underlying116 hi hz0 hz1 hz2 rfl (by decide) v es.length (ecs es) h ⟨B, o, none⟩ m c (ecs fs) (by rw [ecs_len, hm])
    (fun j u hu => by
      have hj : j < fs.length * 3 := by
        have := (List.getElem?_eq_some_iff.1 hu).1
        rwa [ecs_len] at this
      obtain ⟨q, r, rfl, hr⟩ : ∃ q r, j = q * 3 + r ∧ r < 3 := ⟨j / 3, j % 3, by omega, by omega⟩
      have hq : q < fs.length := by omega
      obtain ⟨a1, a2, a3⟩ := ecs_get fs q hq
      have hE := hf q hq
      rw [add_at, ← Nat.add_assoc]
      match r, hr with
      | 0, _ =>
        rw [Nat.add_zero] at hu ⊢
        rw [a1] at hu
        cases hu
        exact hE.c0
      | 1, _ =>
        rw [a2] at hu
        cases hu
        exact hE.c1
      | 2, _ =>
        rw [a3] at hu
        cases hu
        exact hE.c2) (ecs_one fs) (by unfold maxLen; omega) (by omega) hbase
  have e : Ets w' base v' (es ++ fs) := by
    unfold Ets
    rw [ecs_app, List.length_append, hm]
    exact h2
  obtain ⟨ao, cp, rfl⟩ := e.form
  rw [List.length_append, hm] at hr e h4
  exact ⟨ao, cp, w', hr, e, Only.grown h3 (fun j hj => hj), h4⟩
/-- A list of entries made empty. -/
theorem ets_made (n : Nat) (hn : n ≤ 1048576) : ∃ O : Obj, (∀ W : World, (Instr.makeSlice 116 (.int .i64 0) (.int .i64 (n : Int))).run Tryz.prog W = .ok (.slice (some ⟨W.heap.size, 0, none⟩) 0 n) (W.alloc O)) ∧
    (∀ (W : World) (base : Nat), base ≤ W.heap.size → Ets (W.alloc O) base (.slice (some ⟨W.heap.size, 0, none⟩) 0 n) []) := by
  obtain ⟨i0, hi, hz0, hz1, hz2⟩ := info_parts Tryz.infoEn
  refine ⟨.cells (madeCells (Value.agg #[.string ⟨#[]⟩, .int .i64 0, .int .i64 0]).cells ((n : Int).toNat * i0.size)) 83, fun W => ?_, fun W base hb => ?_⟩
  · have h := run_make (P := Tryz.prog) W 116 83 i0 (.agg #[.string ⟨#[]⟩, .int .i64 0, .int .i64 0]) Tryz.underlying116 hi hz0 .i64 .i64 0 (n : Int) (by omega) (by omega) (by rw [hz2]; omega) (by omega)
    simpa using h
  · obtain ⟨w', hmk, hown, hgr⟩ := run_make_own (P := Tryz.prog) W base 116 83 i0 (.agg #[.string ⟨#[]⟩, .int .i64 0, .int .i64 0]) 3 Tryz.underlying116 hi hz0 hz1 .i64 .i64 n (by rw [hz2]; omega) (by unfold maxLen; omega) hb
    have h := run_make (P := Tryz.prog) W 116 83 i0 (.agg #[.string ⟨#[]⟩, .int .i64 0, .int .i64 0]) Tryz.underlying116 hi hz0 .i64 .i64 0 (n : Int) (by omega) (by omega) (by rw [hz2]; omega) (by omega)
    rw [hmk] at h
    simp at h
    subst h
    exact hown
/-- Numbers that the value v owns. -/
def ncs (ks : List Int) : List Value := ks.map fun k => Value.int .i64 k
theorem ncs_len (ks : List Int) : (ncs ks).length = ks.length := by simp [ncs]
def Kts (w : World) (base : Nat) (v : Value) (ks : List Int) : Prop := w.ownsRow base 3 1 v ks.length (ncs ks)
theorem Kts.nil (w : World) (base : Nat) : Kts w base (.slice none 0 0) [] := World.ownsRow_nil _ _ _ _
theorem Kts.kept {S : Nat → Prop} {w w' : World} {base : Nat} {v : Value} {es : List Int} (h : Kts w base v es) (ho : Only S w w') (hS : ∀ k, v.ownBlock = some k → ¬ S k) : Kts w' base v es := by
  obtain ⟨h1, h2⟩ := h
  refine ⟨h1, ?_⟩
  rcases h2 with h2 | ⟨g, cap, cur, hv, hg, hh, r⟩
  · exact .inl h2
  · subst hv
    exact .inr ⟨g, cap, cur, rfl, hg, by rw [ho.block g (Array.getElem?_eq_some_iff.1 hh).1 (hS g rfl)]; exact hh, r⟩
theorem Kts.more {w w' : World} {base : Nat} {v : Value} {es : List Int} (h : Kts w base v es) (ho : Only (fun _ => False) w w') : Kts w' base v es := h.kept ho (fun _ _ h => h)
theorem Kts.form {w : World} {base : Nat} {v : Value} {es : List Int} (h : Kts w base v es) : ∃ ao cp, v = .slice ao es.length cp := by
  rcases h.2 with ⟨rfl, h0⟩ | ⟨g, cap, cur, rfl, _⟩
  · exact ⟨none, 0, by rw [h0]⟩
  · exact ⟨_, _, rfl⟩
/-- Number j, where there is one. -/
theorem Kts.at_ {w : World} {base : Nat} {v : Value} {ks : List Int} (h : Kts w base v ks) (j : Nat) (hj : j < ks.length) : ∃ g cp, v = .slice (some ⟨g, 0, none⟩) ks.length cp ∧ base ≤ g ∧ g < w.heap.size ∧ w.cell? ⟨g, j, none⟩ = some (.int .i64 ks[j]) := by
  have h' := h
  rcases h.2 with ⟨rfl, h0⟩ | ⟨g, cap, cur, rfl, hb, hh, _⟩
  · omega
  · refine ⟨g, cap, rfl, hb, (Array.getElem?_eq_some_iff.1 hh).1, ?_⟩
    rw [World.ownsRow.cellAt h' _ (by omega)]
    simp [ncs, hj]
theorem Tryz.infoIn : (Tryz.prog.info? 3).map (fun i => (i.zero, i.size, i.bytes)) = some (some (.int .i64 0), 1, 8) := by kernel_rfl
theorem kts_append (w : World) (base : Nat) (v : Value) (es : List Int) (h : Kts w base v es) (B : Nat) (k : Int) (hf : w.cell? ⟨B, 0, none⟩ = some (.int .i64 k)) (hl : es.length ≤ 4194304) (hbase : base ≤ w.heap.size) :
    ∃ ao cp w', (Builtin.append_ #[29, 29] 29 #[v, .slice (some ⟨B, 0, none⟩) 1 1]).run Tryz.prog w = .ok (.slice ao (es.length + 1) cp) w' ∧ Kts w' base (.slice ao (es.length + 1) cp) (es ++ [k]) ∧ Only (fun j => v.ownBlock = some j) w w' ∧ ((Value.slice ao (es.length + 1) cp).ownBlock = v.ownBlock ∨ (Value.slice ao (es.length + 1) cp).ownBlock = some w.heap.size) := by
  obtain ⟨i0, hi, hz0, hz1, hz2⟩ := info_parts Tryz.infoIn
  obtain ⟨v', w', hr, h2, h3, _, h4⟩ := run_append_own_at (P := Tryz.prog) w base 29 29 3 i0 (.int .i64 0) 1 8 Tryz.underlying29 hi hz0 hz1 hz2 rfl (by decide) v es.length (ncs es) h ⟨B, 0, none⟩ 1 1 (ncs [k]) rfl
    (fun j u hu => by
      match j, hu with
      | 0, hu => simp [ncs] at hu; subst hu; simpa [Addr.add] using hf) (by intro u hu; simp [ncs] at hu; subst hu; rfl) (by unfold maxLen; omega) (by omega) hbase
  have e : Kts w' base v' (es ++ [k]) := by
    unfold Kts
    rw [show ncs (es ++ [k]) = ncs es ++ ncs [k] by simp [ncs], List.length_append]
    exact h2
  obtain ⟨ao, cp, rfl⟩ := e.form
  rw [List.length_append] at hr e h4
  exact ⟨ao, cp, w', hr, e, Only.grown h3 (fun j hj => hj), h4⟩
theorem kts_made (n : Nat) (hn : n ≤ 1048576) : ∃ O : Obj, (∀ W : World, (Instr.makeSlice 29 (.int .i64 0) (.int .i64 (n : Int))).run Tryz.prog W = .ok (.slice (some ⟨W.heap.size, 0, none⟩) 0 n) (W.alloc O)) ∧
    (∀ (W : World) (base : Nat), base ≤ W.heap.size → Kts (W.alloc O) base (.slice (some ⟨W.heap.size, 0, none⟩) 0 n) []) := by
  obtain ⟨i0, hi, hz0, hz1, hz2⟩ := info_parts Tryz.infoIn
  refine ⟨.cells (madeCells (Value.int .i64 0).cells ((n : Int).toNat * i0.size)) 3, fun W => ?_, fun W base hb => ?_⟩
  · have h := run_make (P := Tryz.prog) W 29 3 i0 (.int .i64 0) Tryz.underlying29 hi hz0 .i64 .i64 0 (n : Int) (by omega) (by omega) (by rw [hz2]; omega) (by omega)
    simpa using h
  · obtain ⟨w', hmk, hown, hgr⟩ := run_make_own (P := Tryz.prog) W base 29 3 i0 (.int .i64 0) 1 Tryz.underlying29 hi hz0 hz1 .i64 .i64 n (by rw [hz2]; omega) (by unfold maxLen; omega) hb
    have h := run_make (P := Tryz.prog) W 29 3 i0 (.int .i64 0) Tryz.underlying29 hi hz0 .i64 .i64 0 (n : Int) (by omega) (by omega) (by rw [hz2]; omega) (by omega)
    rw [hmk] at h
    simp at h
    subst h
    exact hown
end Go.Proofs.YtphofhicehncgaaGreat

namespace Go.Proofs.YtphofhicehncgaaGreat
open Go.RowKit

theorem load_eb {w : World} {b o : Nat} {e : En} (h : Eb w b o e) : (loadVar 83 ⟨b, o, none⟩).run Tryz.prog w = .ok e.agg w := by
  have c0 := h.c0
  have c1 := h.c1
  have c2 := h.c2
  simp [loadVar, go_sem, c0, c1, c2, En.agg]
theorem Ev.eb {w : World} {b : Nat} {e : En} (h : Ev w b e) : Eb w b 0 e := ⟨h.c0, h.c1, h.c2, h.lt⟩
theorem yieldsIf_load_eb {ops : Array Oper} {S : World → Prop} {op : Oper} {a : Act} {e : En} (hw : Region.wanted op (yielded ops a.tmps) = true) (x : Operand) (ho : op.op = .load 83 x)
    {b o : Nat} (hx : a.eval x = .pointer (some ⟨b, o, none⟩)) (hS : ∀ w, S w → Eb w b o e) : YieldsIf Tryz.prog ops S op (.agg #[.string e.key, .int .i64 e.page, .int .i64 e.slot]) a :=
  .inl ⟨hw, fun w hw' => by
    unfold execOp
    simp only [ho, hx, Instr.loadAt, Instr.sureAddr, Sem.run_bind, Sem.run_pure, Result.andThen_ok, load_eb (hS w hw'), En.agg]⟩
theorem yieldsIf_load_ev {ops : Array Oper} {S : World → Prop} {op : Oper} {a : Act} {e : En} (hw : Region.wanted op (yielded ops a.tmps) = true) (x : Operand) (ho : op.op = .load 83 x)
    {b : Nat} (hx : a.eval x = .pointer (some ⟨b, 0, none⟩)) (hS : ∀ w, S w → Ev w b e) : YieldsIf Tryz.prog ops S op (.agg #[.string e.key, .int .i64 e.page, .int .i64 e.slot]) a :=
  yieldsIf_load_eb hw x ho hx (fun w h => (hS w h).eb)
theorem yieldsIf_load_cv {ops : Array Oper} {S : World → Prop} {op : Oper} {a : Act} {a1 a2 : Option Addr} {n1 n2 c1 c2 : Nat} {e : En} (hw : Region.wanted op (yielded ops a.tmps) = true) (x : Operand) (ho : op.op = .load 118 x)
    {b : Nat} (hx : a.eval x = .pointer (some ⟨b, 0, none⟩)) (hS : ∀ w, S w → Cv w b (.slice a1 n1 c1) (.slice a2 n2 c2) e) : YieldsIf Tryz.prog ops S op (.agg #[.slice a1 n1 c1, .slice a2 n2 c2, .string e.key, .int .i64 e.page, .int .i64 e.slot]) a :=
  .inl ⟨hw, fun w hw' => by
    unfold execOp
    simp only [ho, hx, Instr.loadAt, Instr.sureAddr, Sem.run_bind, Sem.run_pure, Result.andThen_ok, load_cv (hS w hw'), cvv]⟩
theorem yieldsIf_load_page {ops : Array Oper} {S : World → Prop} {op : Oper} {a : Act} {v0 v1 v2 v3 v4 v5 : Value} (hw : Region.wanted op (yielded ops a.tmps) = true) (x : Operand) (ho : op.op = .load 25 x)
    (b : Nat) (hx : a.eval x = .pointer (some ⟨b, 0, none⟩)) (hS : ∀ w, S w → Pag w b v0 v1 v2 v3 v4 v5) : YieldsIf Tryz.prog ops S op (.agg #[v0, v1, v2, v3, v4, v5]) a :=
  .inl ⟨hw, fun w hw' => by
    unfold execOp
    simp only [ho, hx, Instr.loadAt, Instr.sureAddr, Sem.run_bind, Sem.run_pure, Result.andThen_ok, load_page (hS w hw')]⟩
theorem ld_entries {w : World} {p : Addr} {v : Value} (h : w.cell? p = some v) : (loadVar 116 p).run Tryz.prog w = .ok v w := by simp [loadVar, go_sem, h]
theorem ld_ints {w : World} {p : Addr} {v : Value} (h : w.cell? p = some v) : (loadVar 29 p).run Tryz.prog w = .ok v w := by simp [loadVar, go_sem, h]
end Go.Proofs.YtphofhicehncgaaGreat
