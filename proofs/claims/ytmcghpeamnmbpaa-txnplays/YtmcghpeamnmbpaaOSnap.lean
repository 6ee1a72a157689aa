/- What sessions, Snaps and Running do. -/
import Derived.Test.YtmcghpeamnmbpaaOBgn
namespace Go.Proofs.Ytmcghpeamnmbpaa
open Go.RowKit Go.Maps Go.Sort Go.Shelf

theorem sorts_in (m : Nat) : AnyZI.SortsIn Try.prog Try.sortedI_ren Fence.wide m :=
  ⟨fun blk off cap ss W hH hblk hsz => callsIn_wide.2 (AnyM.slices_Sort_int Try.sortI blk off cap ss W hH hblk hsz),
   fun p cap W => callsIn_wide.2 (AnyM.slices_Sort_int_none Try.sortI p cap W)⟩
theorem okeys {w : World} {m n : Nat} {D : DataW Value} {g : Gm} (hown : w.ownsMap Try.prog 3 ptrElem m n D) (hD : OpD D g) :
    (intKeys D).Nodup ∧ (∀ x, x ∈ intKeys D ↔ ∃ k, g x = some k) ∧ (intKeys D).length = Maps.size D := by
  obtain ⟨es, rfl, hp, _⟩ := hown.entries keyedI
  have hk : ∀ p ∈ es, ∃ x : Int, p.1 = .int .i64 x := fun p hp' => by
    obtain ⟨_, _, hk⟩ := hown.entries keyedI
    refine hD.key p.1 ?_
    rw [has_eq, List.any_eq_true]
    refine ⟨p, hp', WideAt.sameKey_self ?_⟩
    obtain ⟨es', e1, _, hk'⟩ := hown.entries keyedI
    cases e1
    exact hk' p hp'
  refine ⟨?_, fun x => ?_, ?_⟩
  · show (es.map fun p => Go.intOf p.1).Nodup
    refine List.pairwise_map.2 (hp.imp_of_mem fun {p q} hp' hq' hne e => hne ?_)
    obtain ⟨a, ha⟩ := hk p hp'
    obtain ⟨b, hb⟩ := hk q hq'
    rw [ha, hb] at e ⊢
    exact congrArg _ e
  · have hx : (∃ k, g x = some k) ↔ has (.map es) (.int .i64 x) = true := by
      rw [hD.has x, Option.isSome_iff_exists]
    rw [hx, has_eq, List.any_eq_true]
    show x ∈ es.map (fun p => Go.intOf p.1) ↔ _
    rw [List.mem_map]
    constructor
    · rintro ⟨p, hp', rfl⟩
      obtain ⟨a, ha⟩ := hk p hp'
      exact ⟨p, hp', by rw [ha]; simp [Lit.sameKey, Go.intOf]⟩
    · rintro ⟨p, hp', hs⟩
      obtain ⟨a, ha⟩ := hk p hp'
      rw [ha] at hs
      exact ⟨p, hp', by rw [ha]; simpa [Lit.sameKey, Go.intOf] using hs⟩
  · show (es.map fun p => Go.intOf p.1).length = es.length
    simp
theorem ints_sorted {L : List Int} (hn : L.Nodup) : (L.mergeSort fun x y => decide (x ≤ y)).length = L.length ∧ (∀ k, k ∈ (L.mergeSort fun x y => decide (x ≤ y)) ↔ k ∈ L) ∧ (L.mergeSort fun x y => decide (x ≤ y)).Pairwise (· < ·) := by
  have hp := List.mergeSort_perm L (fun x y => decide (x ≤ y))
  have tr : ∀ a b c : Int, decide (a ≤ b) = true → decide (b ≤ c) = true → decide (a ≤ c) = true := fun a b c h1 h2 => by simp at *; omega
  have tot : ∀ a b : Int, (decide (a ≤ b) || decide (b ≤ a)) = true := fun a b => by simp; omega
  refine ⟨hp.length_eq, fun k => hp.mem_iff, ?_⟩
  refine ((List.pairwise_mergeSort tr tot L).and (hp.nodup_iff.2 hn)).imp ?_
  rintro a b ⟨h1, h2⟩
  simp at h1
  omega
set_option maxRecDepth 100000 in
set_option maxHeartbeats 1000000 in
theorem sess_raw (w : World) (m n : Nat) (D : DataW Value) (hown : w.ownsMap Try.prog 3 ptrElem m n D) (hn : n ≤ 5864062014700) : Calls Try.prog 43 #[.map (some m)] w fun e w' =>
    ∃ (v : Value) (ss : List Int), e = .returned v ∧ ss.Perm (intKeys D) ∧ w'.ownsRow w.heap.size 3 1 v ss.length ((ss.mergeSort (fun x y => decide (x ≤ y))).map encZ) ∧ Below w.heap.size w w' := by
  refine (callsIn_wide (n := 6)).1 ?_
  have hbl := hown.lt
  have hsz := hown.size_le
  have hseq : SeqGives Fence.wide 2 Try.prog 54 #[.pointer (some ⟨w.heap.size, 0, none⟩)] encZ (fun ss => ss.Perm (intKeys D)) (Maps.size D) (w.alloc (.cells #[.map (some m)] 61)) :=
    AnyZI.keys_gives (ρ := Try.keysO_ren) { Try.keysO with } Fence.wide _ trivial rfl (by omega) w.heap.size m n D _ (by simp) (by simp) (by
      obtain ⟨es, clock, hb, Ft, hs, hD⟩ := hown
      exact ⟨es, clock, (Below.heap_alloc _ _ m hbl).trans hb, Ft, hs, hD⟩)
  have cK : ∀ mb W, CallsIn Fence.wide 5 Try.prog 48 #[.map mb] W fun e w' => e = .returned (.func (.func 54) #[] #[.pointer (some ⟨W.heap.size, 0, none⟩)]) ∧ w' = W.alloc (.cells #[.map mb] 61) := fun mb W => AnyZI.keys_in Try.keysO Fence.wide 5 trivial rfl mb W
  have cS := AnyZI.sorted_in Try.sortedI Fence.wide 5 trivial trivial trivial trivial rfl (by omega) (sorts_in _) (enters_of Try.func53 (by kernel_rfl) rfl) 54 #[.pointer (some ⟨w.heap.size, 0, none⟩)] trivial (enters_of Try.func54 (by kernel_rfl) rfl) _ _ (by unfold maxLen; omega) (by omega) _ hseq
  change CallsIn _ _ Try.prog 47 _ _ _ at cS
  have hfK : Fence.wide.fn 48 := trivial
  have hfS : Fence.wide.fn 47 := trivial
  refine callsIn_of_wp Try.func43 rfl trivial ?_ rfl
  simp only [Try.ntmps43, List.size_toArray, List.length_cons, List.length_nil, Nat.reduceAdd, Nat.reduceSub, Array.replicate_succ, Array.replicate_zero, List.push_toArray, List.append_toArray, List.nil_append, List.cons_append]
  gi_wp2_with (first
    | (gi_at_call 48; refine (cK _ _).mono ?_; rintro e w' ⟨rfl, rfl⟩)
    | (gi_at_call 47; refine cS.mono ?_; rintro e w' ⟨v, ss, rfl, hS, hrow, hnil, hb⟩))
  go_ret
  exact ⟨v, ss, rfl, hS, ownsRow_base_a hrow (by simp), ((Below.refl _ w).alloc (Nat.le_refl _) _).trans (hb.mono (by simp))⟩
theorem sess_any (w : World) (Z : Nat → Prop) (t m n : Nat) (g : Gm) (f : Tt) (H : Tabg w Z t m n g f) (hn : n ≤ 5864062014700) : Calls Try.prog 43 #[.map (some m)] w fun e w' =>
    ∃ ao cp L, e = .returned (.slice ao L.length cp) ∧ WhIs f L ∧ IRow w' w.heap.size (.slice ao L.length cp) L ∧ L.length ≤ n ∧ Only (fun _ => False) w w' := by
  obtain ⟨D, hown, hD⟩ := H.own
  obtain ⟨k1, k2, k3⟩ := okeys hown hD
  have hsz := hown.size_le
  refine (sess_raw w m n D hown hn).mono ?_
  rintro e w' ⟨v, ss, rfl, hS, hrow, ⟨b1, b2, b3, b4, b5⟩⟩
  obtain ⟨hM1, hM2, hM3⟩ := ints_sorted (hS.nodup_iff.2 k1)
  have hI : IRow w' w.heap.size v (ss.mergeSort fun x y => decide (x ≤ y)) := by
    unfold IRow GRow
    rw [fm_iv, hM1]
    exact hrow
  obtain ⟨ao, cp, rfl⟩ := hI.form
  refine ⟨ao, cp, _, rfl, ⟨hM3, fun a => ?_⟩, hI, ?_, ⟨b1, b2, b3, b4, fun k hk _ => b5 k hk⟩⟩
  · rw [hM2, hS.mem_iff, k2]
    have := H.dom a
    constructor
    · rintro ⟨b, hb⟩
      rw [hb] at this
      exact Option.isSome_iff_exists.1 this.symm
    · rintro ⟨b, hb⟩
      rw [hb] at this
      exact Option.isSome_iff_exists.1 this
  · rw [hM1, hS.length_eq, k3]
    exact hsz
/-- A list of snapshots was returned. -/
structure RS (e : Ending) (w w' : World) (n : Nat) (f : Tt) : Prop where
  ex : ∃ ao cp S, e = .returned (.slice ao S.length cp) ∧ SRow w' w.heap.size (.slice ao S.length cp) S ∧ SnIs f (S.map Sp.p) ∧ S.length ≤ n ∧ ∀ s ∈ S, Nm w' (fun k => w.heap.size ≤ k) s.ao s.act
theorem snaps_nil (w : World) : Calls Try.prog 22 #[.pointer none] w fun e w' => e = .returned (.slice none 0 0) ∧ w' = w := by
  go_enter Try.func22, Try.ntmps22
  go_wp2_with fail
  go_ret
  exact ⟨rfl, rfl⟩
set_option maxRecDepth 100000 in
set_option maxHeartbeats 3200000 in
theorem snaps_any (w : World) (Z : Nat → Prop) (t m n : Nat) (f : Tt) (H : Tab w Z t m n f) (hn : n ≤ 4398046511103) : Calls Try.prog 22 #[.pointer (some ⟨t, 0, none⟩)] w fun e w' => RS e w w' n f ∧ Only (fun _ => False) w w' := by
  obtain ⟨g, H⟩ := H
  have HC := hide (sess_any w Z t m n g f H (by omega))
  have c0 := H.c0
  have HH := hide H
  clear H
  go_enter Try.func22, Try.ntmps22
  go_wp2_with fail
  refine HC.out.mono ?_
  rintro e w1 ⟨aL, cL, L, rfl, hW, hL, hln, hO1⟩
  have HW := hide hW
  have HL := hide hL
  have HO1 := hide hO1
  clear hW hL hO1 HC c0
  go_wp2_with fail
  go_loopw [3, 14] (fun v y wr => ∃ (j : Nat) (S : List Sp), j ≤ L.length ∧ S.length = j ∧ y = .int .i64 (j : Int) ∧ Hid (SRow wr w1.heap.size v S) ∧ Hid (S.map Sp.p = (L.take j).map (snapT f)) ∧ Hid (∀ s ∈ S, Nm wr (fun k => w.heap.size ≤ k ∧ v.ownBlock ≠ some k) s.ao s.act) ∧ Hid (Only (fun _ => False) w1 wr)) (fun _ y _ => L.length - (intOf y).toNat)
  case atStart => exact ⟨0, [], by omega, rfl, rfl, GRow.nil _ _, rfl, (fun s hs => by cases hs), Only.refl _ _⟩
  case round =>
    obtain ⟨j, S, hj, hSj, rfl, HV, HE, HN, HO⟩ := hrel
    have HHr := hide ((HH.out.more HO1.out).more HO.out)
    have HLr := hide (HL.out.more HO.out)
    by_cases hlt : j < L.length
    · obtain ⟨gL, rfl, _, _, _, k1⟩ := HLr.out.at_ hlt
      replace k1 := k1 0 (iv L[j]) (by decide) rfl
      have k1 : wr.cell? ⟨gL, j, none⟩ = some (.int .i64 L[j]) := by
        have e : j * EI.c + 0 = j := by show j * 1 + 0 = j; omega
        rw [e] at k1
        exact k1
      have htk : L.take (j + 1) = L.take j ++ [L[j]] := List.take_succ_eq_append_getElem hlt
      obtain ⟨x, hf⟩ := (HW.out.mem L[j]).1 (List.getElem_mem hlt)
      obtain ⟨a, ha⟩ : ∃ a, L[j] = a := ⟨_, rfl⟩
      rw [ha] at k1 htk hf
      obtain ⟨b, s, hg, hx, hnm, _⟩ := HHr.out.yes hf
      have hl := (HHr.out.own.look (HHr.out.ok.who a x hf)).2
      unfold Gm.v pv at hl
      rw [hg] at hl
      simp only at hl
      have c0 := HHr.out.c0
      have d0 := hx.c0
      have d1 := hx.c1
      have HA := hide (apart_any wr _ x.nx s.ao s.cp x.act hnm)
      have HTK := hide htk
      have HF := hide hf
      have hwl := HO.out.size
      have hw1 := HO1.out.size
      clear htk hf hg hx hnm ha
      go_wp2_with fail
      refine HA.out.mono ?_
      rintro e w2 ⟨a2, c2, rfl, hN, hn0, hO2⟩
      obtain ⟨v', X3, hr, hrow, ho3, hloc⟩ := srow_one (HV.out.more hO2) ⟨x.nx, a2, c2, x.act⟩ (by omega) (by have := hO2.size; omega) 44 1
      have HR := hide hr
      have HROW := hide hrow
      have hlow := HV.out.low
      have HLOC := hide hloc
      have hoO : Only (fun _ => False) w1 X3 := (o2 HO.out hO2).trans ho3 (fun i hi e => ?_)
      have HOO := hide hoO
      have HN2 : Hid (∀ s ∈ S ++ [(⟨x.nx, a2, c2, x.act⟩ : Sp)], Nm X3 (fun k => w.heap.size ≤ k ∧ v'.ownBlock ≠ some k) s.ao s.act) := by
        intro q hq
        have key : ∀ (ao : Option Addr) (l : List Int), Nm w2 (fun k => w.heap.size ≤ k ∧ u3.ownBlock ≠ some k) ao l → Nm X3 (fun k => w.heap.size ≤ k ∧ v'.ownBlock ≠ some k) ao l := fun ao l h => by
          refine (h.mono (R := fun k => (w.heap.size ≤ k ∧ u3.ownBlock ≠ some k) ∧ k < w2.heap.size) (fun k hk hq => ⟨hq, hk⟩)).kept ho3 (fun k _ hq e => hq.1.2 e.symm) |>.mono (fun k _ hq => ⟨hq.1.1, fun e => ?_⟩)
          rcases hloc with h1 | ⟨k', h1, h2⟩
          · rw [h1] at e; exact hq.1.2 e
          · rw [h1] at e
            injection e with e
            have := hq.2
            omega
        rcases List.mem_append.1 hq with hq | hq
        · exact key _ _ ((HN.out q hq).more hO2)
        · obtain rfl := List.mem_singleton.1 hq
          refine key _ _ (hN.mono (fun k _ hk => ⟨by omega, fun e => ?_⟩))
          have := (hlow k e).2
          omega
      have HE2 : Hid ((S ++ [(⟨x.nx, a2, c2, x.act⟩ : Sp)]).map Sp.p = (L.take (j + 1)).map (snapT f)) := by
        unfold Hid
        rw [HTK.out, List.map_append, List.map_append, HE.out]
        show _ ++ [(x.nx, x.act)] = _ ++ [snapT f a]
        unfold snapT ofT
        rw [HF.out]
        rfl
      clear hN hn0 hO2 hr hrow hlow hloc ho3 hoO HA hl c0 d0 d1 k1
      go_wp2_with (at_builtin; go_must (refine Lib.wpList_append_run _ rfl _ _ _ _ rfl _ _ rfl rfl _ _ HR.out ?_); go_frame)
      refine ⟨⟨j + 1, S ++ [⟨x.nx, a2, c2, x.act⟩], by omega, by simp [hSj], by go_num, HROW, HE2, HN2, HOO⟩, by simp [intOf]; omega⟩
      have := (hlow i e.symm).1
      omega
    · have ej : L.take j = L := List.take_of_length_le (by omega)
      rw [ej] at HE
      obtain ⟨ao, cp, hv⟩ : ∃ ao cp, u3 = .slice ao S.length cp := HV.out.form
      subst hv
      clear ej
      go_wp2_with fail
      go_ret
      exact ⟨⟨ao, cp, S, rfl, HV.out.base HO1.out.size, ⟨L, HW.out, HE.out⟩, by omega, fun s hs => (HN.out s hs).mono (fun k _ hk => hk.1)⟩, o2 HO1.out HO.out⟩
end Go.Proofs.Ytmcghpeamnmbpaa
