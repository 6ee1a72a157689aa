/- The document's Check, Get, Set, Frozen, Cut and Blank. -/
import Derived.Test.YtolfmodgkkjnbaaGreatCRefB
namespace Go.Proofs.YtolfmodgkkjnbaaGreat
open Go.RowKit

theorem taken_err (w : World) (m a k v r : Int) (h : ByteArray) (cp B : Nat) (ao : Option Addr) (l : List ByteArray) (hm : I64 m) (hS : Strs w B ao l) (hc : ¬ chk m ⟨a, k, v, r, h, l⟩ = 0) :
    Calls Tryz.prog 58 #[.int .i64 m, .agg #[.int .i64 a, .int .i64 k, .int .i64 v, .int .i64 r, .string h, .slice ao l.length cp]] w fun e w' => TakN w w' e (chk m ⟨a, k, v, r, h, l⟩) := by
  by_cases hM : Md m
  · have hO : ¬ OkP m ⟨a, k, v, r, h, l⟩ := fun hk => hc (chk_ok hM hk)
    rw [chk_bad hM hO]
    by_cases h1 : k = 1
    · subst h1
      by_cases h2 : 0 ≤ a
      · by_cases h3 : v = 0
        · subst h3
          by_cases h4 : r = 0
          · subst h4
            by_cases h5 : h = ⟨#[]⟩
            · subst h5
              by_cases h6 : l.length = 2
              · obtain ⟨s0, s1, rfl⟩ := two_of h6
                by_cases h7 : s1.size = nb m
                · by_cases h8 : lim m s0 = 0
                  · exact taken_l w m a cp B ao s0 s1 hM h2 hS h7 h8
                  · refine (taken_t w m a cp B ao s0 s1 hM h2 hS h7 h8).mono fun e w' hx => hx.2 ?_
                    intro ht
                    exact hO ⟨rfl, h2, rfl, rfl, rfl, rfl, h8, h7, ht⟩
                · exact taken_s w m a cp B ao s0 s1 hM h2 hS h7
              · exact taken_n w m a cp l.length ao hM h2 h6
            · exact taken_h w m a h cp l.length ao hM h2 h5
          · exact taken_r w m a r h cp l.length ao hM h2 h4
        · exact taken_v w m a v r h cp l.length ao hM h2 h3
      · exact taken_a w m a v r h cp l.length ao hM (by omega)
    · exact taken_k w m a k v r h cp l.length ao hM h1
  · rw [chk_mod hM]
    exact taken_mod w m a k v r h cp l.length ao hm hM
theorem taken_ok (w : World) (m a : Int) (cp B : Nat) (ao : Option Addr) (s0 s1 : ByteArray) (hM : Md m) (hS : Strs w B ao [s0, s1]) (hO : OkP m ⟨a, 1, 0, 0, ⟨#[]⟩, [s0, s1]⟩) :
    Calls Tryz.prog 58 #[.int .i64 m, .agg #[.int .i64 a, .int .i64 1, .int .i64 0, .int .i64 0, .string ⟨#[]⟩, .slice ao 2 cp]] w fun e w' => TakY w w' e (lim m s0) (stsTo (bl s1) m.toNat m.toNat) :=
  (taken_t w m a cp B ao s0 s1 hM hO.lsn hS hO.size hO.lm).mono fun _ _ hx => hx.1 hO.top
/-- A list of statuses that bytes keep. -/
structure Rel (M : Nat) (l : List Nat) (b : List UInt8) : Prop where
  len : l.length = M
  at_ : ∀ j, j < M → l.getD j 0 = stAt b j
theorem Rel.first (b : List UInt8) (M : Nat) : Rel M (stsTo b M M) b := ⟨by rw [stsTo_len]; omega, fun j hj => stsTo_get b M M j (by omega)⟩
theorem Rel.set {M : Nat} {l : List Nat} {b : List UInt8} (h : Rel M l b) {i v : Nat} (hi : i < M) (hb : M ≤ 4 * b.length) (hv : v < 4) : Rel M (l.set i v) (stSet b i v) := by
  refine ⟨by rw [List.length_set]; exact h.len, fun j hj => ?_⟩
  rw [stAt_set (by omega) hv]
  by_cases e : j = i
  · subst e
    rw [if_pos rfl, List.getD_eq_getElem?_getD, List.getElem?_set_self (by rw [h.len]; exact hi)]
    rfl
  · rw [if_neg e, ← h.at_ j hj, List.getD_eq_getElem?_getD, List.getElem?_set_ne (by omega), ← List.getD_eq_getElem?_getD]
theorem Rel.laid {M N : Nat} {l : List Nat} {b : List UInt8} (h : Rel M l b) (h4 : ∀ x ∈ l, x < 4) (hN : b.length = N) (hM : M ≤ 4 * N) (ht : ∀ i, M ≤ i → i < 4 * N → stAt b i = 0) : lsTo N l l.length = b := by
  refine st_ext (by rw [lsTo_len, hN]) (fun i hi => ?_)
  rw [lsTo_len] at hi
  rw [stAt_ls h4 _ (by rw [h.len]; exact hM), h.len]
  split
  · rename_i h1
    exact h.at_ i h1
  · rename_i h1
    exact (ht i (by omega) hi).symm
theorem cid_of_err {m x : Int} {p : Pg} (h : ¬ chk m p = 0) : cid m p x = chk m p := by unfold cid; rw [if_neg h]
theorem cid_of_no {m x : Int} {p : Pg} (h : chk m p = 0) (hI : ¬ Idd m x) : cid m p x = 1 := by unfold cid; rw [if_pos h, if_neg hI]
set_option maxRecDepth 100000 in
set_option maxHeartbeats 1600000 in
theorem kget_any (w : World) (m a k v r x : Int) (h : ByteArray) (cp B : Nat) (ao : Option Addr) (l : List ByteArray) (hm : I64 m) (hx : I64 x) (hS : Strs w B ao l) :
    Calls Tryz.prog 33 #[.int .i64 m, .agg #[.int .i64 a, .int .i64 k, .int .i64 v, .int .i64 r, .string h, .slice ao l.length cp], .int .i64 x] w fun e w' => e = .returned (.tuple #[.int .u8 (gst m ⟨a, k, v, r, h, l⟩ x : Int), .int .i64 (cid m ⟨a, k, v, r, h, l⟩ x)]) ∧ Only (fun _ => False) w w' := by
  by_cases hc : chk m ⟨a, k, v, r, h, l⟩ = 0
  · obtain ⟨hM, hO⟩ := chk_zero hc
    have h1 := hO.kind
    have h2 := hO.level
    have h3 := hO.right
    have h4 := hO.high
    simp only at h1 h2 h3 h4
    subst h1 h2 h3 h4
    obtain ⟨s0, s1, rfl⟩ := two_of hO.two
    have HT := hide (fun W (ho : Only (fun _ => False) w W) => taken_ok W m a cp B ao s0 s1 hM (hS.more ho) hO)
    obtain ⟨f, hf⟩ : ∃ f, lim m s0 = f := ⟨_, rfl⟩
    have hfi : Idd m f := by rw [← hf]; exact hO.idd hM
    have HREL := hide (Rel.first (bl s1) m.toNat)
    have hnb := nb_bd hM
    have hsz : s1.size = nb m := hO.size
    have hm1 := hM.1
    have hm2 := hM.2.1
    obtain ⟨L, hL⟩ : ∃ L, stsTo (bl s1) m.toNat m.toNat = L := ⟨_, rfl⟩
    simp only [hf, hL] at HT
    rw [hL] at HREL
    have hLl : L.length = m.toNat := HREL.out.len
    have HO := hide (onlyA w (.cells #[.int .i64 a, .int .i64 1, .int .i64 0, .int .i64 0, .string ⟨#[]⟩, .slice ao 2 cp] 30))
    have HP := hide (Pag.new w (.int .i64 a) (.int .i64 1) (.int .i64 0) (.int .i64 0) (.string ⟨#[]⟩) (.slice ao 2 cp))
    by_cases hI : Idd m x
    · unfold gst
      have hid := cid_ok hI hO
      rw [if_pos hid, hid]
      show Calls Tryz.prog 33 _ w fun e w' => e = .returned (.tuple #[.int .u8 (stAt (bl s1) (x - 1).toNat : Int), .int .i64 0]) ∧ Only (fun _ => False) w w'
      have hx1 := hI.2.1
      have hx2 := hI.2.2
      have HV : Hid (stAt (bl s1) (x - 1).toNat = L.getD (x - 1).toNat 0) := (HREL.out.at_ _ (by omega)).symm
      obtain ⟨R, hR⟩ : ∃ R, stAt (bl s1) (x - 1).toNat = R := ⟨_, rfl⟩
      rw [hR] at HV
      rw [hR]
      obtain ⟨j, hj⟩ : ∃ j : Nat, x - 1 = (j : Int) := ⟨(x - 1).toNat, by omega⟩
      have HJ : Hid ((x - 1).toNat = j) := by unfold Hid; omega
      have hjl : (j : Int) < (L.length : Int) := by omega
      clear hm hx hS hO hM hc hf hL hid hI hR
      simp only [List.length_cons, List.length_nil, Nat.zero_add, Nat.reduceAdd]
      go_enter Tryz.func33, Tryz.ntmps33
      go_wp2_with fail
      refine (HT.out _ HO.out).mono ?_
      rintro e w1 ⟨B1, cap1, rfl, hst, _, ho⟩
      have HO1 := hide (o2 HO.out ho)
      have c0 := hst.c j (by omega)
      have HRV : Hid (L[j]'(by omega) = R) := by
        unfold Hid
        rw [HV.out, HJ.out, List.getD_eq_getElem?_getD, List.getElem?_eq_getElem (by omega)]
        rfl
      rw [HRV.out] at c0
      clear ho hst HRV
      go_wp2_with fail
      go_ret2
      exact ⟨rfl, HO1.out⟩
    · unfold gst
      have hid := cid_of_no hc hI
      rw [if_neg (by rw [hid]; omega), hid]
      have hx1 := hx.1
      have hx2 := hx.2
      have hno : x < 1 ∨ m < x := by
        apply Classical.byContradiction
        intro hn
        exact hI ⟨hM, by omega, by omega⟩
      clear hm hx hS hO hM hc hf hL hid hI HREL hLl hfi
      simp only [List.length_cons, List.length_nil, Nat.zero_add, Nat.reduceAdd]
      rcases hno with hno | hno
      · go_enter Tryz.func33, Tryz.ntmps33
        go_wp2_with fail
        refine (HT.out _ HO.out).mono ?_
        rintro e w1 ⟨B1, cap1, rfl, _, _, ho⟩
        have HO1 := hide (o2 HO.out ho)
        clear ho
        go_wp2_with fail
        go_ret2
        exact ⟨rfl, HO1.out⟩
      · have hx0 : ¬ x < 1 := by omega
        go_enter Tryz.func33, Tryz.ntmps33
        go_wp2_with fail
        refine (HT.out _ HO.out).mono ?_
        rintro e w1 ⟨B1, cap1, rfl, _, _, ho⟩
        have HO1 := hide (o2 HO.out ho)
        clear ho
        go_wp2_with fail
        go_ret2
        exact ⟨rfl, HO1.out⟩
  · have HC := hide (fun W (ho : Only (fun _ => False) w W) => taken_err W m a k v r h cp B ao l hm (hS.more ho) hc)
    have hcb := chk_bd m ⟨a, k, v, r, h, l⟩
    obtain ⟨C, hC⟩ : ∃ C, chk m ⟨a, k, v, r, h, l⟩ = C := ⟨_, rfl⟩
    rw [hC] at hc hcb
    simp only [hC] at HC
    have hne : (C != 0) = true := by simp [hc]
    unfold gst
    have hid : cid m ⟨a, k, v, r, h, l⟩ x = C := by rw [cid_of_err (by rw [hC]; exact hc), hC]
    rw [if_neg (by rw [hid]; exact hc), hid]
    have HO := hide (onlyA w (.cells #[.int .i64 a, .int .i64 k, .int .i64 v, .int .i64 r, .string h, .slice ao l.length cp] 30))
    have hx1 := hx.1
    have hx2 := hx.2
    clear hC hc hm hS hx hid
    go_enter Tryz.func33, Tryz.ntmps33
    go_wp2_with fail
    refine (HC.out _ HO.out).mono ?_
    rintro e w1 ⟨rfl, ho⟩
    have HO1 := hide (o2 HO.out ho)
    clear ho
    go_wp2_with fail
    go_ret2
    exact ⟨rfl, HO1.out⟩
end Go.Proofs.YtolfmodgkkjnbaaGreat
