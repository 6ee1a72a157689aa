/- Parts. -/
import Derived.Test.YtpnbhddmdfcjdaaGreatK13
import Derived.Test.YtpnbhddmdfcjdaaGreatK15
import Derived.Test.YtpnbhddmdfcjdaaGreatK16
import Derived.Test.YtpnbhddmdfcjdaaGreatK03
import Derived.Shelf.Sort.Plain
import Derived.Sort.OwnSortedInts
import Derived.Deep.RegionHeld3
import Derived.Deep.Draws
set_option maxRecDepth 100000
namespace Go.Proofs.YtpnbhddmdfcjdaaGreat
open Go.RowKit
/-- Numbers that a slice leads to, in block B. -/
structure Nz (w : World) (B : Nat) (ao : Option Addr) (l : List Int) : Prop where
  at_ : 0 < l.length → ∃ o, ao = some ⟨B, o, none⟩ ∧ ∀ j (h : j < l.length), w.cell? ⟨B, o + j, none⟩ = some (.int .i64 l[j])
  wf : ∀ x ∈ l, I64 x
  lt : 0 < l.length → B < w.heap.size
  len : l.length < 9223372036854775808
theorem Nz.nil (w : World) (B : Nat) (ao : Option Addr) : Nz w B ao [] := ⟨fun h => absurd h (by simp), fun _ h => by (cases h), fun h => absurd h (by simp), by simp⟩
theorem Nz.kept {S : Nat → Prop} {w w' : World} {B : Nat} {ao : Option Addr} {l : List Int} (h : Nz w B ao l) (ho : Only S w w') (hS : 0 < l.length → ¬ S B) : Nz w' B ao l :=
  ⟨fun h0 => by
    obtain ⟨o, e, hc⟩ := h.at_ h0
    exact ⟨o, e, fun j hj => (ho.cell (p := ⟨B, o + j, none⟩) (h.lt h0) (hS h0)).trans (hc j hj)⟩, h.wf, fun h0 => Nat.lt_of_lt_of_le (h.lt h0) ho.size, h.len⟩
theorem Nz.more {w w' : World} {B : Nat} {ao : Option Addr} {l : List Int} (h : Nz w B ao l) (ho : Only (fun _ => False) w w') : Nz w' B ao l := h.kept ho (fun _ h => h)
theorem Nz.one (w : World) (a : Int) (ha : I64 a) : Nz (w.alloc (.cells #[.int .i64 a] 3)) w.heap.size (some ⟨w.heap.size, 0, none⟩) [a] :=
  ⟨fun _ => ⟨0, rfl, fun j hj => by
    match j, hj with
    | 0, _ => simp⟩, fun x hx => by simp at hx; subst hx; exact ha, fun _ => by simp, by simp⟩
theorem snot_mem_take {l : List Int} {x : Int} {j : Nat} (h : ∀ k (hk : k < l.length), k < j → l[k] ≠ x) (hj : l.length ≤ j) : x ∉ l := by
  intro hm
  obtain ⟨k, hk, e⟩ := List.getElem_of_mem hm
  exact h k hk (by omega) e
set_option maxRecDepth 100000 in
set_option maxHeartbeats 800000 in
theorem nin_any (w : World) (B cp : Nat) (ao : Option Addr) (l : List Int) (x : Int) (h : Nz w B ao l) :
    Calls Tryz.prog 110 #[.slice ao l.length cp, .int .i64 x] w fun e w' => e = .returned (.bool (decide (x ∈ l))) ∧ w' = w := by
  have hlen := h.len
  have HS := hide h
  clear h
  go_enter Tryz.func110, Tryz.ntmps110
  go_wp2_with fail
  go_loop [5] (fun y => ∃ j : Nat, j ≤ l.length ∧ y = .int .i64 (j : Int) ∧ Hid (∀ k (hk : k < l.length), k < j → l[k] ≠ x)) (fun y => l.length - (intOf y).toNat)
  case atStart => exact ⟨0, by omega, rfl, (fun k _ hk => by omega)⟩
  case round =>
    obtain ⟨j, hj, rfl, HQ⟩ := hrel
    by_cases hlt : j < l.length
    · obtain ⟨o, e1, c1⟩ := HS.out.at_ (by omega)
      have k1 := c1 j hlt
      obtain ⟨z, hz⟩ : ∃ z, l[j] = z := ⟨_, rfl⟩
      have HZ := hide hz
      rw [hz] at k1
      clear c1 hz
      subst e1
      by_cases he : z = x
      · have hm : x ∈ l := by rw [← he, ← HZ.out]; exact List.getElem_mem hlt
        have HM := hide hm
        clear hm
        subst he
        go_wp2_with fail
        go_ret
        exact ⟨ret_bool (decide_eq_true HM.out).symm, rfl⟩
      · have hb : (z == x) = false := by simp [he]
        go_wp2_with fail
        go_round
        case rel =>
          refine ⟨j + 1, by omega, by go_num, ?_⟩
          intro k hk hkj
          by_cases ek : k = j
          · subst ek; rw [HZ.out]; exact he
          · exact HQ.out k hk (by omega)
        case measure => simp [intOf]; omega
    · have HM := hide (snot_mem_take HQ.out (by omega))
      go_wp2_with fail
      go_ret
      exact ⟨ret_bool (decide_eq_false HM.out).symm, rfl⟩
/-- A number was returned: not below 0 just if P. -/
structure RJs (e : Ending) (P : Prop) : Prop where
  ex : ∃ c : Int, e = .returned (.int .i64 c) ∧ (0 ≤ c ↔ P)
set_option maxRecDepth 100000 in
set_option maxHeartbeats 800000 in
theorem sindex_any (w : World) (B cp : Nat) (ao : Option Addr) (l : List Int) (x : Int) (h : Nz w B ao l) :
    Calls Tryz.prog 184 #[.slice ao l.length cp, .int .i64 x] w fun e w' => RJs e (x ∈ l) ∧ w' = w := by
  have hlen := h.len
  have HS := hide h
  clear h
  go_enter Tryz.func184, Tryz.ntmps184
  go_wp2_with fail
  go_loop [8] (fun y => ∃ j : Nat, j ≤ l.length ∧ y = .int .i64 (j : Int) ∧ Hid (∀ k (hk : k < l.length), k < j → l[k] ≠ x)) (fun y => l.length - (intOf y).toNat)
  case atStart => exact ⟨0, by omega, rfl, (fun k _ hk => by omega)⟩
  case round =>
    obtain ⟨j, hj, rfl, HQ⟩ := hrel
    by_cases hlt : j < l.length
    · obtain ⟨o, e1, c1⟩ := HS.out.at_ (by omega)
      have k1 := c1 j hlt
      obtain ⟨z, hz⟩ : ∃ z, l[j] = z := ⟨_, rfl⟩
      have HZ := hide hz
      rw [hz] at k1
      clear c1 hz
      subst e1
      by_cases he : z = x
      · have hm : x ∈ l := by rw [← he, ← HZ.out]; exact List.getElem_mem hlt
        have HM := hide hm
        clear hm
        subst he
        go_wp2_with fail
        go_ret
        exact ⟨⟨_, rfl, fun _ => HM.out, fun _ => by omega⟩, rfl⟩
      · have hb : (x == z) = false := by simp [Ne.symm he]
        go_wp2_with fail
        go_round
        case rel =>
          refine ⟨j + 1, by omega, by go_num, ?_⟩
          intro k hk hkj
          by_cases ek : k = j
          · subst ek; rw [HZ.out]; exact he
          · exact HQ.out k hk (by omega)
        case measure => simp [intOf]; omega
    · have HM := hide (snot_mem_take HQ.out (by omega))
      go_wp2_with fail
      go_ret
      exact ⟨⟨_, rfl, fun h => absurd h (by decide), fun h => absurd h HM.out⟩, rfl⟩
set_option maxRecDepth 100000 in
set_option maxHeartbeats 800000 in
theorem scontains_any (w : World) (B cp : Nat) (ao : Option Addr) (l : List Int) (x : Int) (h : Nz w B ao l) :
    Calls Tryz.prog 146 #[.slice ao l.length cp, .int .i64 x] w fun e w' => e = .returned (.bool (decide (x ∈ l))) ∧ w' = w := by
  have HC := hide (sindex_any w B cp ao l x h)
  clear h
  go_enter Tryz.func146, Tryz.ntmps146
  go_wp2_with fail
  refine HC.out.mono ?_
  rintro e w1 ⟨⟨c, rfl, hc⟩, rfl⟩
  have HP := hide hc
  clear hc HC
  by_cases h0 : 0 ≤ c
  · have g0 : decide (0 ≤ c) = true := decide_eq_true h0
    go_wp2_with fail
    go_ret
    exact ⟨ret_bool (by rw [decide_eq_true (HP.out.1 h0)]), rfl⟩
  · have g0 : decide (0 ≤ c) = false := decide_eq_false h0
    go_wp2_with fail
    go_ret
    exact ⟨ret_bool (by rw [decide_eq_false (fun h => by have := HP.out.2 h; omega)]), rfl⟩
theorem taken_err (w : World) (m a k v r : Int) (h : ByteArray) (cp B : Nat) (ao : Option Addr) (l : List ByteArray) (hm : I64 m) (hS : Strs w B ao l) (hc : ¬ chk m ⟨a, k, v, r, h, l⟩ = 0) :
    Calls Tryz.prog 149 #[.int .i64 m, .agg #[.int .i64 a, .int .i64 k, .int .i64 v, .int .i64 r, .string h, .slice ao l.length cp]] w fun e w' => TakN w w' e (chk m ⟨a, k, v, r, h, l⟩) := by
  by_cases hM : Md m
  · have hO : ¬ OkP m ⟨a, k, v, r, h, l⟩ := fun hk => hc (chk_ok hM hk)
    rw [chk_bad hM hO]
    by_cases h1 : k = 1
    · subst h1
      by_cases h2 : 0 ≤ a
      · by_cases h3 : v = 0
        · subst h3
          by_cases h4 : r = 0
          · subst h4
            by_cases h5 : h = ⟨#[]⟩
            · subst h5
              by_cases h6 : l.length = 2
              · obtain ⟨s0, s1, rfl⟩ := two_of h6
                by_cases h7 : s1.size = nb m
                · by_cases h8 : lim m s0 = 0
                  · exact taken_l w m a cp B ao s0 s1 hM h2 hS h7 h8
                  · refine (taken_t w m a cp B ao s0 s1 hM h2 hS h7 h8).mono fun e w' hx => hx.2 ?_
                    intro ht
                    exact hO ⟨rfl, h2, rfl, rfl, rfl, rfl, h8, h7, ht⟩
                · exact taken_s w m a cp B ao s0 s1 hM h2 hS h7
              · exact taken_n w m a cp l.length ao hM h2 h6
            · exact taken_h w m a h cp l.length ao hM h2 h5
          · exact taken_r w m a r h cp l.length ao hM h2 h4
        · exact taken_v w m a v r h cp l.length ao hM h2 h3
      · exact taken_a w m a v r h cp l.length ao hM (by omega)
    · exact taken_k w m a k v r h cp l.length ao hM h1
  · rw [chk_mod hM]
    exact taken_mod w m a k v r h cp l.length ao hm hM
theorem taken_ok (w : World) (m a : Int) (cp B : Nat) (ao : Option Addr) (s0 s1 : ByteArray) (hM : Md m) (hS : Strs w B ao [s0, s1]) (hO : OkP m ⟨a, 1, 0, 0, ⟨#[]⟩, [s0, s1]⟩) :
    Calls Tryz.prog 149 #[.int .i64 m, .agg #[.int .i64 a, .int .i64 1, .int .i64 0, .int .i64 0, .string ⟨#[]⟩, .slice ao 2 cp]] w fun e w' => TakY w w' e (lim m s0) (stsTo (bl s1) m.toNat m.toNat) :=
  (taken_t w m a cp B ao s0 s1 hM hO.lsn hS hO.size hO.lm).mono fun _ _ hx => hx.1 hO.top
/-- A list of statuses that bytes keep. -/
structure Rel (M : Nat) (l : List Nat) (b : List UInt8) : Prop where
  len : l.length = M
  at_ : ∀ j, j < M → l.getD j 0 = stAt b j
theorem Rel.first (b : List UInt8) (M : Nat) : Rel M (stsTo b M M) b := ⟨by rw [stsTo_len]; omega, fun j hj => stsTo_get b M M j (by omega)⟩
theorem cid_of_err {m x : Int} {p : Pg} (h : ¬ chk m p = 0) : cid m p x = chk m p := by unfold cid; rw [if_neg h]
theorem cid_of_no {m x : Int} {p : Pg} (h : chk m p = 0) (hI : ¬ Idd m x) : cid m p x = 1 := by unfold cid; rw [if_pos h, if_neg hI]
set_option maxRecDepth 100000 in
set_option maxHeartbeats 1600000 in
theorem kget_any (w : World) (m a k v r x : Int) (h : ByteArray) (cp B : Nat) (ao : Option Addr) (l : List ByteArray) (hm : I64 m) (hx : I64 x) (hS : Strs w B ao l) :
    Calls Tryz.prog 111 #[.int .i64 m, .agg #[.int .i64 a, .int .i64 k, .int .i64 v, .int .i64 r, .string h, .slice ao l.length cp], .int .i64 x] w fun e w' => e = .returned (.tuple #[.int .u8 (gst m ⟨a, k, v, r, h, l⟩ x : Int), .int .i64 (cid m ⟨a, k, v, r, h, l⟩ x)]) ∧ Only (fun _ => False) w w' := by
  by_cases hc : chk m ⟨a, k, v, r, h, l⟩ = 0
  · obtain ⟨hM, hO⟩ := chk_zero hc
    have h1 := hO.kind
    have h2 := hO.level
    have h3 := hO.right
    have h4 := hO.high
    simp only at h1 h2 h3 h4
    subst h1 h2 h3 h4
    obtain ⟨s0, s1, rfl⟩ := two_of hO.two
    have HT := hide (fun W (ho : Only (fun _ => False) w W) => taken_ok W m a cp B ao s0 s1 hM (hS.more ho) hO)
    obtain ⟨f, hf⟩ : ∃ f, lim m s0 = f := ⟨_, rfl⟩
    have hfi : Idd m f := by rw [← hf]; exact hO.idd hM
    have HREL := hide (Rel.first (bl s1) m.toNat)
    have hnb := nb_bd hM
    have hsz : s1.size = nb m := hO.size
    have hm1 := hM.1
    have hm2 := hM.2.1
    obtain ⟨L, hL⟩ : ∃ L, stsTo (bl s1) m.toNat m.toNat = L := ⟨_, rfl⟩
    simp only [hf, hL] at HT
    rw [hL] at HREL
    have hLl : L.length = m.toNat := HREL.out.len
    have HO := hide (onlyA w (.cells #[.int .i64 a, .int .i64 1, .int .i64 0, .int .i64 0, .string ⟨#[]⟩, .slice ao 2 cp] 30))
    have HP := hide (Pag.new w (.int .i64 a) (.int .i64 1) (.int .i64 0) (.int .i64 0) (.string ⟨#[]⟩) (.slice ao 2 cp))
    by_cases hI : Idd m x
    · unfold gst
      have hid := cid_ok hI hO
      rw [if_pos hid, hid]
      show Calls Tryz.prog 111 _ w fun e w' => e = .returned (.tuple #[.int .u8 (stAt (bl s1) (x - 1).toNat : Int), .int .i64 0]) ∧ Only (fun _ => False) w w'
      have hx1 := hI.2.1
      have hx2 := hI.2.2
      have HV : Hid (stAt (bl s1) (x - 1).toNat = L.getD (x - 1).toNat 0) := (HREL.out.at_ _ (by omega)).symm
      obtain ⟨R, hR⟩ : ∃ R, stAt (bl s1) (x - 1).toNat = R := ⟨_, rfl⟩
      rw [hR] at HV
      rw [hR]
      obtain ⟨j, hj⟩ : ∃ j : Nat, x - 1 = (j : Int) := ⟨(x - 1).toNat, by omega⟩
      have HJ : Hid ((x - 1).toNat = j) := by unfold Hid; omega
      have hjl : (j : Int) < (L.length : Int) := by omega
      clear hm hx hS hO hM hc hf hL hid hI hR
      simp only [List.length_cons, List.length_nil, Nat.zero_add, Nat.reduceAdd]
      go_enter Tryz.func111, Tryz.ntmps111
      go_wp2_with fail
      refine (HT.out _ HO.out).mono ?_
      rintro e w1 ⟨B1, cap1, rfl, hst, _, ho⟩
      have HO1 := hide (o2 HO.out ho)
      have c0 := hst.c j (by omega)
      have HRV : Hid (L[j]'(by omega) = R) := by
        unfold Hid
        rw [HV.out, HJ.out, List.getD_eq_getElem?_getD, List.getElem?_eq_getElem (by omega)]
        rfl
      rw [HRV.out] at c0
      clear ho hst HRV
      go_wp2_with fail
      go_ret2
      exact ⟨rfl, HO1.out⟩
    · unfold gst
      have hid := cid_of_no hc hI
      rw [if_neg (by rw [hid]; omega), hid]
      have hx1 := hx.1
      have hx2 := hx.2
      have hno : x < 1 ∨ m < x := by
        apply Classical.byContradiction
        intro hn
        exact hI ⟨hM, by omega, by omega⟩
      clear hm hx hS hO hM hc hf hL hid hI HREL hLl hfi
      simp only [List.length_cons, List.length_nil, Nat.zero_add, Nat.reduceAdd]
      rcases hno with hno | hno
      · go_enter Tryz.func111, Tryz.ntmps111
        go_wp2_with fail
        refine (HT.out _ HO.out).mono ?_
        rintro e w1 ⟨B1, cap1, rfl, _, _, ho⟩
        have HO1 := hide (o2 HO.out ho)
        clear ho
        go_wp2_with fail
        go_ret2
        exact ⟨rfl, HO1.out⟩
      · have hx0 : ¬ x < 1 := by omega
        go_enter Tryz.func111, Tryz.ntmps111
        go_wp2_with fail
        refine (HT.out _ HO.out).mono ?_
        rintro e w1 ⟨B1, cap1, rfl, _, _, ho⟩
        have HO1 := hide (o2 HO.out ho)
        clear ho
        go_wp2_with fail
        go_ret2
        exact ⟨rfl, HO1.out⟩
  · have HC := hide (fun W (ho : Only (fun _ => False) w W) => taken_err W m a k v r h cp B ao l hm (hS.more ho) hc)
    have hcb := chk_bd m ⟨a, k, v, r, h, l⟩
    obtain ⟨C, hC⟩ : ∃ C, chk m ⟨a, k, v, r, h, l⟩ = C := ⟨_, rfl⟩
    rw [hC] at hc hcb
    simp only [hC] at HC
    have hne : (C != 0) = true := by simp [hc]
    unfold gst
    have hid : cid m ⟨a, k, v, r, h, l⟩ x = C := by rw [cid_of_err (by rw [hC]; exact hc), hC]
    rw [if_neg (by rw [hid]; exact hc), hid]
    have HO := hide (onlyA w (.cells #[.int .i64 a, .int .i64 k, .int .i64 v, .int .i64 r, .string h, .slice ao l.length cp] 30))
    have hx1 := hx.1
    have hx2 := hx.2
    clear hC hc hm hS hx hid
    go_enter Tryz.func111, Tryz.ntmps111
    go_wp2_with fail
    refine (HC.out _ HO.out).mono ?_
    rintro e w1 ⟨rfl, ho⟩
    have HO1 := hide (o2 HO.out ho)
    clear ho
    go_wp2_with fail
    go_ret2
    exact ⟨rfl, HO1.out⟩
/-- A view as plain data. -/
structure Vw where
  m : Int
  next : Int
  act : List Int
  own : Int
  run : List Int
  pg : Pg
/-- A version as plain data. -/
structure Tp where
  xmin : Int
  xmax : Int
  fz : Bool
  key : ByteArray
  val : ByteArray
noncomputable def vsi (V : Vw) (x : Int) : Int := if x ∈ V.run then 1 else (gst V.m V.pg x : Int)
theorem vsi_bd (V : Vw) (x : Int) : 0 ≤ vsi V x ∧ vsi V x < 4 := by
  unfold vsi gst
  split
  · omega
  · split
    · have := stAt_lt (bl (it1 V.pg)) (x - 1).toNat
      omega
    · omega
noncomputable def vcom (V : Vw) (x : Int) : Bool := decide (vsi V x = 2)
noncomputable def vabo (V : Vw) (x : Int) : Bool := decide (vsi V x = 3)
noncomputable def vpast (V : Vw) (x h : Int) : Bool := vcom V x && xbef V.m x h
noncomputable def vnever (V : Vw) (T : Tp) : Bool := !T.fz && vabo V T.xmin
noncomputable def vgone (V : Vw) (T : Tp) (h : Int) : Bool := vnever V T || (T.xmax != 0 && vpast V T.xmax h)
noncomputable def vold (V : Vw) (T : Tp) (h : Int) : Bool := !T.fz && vpast V T.xmin h
noncomputable def voff (V : Vw) (T : Tp) : Bool := T.xmax != 0 && vabo V T.xmax
/-- Where a view's lists lie. -/
structure Lo where
  bA : Nat
  aA : Option Addr
  cA : Nat
  bR : Nat
  aR : Option Addr
  cR : Nat
  bP : Nat
  aP : Option Addr
  cP : Nat
/-- A view's lists in memory. -/
structure Sn (W : World) (V : Vw) (q : Lo) : Prop where
  act : Nz W q.bA q.aA V.act
  run : Nz W q.bR q.aR V.run
  pg : Strs W q.bP q.aP V.pg.items
  fit : Fit q.aP V.pg.items.length q.cP
  m : I64 V.m
  next : I64 V.next
  own : I64 V.own
theorem Sn.more {W W' : World} {V : Vw} {q : Lo} (h : Sn W V q) (ho : Only (fun _ => False) W W') : Sn W' V q := ⟨h.act.more ho, h.run.more ho, h.pg.more ho, h.fit, h.m, h.next, h.own⟩
/-- 11 cells in block b. -/
structure VB (w : World) (b : Nat) (v0 v1 v2 v3 v4 v5 v6 v7 v8 v9 v10 : Value) : Prop where
  c0 : w.cell? ⟨b, 0, none⟩ = some v0
  c1 : w.cell? ⟨b, 1, none⟩ = some v1
  c2 : w.cell? ⟨b, 2, none⟩ = some v2
  c3 : w.cell? ⟨b, 3, none⟩ = some v3
  c4 : w.cell? ⟨b, 4, none⟩ = some v4
  c5 : w.cell? ⟨b, 5, none⟩ = some v5
  c6 : w.cell? ⟨b, 6, none⟩ = some v6
  c7 : w.cell? ⟨b, 7, none⟩ = some v7
  c8 : w.cell? ⟨b, 8, none⟩ = some v8
  c9 : w.cell? ⟨b, 9, none⟩ = some v9
  c10 : w.cell? ⟨b, 10, none⟩ = some v10
  f0 : w.frozen? ⟨b, 0, none⟩ = false
  f1 : w.frozen? ⟨b, 1, none⟩ = false
  f2 : w.frozen? ⟨b, 2, none⟩ = false
  f3 : w.frozen? ⟨b, 3, none⟩ = false
  f4 : w.frozen? ⟨b, 4, none⟩ = false
  f5 : w.frozen? ⟨b, 5, none⟩ = false
  f6 : w.frozen? ⟨b, 6, none⟩ = false
  f7 : w.frozen? ⟨b, 7, none⟩ = false
  f8 : w.frozen? ⟨b, 8, none⟩ = false
  f9 : w.frozen? ⟨b, 9, none⟩ = false
  f10 : w.frozen? ⟨b, 10, none⟩ = false
  lt : b < w.heap.size
theorem VB.kept {S : Nat → Prop} {w w' : World} {b : Nat} {v0 v1 v2 v3 v4 v5 v6 v7 v8 v9 v10 : Value} (h : VB w b v0 v1 v2 v3 v4 v5 v6 v7 v8 v9 v10) (ho : Only S w w') (hS : ¬ S b) : VB w' b v0 v1 v2 v3 v4 v5 v6 v7 v8 v9 v10 :=
  ⟨(ho.cell (p := ⟨b, 0, none⟩) h.lt hS).trans h.c0, (ho.cell (p := ⟨b, 1, none⟩) h.lt hS).trans h.c1, (ho.cell (p := ⟨b, 2, none⟩) h.lt hS).trans h.c2, (ho.cell (p := ⟨b, 3, none⟩) h.lt hS).trans h.c3, (ho.cell (p := ⟨b, 4, none⟩) h.lt hS).trans h.c4, (ho.cell (p := ⟨b, 5, none⟩) h.lt hS).trans h.c5, (ho.cell (p := ⟨b, 6, none⟩) h.lt hS).trans h.c6, (ho.cell (p := ⟨b, 7, none⟩) h.lt hS).trans h.c7, (ho.cell (p := ⟨b, 8, none⟩) h.lt hS).trans h.c8, (ho.cell (p := ⟨b, 9, none⟩) h.lt hS).trans h.c9, (ho.cell (p := ⟨b, 10, none⟩) h.lt hS).trans h.c10,
   (ho.frozen (p := ⟨b, 0, none⟩) h.lt hS).trans h.f0, (ho.frozen (p := ⟨b, 1, none⟩) h.lt hS).trans h.f1, (ho.frozen (p := ⟨b, 2, none⟩) h.lt hS).trans h.f2, (ho.frozen (p := ⟨b, 3, none⟩) h.lt hS).trans h.f3, (ho.frozen (p := ⟨b, 4, none⟩) h.lt hS).trans h.f4, (ho.frozen (p := ⟨b, 5, none⟩) h.lt hS).trans h.f5, (ho.frozen (p := ⟨b, 6, none⟩) h.lt hS).trans h.f6, (ho.frozen (p := ⟨b, 7, none⟩) h.lt hS).trans h.f7, (ho.frozen (p := ⟨b, 8, none⟩) h.lt hS).trans h.f8, (ho.frozen (p := ⟨b, 9, none⟩) h.lt hS).trans h.f9, (ho.frozen (p := ⟨b, 10, none⟩) h.lt hS).trans h.f10, Nat.lt_of_lt_of_le h.lt ho.size⟩
theorem VB.more {w w' : World} {b : Nat} {v0 v1 v2 v3 v4 v5 v6 v7 v8 v9 v10 : Value} (h : VB w b v0 v1 v2 v3 v4 v5 v6 v7 v8 v9 v10) (ho : Only (fun _ => False) w w') : VB w' b v0 v1 v2 v3 v4 v5 v6 v7 v8 v9 v10 := h.kept ho (fun h => h)
theorem VB.new (w : World) (v0 v1 v2 v3 v4 v5 v6 v7 v8 v9 v10 : Value) : VB (w.alloc (.cells #[v0, v1, v2, v3, v4, v5, v6, v7, v8, v9, v10] 32)) w.heap.size v0 v1 v2 v3 v4 v5 v6 v7 v8 v9 v10 :=
  ⟨by simp, by simp, by simp, by simp, by simp, by simp, by simp, by simp, by simp, by simp, by simp, by simp, by simp, by simp, by simp, by simp, by simp, by simp, by simp, by simp, by simp, by simp, by simp⟩
theorem VB.setC {w : World} {b : Nat} {v0 v1 v2 v3 v4 v5 v6 v7 v8 v9 v10 : Value} (h : VB w b v0 v1 v2 v3 v4 v5 v6 v7 v8 v9 v10) {k : Nat} (u : Value) : VB (w.setCell ⟨b, k, none⟩ u) b (if k = 0 then u else v0) (if k = 1 then u else v1) (if k = 2 then u else v2) (if k = 3 then u else v3) (if k = 4 then u else v4) (if k = 5 then u else v5) (if k = 6 then u else v6) (if k = 7 then u else v7) (if k = 8 then u else v8) (if k = 9 then u else v9) (if k = 10 then u else v10) := by
  have cl : ∀ (i : Nat) (v : Value), w.cell? ⟨b, i, none⟩ = some v → (w.setCell ⟨b, k, none⟩ u).cell? ⟨b, i, none⟩ = some (if k = i then u else v) := fun i v hv => by
    by_cases e : k = i
    · subst e; rw [if_pos rfl]; exact World.cell?_setCell_same _ _ _ hv
    · rw [if_neg e]; exact (World.cell?_setCell_other _ _ _ _ (by intro e2; injection e2 with _ e3; exact e e3)).trans hv
  exact ⟨cl 0 _ h.c0, cl 1 _ h.c1, cl 2 _ h.c2, cl 3 _ h.c3, cl 4 _ h.c4, cl 5 _ h.c5, cl 6 _ h.c6, cl 7 _ h.c7, cl 8 _ h.c8, cl 9 _ h.c9, cl 10 _ h.c10, by simpa using h.f0, by simpa using h.f1, by simpa using h.f2, by simpa using h.f3, by simpa using h.f4, by simpa using h.f5, by simpa using h.f6, by simpa using h.f7, by simpa using h.f8, by simpa using h.f9, by simpa using h.f10, by simpa using h.lt⟩
/-- 5 cells in block b. -/
structure TB (w : World) (b : Nat) (v0 v1 v2 v3 v4 : Value) : Prop where
  c0 : w.cell? ⟨b, 0, none⟩ = some v0
  c1 : w.cell? ⟨b, 1, none⟩ = some v1
  c2 : w.cell? ⟨b, 2, none⟩ = some v2
  c3 : w.cell? ⟨b, 3, none⟩ = some v3
  c4 : w.cell? ⟨b, 4, none⟩ = some v4
  f0 : w.frozen? ⟨b, 0, none⟩ = false
  f1 : w.frozen? ⟨b, 1, none⟩ = false
  f2 : w.frozen? ⟨b, 2, none⟩ = false
  f3 : w.frozen? ⟨b, 3, none⟩ = false
  f4 : w.frozen? ⟨b, 4, none⟩ = false
  lt : b < w.heap.size
theorem TB.kept {S : Nat → Prop} {w w' : World} {b : Nat} {v0 v1 v2 v3 v4 : Value} (h : TB w b v0 v1 v2 v3 v4) (ho : Only S w w') (hS : ¬ S b) : TB w' b v0 v1 v2 v3 v4 :=
  ⟨(ho.cell (p := ⟨b, 0, none⟩) h.lt hS).trans h.c0, (ho.cell (p := ⟨b, 1, none⟩) h.lt hS).trans h.c1, (ho.cell (p := ⟨b, 2, none⟩) h.lt hS).trans h.c2, (ho.cell (p := ⟨b, 3, none⟩) h.lt hS).trans h.c3, (ho.cell (p := ⟨b, 4, none⟩) h.lt hS).trans h.c4,
   (ho.frozen (p := ⟨b, 0, none⟩) h.lt hS).trans h.f0, (ho.frozen (p := ⟨b, 1, none⟩) h.lt hS).trans h.f1, (ho.frozen (p := ⟨b, 2, none⟩) h.lt hS).trans h.f2, (ho.frozen (p := ⟨b, 3, none⟩) h.lt hS).trans h.f3, (ho.frozen (p := ⟨b, 4, none⟩) h.lt hS).trans h.f4, Nat.lt_of_lt_of_le h.lt ho.size⟩
theorem TB.more {w w' : World} {b : Nat} {v0 v1 v2 v3 v4 : Value} (h : TB w b v0 v1 v2 v3 v4) (ho : Only (fun _ => False) w w') : TB w' b v0 v1 v2 v3 v4 := h.kept ho (fun h => h)
theorem TB.new (w : World) (v0 v1 v2 v3 v4 : Value) : TB (w.alloc (.cells #[v0, v1, v2, v3, v4] 62)) w.heap.size v0 v1 v2 v3 v4 :=
  ⟨by simp, by simp, by simp, by simp, by simp, by simp, by simp, by simp, by simp, by simp, by simp⟩
theorem quiet_only {f : Nat} {a : Array Value} {w : World} {r : Ending} (h : Calls Tryz.prog f a w fun e w' => e = r ∧ w' = w) : Calls Tryz.prog f a w fun e w' => e = r ∧ Only (fun _ => False) w w' :=
  h.mono (fun e w' ⟨h1, h2⟩ => ⟨h1, by rw [h2]; exact Only.refl _ _⟩)
theorem four {z : Int} (h : 0 ≤ z) (k : z < 4) : z = 0 ∨ z = 1 ∨ z = 2 ∨ z = 3 := by omega
set_option maxRecDepth 100000 in
set_option maxHeartbeats 1600000 in
theorem status_any (w : World) (V : Vw) (q : Lo) (x : Int) (h : Sn w V q) (hx : I64 x) :
    Calls Tryz.prog 104 #[.agg #[.int .i64 V.m, .int .i64 V.next, .slice q.aA V.act.length q.cA, .int .i64 V.own, .slice q.aR V.run.length q.cR, .int .i64 V.pg.lsn, .int .i64 V.pg.kind, .int .i64 V.pg.level, .int .i64 V.pg.right, .string V.pg.high, .slice q.aP V.pg.items.length q.cP], .int .i64 x] w fun e w' => e = .returned (.int .u8 (vsi V x)) ∧ Only (fun _ => False) w w' := by
  have C0 := hide (fun W (h : Sn W V q) => quiet_only (scontains_any W q.bR q.cR q.aR V.run x h.run))
  have C1 := hide (fun W (h : Sn W V q) => cget_any W V.m V.pg.lsn V.pg.kind V.pg.level V.pg.right x V.pg.high q.cP q.bP q.aP V.pg.items h.m hx h.pg)
  have HN := hide h
  clear h hx
  have HB := hide (VB.new w (.int .i64 V.m) (.int .i64 V.next) (.slice q.aA V.act.length q.cA) (.int .i64 V.own) (.slice q.aR V.run.length q.cR) (.int .i64 V.pg.lsn) (.int .i64 V.pg.kind) (.int .i64 V.pg.level) (.int .i64 V.pg.right) (.string V.pg.high) (.slice q.aP V.pg.items.length q.cP))
  have HO := hide (onlyA w (.cells #[.int .i64 V.m, .int .i64 V.next, .slice q.aA V.act.length q.cA, .int .i64 V.own, .slice q.aR V.run.length q.cR, .int .i64 V.pg.lsn, .int .i64 V.pg.kind, .int .i64 V.pg.level, .int .i64 V.pg.right, .string V.pg.high, .slice q.aP V.pg.items.length q.cP] 32))
  by_cases hr : x ∈ V.run
  ·
    rw [decide_eq_true hr] at C0
    have hv : vsi V x = 1 := by unfold vsi; rw [if_pos hr]
    rw [hv]
    clear hr hv
    go_enter Tryz.func104, Tryz.ntmps104
    go_upto_region 1 with fail
    obtain ⟨W0, hW0⟩ : ∃ W, w.alloc (.cells #[.int .i64 V.m, .int .i64 V.next, .slice q.aA V.act.length q.cA, .int .i64 V.own, .slice q.aR V.run.length q.cR, .int .i64 V.pg.lsn, .int .i64 V.pg.kind, .int .i64 V.pg.level, .int .i64 V.pg.right, .string V.pg.high, .slice q.aP V.pg.items.length q.cP] 32) = W := ⟨_, rfl⟩
    rw [hW0] at HB HO ⊢
    clear hW0
    obtain ⟨vc0, vc1, vc2, vc3, vc4, vc5, vc6, vc7, vc8, vc9, vc10, vf0, vf1, vf2, vf3, vf4, vf5, vf6, vf7, vf8, vf9, vf10, vlt⟩ := HB.out
    clear vf0 vf1 vf2 vf3 vf4 vf5 vf6 vf7 vf8 vf9 vf10
    go_wp2_with fail
    refine (C0.out _ (HN.out.more HO.out)).mono ?_
    rintro e w1 ⟨rfl, ho⟩
    clear vc0 vc1 vc2 vc3 vc4 vc5 vc6 vc7 vc8 vc9 vc10 vlt
    have HB := hide (HB.out.more ho)
    have HO := hide (o2 HO.out ho)
    clear ho
    obtain ⟨vc0, vc1, vc2, vc3, vc4, vc5, vc6, vc7, vc8, vc9, vc10, vf0, vf1, vf2, vf3, vf4, vf5, vf6, vf7, vf8, vf9, vf10, vlt⟩ := HB.out
    clear vf0 vf1 vf2 vf3 vf4 vf5 vf6 vf7 vf8 vf9 vf10
    go_wp2_with fail
    go_ret
    exact ⟨rfl, HO.out⟩
  ·
    rw [decide_eq_false hr] at C0
    have hv : vsi V x = (gst V.m V.pg x : Int) := by unfold vsi; rw [if_neg hr]
    rw [hv]
    clear hr hv
    go_enter Tryz.func104, Tryz.ntmps104
    go_upto_region 1 with fail
    obtain ⟨W0, hW0⟩ : ∃ W, w.alloc (.cells #[.int .i64 V.m, .int .i64 V.next, .slice q.aA V.act.length q.cA, .int .i64 V.own, .slice q.aR V.run.length q.cR, .int .i64 V.pg.lsn, .int .i64 V.pg.kind, .int .i64 V.pg.level, .int .i64 V.pg.right, .string V.pg.high, .slice q.aP V.pg.items.length q.cP] 32) = W := ⟨_, rfl⟩
    rw [hW0] at HB HO ⊢
    clear hW0
    obtain ⟨vc0, vc1, vc2, vc3, vc4, vc5, vc6, vc7, vc8, vc9, vc10, vf0, vf1, vf2, vf3, vf4, vf5, vf6, vf7, vf8, vf9, vf10, vlt⟩ := HB.out
    clear vf0 vf1 vf2 vf3 vf4 vf5 vf6 vf7 vf8 vf9 vf10
    go_wp2_with fail
    refine (C0.out _ (HN.out.more HO.out)).mono ?_
    rintro e w2 ⟨rfl, ho⟩
    clear vc0 vc1 vc2 vc3 vc4 vc5 vc6 vc7 vc8 vc9 vc10 vlt
    have HB := hide (HB.out.more ho)
    have HO := hide (o2 HO.out ho)
    clear ho
    obtain ⟨vc0, vc1, vc2, vc3, vc4, vc5, vc6, vc7, vc8, vc9, vc10, vf0, vf1, vf2, vf3, vf4, vf5, vf6, vf7, vf8, vf9, vf10, vlt⟩ := HB.out
    clear vf0 vf1 vf2 vf3 vf4 vf5 vf6 vf7 vf8 vf9 vf10
    go_wp2_with fail
    refine (C1.out _ (HN.out.more HO.out)).mono ?_
    rintro e w3 ⟨rfl, ho⟩
    clear vc0 vc1 vc2 vc3 vc4 vc5 vc6 vc7 vc8 vc9 vc10 vlt
    have HB := hide (HB.out.more ho)
    have HO := hide (o2 HO.out ho)
    clear ho
    obtain ⟨vc0, vc1, vc2, vc3, vc4, vc5, vc6, vc7, vc8, vc9, vc10, vf0, vf1, vf2, vf3, vf4, vf5, vf6, vf7, vf8, vf9, vf10, vlt⟩ := HB.out
    clear vf0 vf1 vf2 vf3 vf4 vf5 vf6 vf7 vf8 vf9 vf10
    go_wp2_with fail
    go_ret
    exact ⟨rfl, HO.out⟩
set_option maxRecDepth 100000 in
set_option maxHeartbeats 1600000 in
theorem isCom_any (w : World) (V : Vw) (q : Lo) (x : Int) (h : Sn w V q) (hx : I64 x) :
    Calls Tryz.prog 102 #[.agg #[.int .i64 V.m, .int .i64 V.next, .slice q.aA V.act.length q.cA, .int .i64 V.own, .slice q.aR V.run.length q.cR, .int .i64 V.pg.lsn, .int .i64 V.pg.kind, .int .i64 V.pg.level, .int .i64 V.pg.right, .string V.pg.high, .slice q.aP V.pg.items.length q.cP], .int .i64 x] w fun e w' => e = .returned (.bool (vcom V x)) ∧ Only (fun _ => False) w w' := by
  have C0 := hide (fun W (h : Sn W V q) => status_any W V q x h hx)
  simp only [vcom]
  obtain ⟨b0, hb0⟩ : ∃ b, vsi V x = b := ⟨_, rfl⟩
  have hs0 : 0 ≤ b0 ∧ b0 < 4 := by rw [← hb0]; exact vsi_bd _ _
  simp only [hb0] at C0 ⊢
  clear hb0
  have HN := hide h
  clear h hx
  have HB := hide (VB.new w (.int .i64 V.m) (.int .i64 V.next) (.slice q.aA V.act.length q.cA) (.int .i64 V.own) (.slice q.aR V.run.length q.cR) (.int .i64 V.pg.lsn) (.int .i64 V.pg.kind) (.int .i64 V.pg.level) (.int .i64 V.pg.right) (.string V.pg.high) (.slice q.aP V.pg.items.length q.cP))
  have HO := hide (onlyA w (.cells #[.int .i64 V.m, .int .i64 V.next, .slice q.aA V.act.length q.cA, .int .i64 V.own, .slice q.aR V.run.length q.cR, .int .i64 V.pg.lsn, .int .i64 V.pg.kind, .int .i64 V.pg.level, .int .i64 V.pg.right, .string V.pg.high, .slice q.aP V.pg.items.length q.cP] 32))
  go_enter Tryz.func102, Tryz.ntmps102
  go_upto_region 1 with fail
  obtain ⟨W0, hW0⟩ : ∃ W, w.alloc (.cells #[.int .i64 V.m, .int .i64 V.next, .slice q.aA V.act.length q.cA, .int .i64 V.own, .slice q.aR V.run.length q.cR, .int .i64 V.pg.lsn, .int .i64 V.pg.kind, .int .i64 V.pg.level, .int .i64 V.pg.right, .string V.pg.high, .slice q.aP V.pg.items.length q.cP] 32) = W := ⟨_, rfl⟩
  rw [hW0] at HB HO ⊢
  clear hW0
  obtain ⟨vc0, vc1, vc2, vc3, vc4, vc5, vc6, vc7, vc8, vc9, vc10, vf0, vf1, vf2, vf3, vf4, vf5, vf6, vf7, vf8, vf9, vf10, vlt⟩ := HB.out
  clear vf0 vf1 vf2 vf3 vf4 vf5 vf6 vf7 vf8 vf9 vf10
  go_wp2_with fail
  refine (C0.out _ (HN.out.more HO.out)).mono ?_
  rintro e w1 ⟨rfl, ho⟩
  clear vc0 vc1 vc2 vc3 vc4 vc5 vc6 vc7 vc8 vc9 vc10 vlt
  have HB := hide (HB.out.more ho)
  have HO := hide (o2 HO.out ho)
  clear ho
  rcases four hs0.1 hs0.2 with rfl | rfl | rfl | rfl
  · clear hs0
    obtain ⟨vc0, vc1, vc2, vc3, vc4, vc5, vc6, vc7, vc8, vc9, vc10, vf0, vf1, vf2, vf3, vf4, vf5, vf6, vf7, vf8, vf9, vf10, vlt⟩ := HB.out
    clear vf0 vf1 vf2 vf3 vf4 vf5 vf6 vf7 vf8 vf9 vf10
    go_wp2_with fail
    go_ret
    exact ⟨rfl, HO.out⟩
  · clear hs0
    obtain ⟨vc0, vc1, vc2, vc3, vc4, vc5, vc6, vc7, vc8, vc9, vc10, vf0, vf1, vf2, vf3, vf4, vf5, vf6, vf7, vf8, vf9, vf10, vlt⟩ := HB.out
    clear vf0 vf1 vf2 vf3 vf4 vf5 vf6 vf7 vf8 vf9 vf10
    go_wp2_with fail
    go_ret
    exact ⟨rfl, HO.out⟩
  · clear hs0
    obtain ⟨vc0, vc1, vc2, vc3, vc4, vc5, vc6, vc7, vc8, vc9, vc10, vf0, vf1, vf2, vf3, vf4, vf5, vf6, vf7, vf8, vf9, vf10, vlt⟩ := HB.out
    clear vf0 vf1 vf2 vf3 vf4 vf5 vf6 vf7 vf8 vf9 vf10
    go_wp2_with fail
    go_ret
    exact ⟨rfl, HO.out⟩
  · clear hs0
    obtain ⟨vc0, vc1, vc2, vc3, vc4, vc5, vc6, vc7, vc8, vc9, vc10, vf0, vf1, vf2, vf3, vf4, vf5, vf6, vf7, vf8, vf9, vf10, vlt⟩ := HB.out
    clear vf0 vf1 vf2 vf3 vf4 vf5 vf6 vf7 vf8 vf9 vf10
    go_wp2_with fail
    go_ret
    exact ⟨rfl, HO.out⟩
set_option maxRecDepth 100000 in
set_option maxHeartbeats 1600000 in
theorem isAbo_any (w : World) (V : Vw) (q : Lo) (x : Int) (h : Sn w V q) (hx : I64 x) :
    Calls Tryz.prog 59 #[.agg #[.int .i64 V.m, .int .i64 V.next, .slice q.aA V.act.length q.cA, .int .i64 V.own, .slice q.aR V.run.length q.cR, .int .i64 V.pg.lsn, .int .i64 V.pg.kind, .int .i64 V.pg.level, .int .i64 V.pg.right, .string V.pg.high, .slice q.aP V.pg.items.length q.cP], .int .i64 x] w fun e w' => e = .returned (.bool (vabo V x)) ∧ Only (fun _ => False) w w' := by
  have C0 := hide (fun W (h : Sn W V q) => status_any W V q x h hx)
  simp only [vabo]
  obtain ⟨b0, hb0⟩ : ∃ b, vsi V x = b := ⟨_, rfl⟩
  have hs0 : 0 ≤ b0 ∧ b0 < 4 := by rw [← hb0]; exact vsi_bd _ _
  simp only [hb0] at C0 ⊢
  clear hb0
  have HN := hide h
  clear h hx
  have HB := hide (VB.new w (.int .i64 V.m) (.int .i64 V.next) (.slice q.aA V.act.length q.cA) (.int .i64 V.own) (.slice q.aR V.run.length q.cR) (.int .i64 V.pg.lsn) (.int .i64 V.pg.kind) (.int .i64 V.pg.level) (.int .i64 V.pg.right) (.string V.pg.high) (.slice q.aP V.pg.items.length q.cP))
  have HO := hide (onlyA w (.cells #[.int .i64 V.m, .int .i64 V.next, .slice q.aA V.act.length q.cA, .int .i64 V.own, .slice q.aR V.run.length q.cR, .int .i64 V.pg.lsn, .int .i64 V.pg.kind, .int .i64 V.pg.level, .int .i64 V.pg.right, .string V.pg.high, .slice q.aP V.pg.items.length q.cP] 32))
  go_enter Tryz.func59, Tryz.ntmps59
  go_upto_region 1 with fail
  obtain ⟨W0, hW0⟩ : ∃ W, w.alloc (.cells #[.int .i64 V.m, .int .i64 V.next, .slice q.aA V.act.length q.cA, .int .i64 V.own, .slice q.aR V.run.length q.cR, .int .i64 V.pg.lsn, .int .i64 V.pg.kind, .int .i64 V.pg.level, .int .i64 V.pg.right, .string V.pg.high, .slice q.aP V.pg.items.length q.cP] 32) = W := ⟨_, rfl⟩
  rw [hW0] at HB HO ⊢
  clear hW0
  obtain ⟨vc0, vc1, vc2, vc3, vc4, vc5, vc6, vc7, vc8, vc9, vc10, vf0, vf1, vf2, vf3, vf4, vf5, vf6, vf7, vf8, vf9, vf10, vlt⟩ := HB.out
  clear vf0 vf1 vf2 vf3 vf4 vf5 vf6 vf7 vf8 vf9 vf10
  go_wp2_with fail
  refine (C0.out _ (HN.out.more HO.out)).mono ?_
  rintro e w1 ⟨rfl, ho⟩
  clear vc0 vc1 vc2 vc3 vc4 vc5 vc6 vc7 vc8 vc9 vc10 vlt
  have HB := hide (HB.out.more ho)
  have HO := hide (o2 HO.out ho)
  clear ho
  rcases four hs0.1 hs0.2 with rfl | rfl | rfl | rfl
  · clear hs0
    obtain ⟨vc0, vc1, vc2, vc3, vc4, vc5, vc6, vc7, vc8, vc9, vc10, vf0, vf1, vf2, vf3, vf4, vf5, vf6, vf7, vf8, vf9, vf10, vlt⟩ := HB.out
    clear vf0 vf1 vf2 vf3 vf4 vf5 vf6 vf7 vf8 vf9 vf10
    go_wp2_with fail
    go_ret
    exact ⟨rfl, HO.out⟩
  · clear hs0
    obtain ⟨vc0, vc1, vc2, vc3, vc4, vc5, vc6, vc7, vc8, vc9, vc10, vf0, vf1, vf2, vf3, vf4, vf5, vf6, vf7, vf8, vf9, vf10, vlt⟩ := HB.out
    clear vf0 vf1 vf2 vf3 vf4 vf5 vf6 vf7 vf8 vf9 vf10
    go_wp2_with fail
    go_ret
    exact ⟨rfl, HO.out⟩
  · clear hs0
    obtain ⟨vc0, vc1, vc2, vc3, vc4, vc5, vc6, vc7, vc8, vc9, vc10, vf0, vf1, vf2, vf3, vf4, vf5, vf6, vf7, vf8, vf9, vf10, vlt⟩ := HB.out
    clear vf0 vf1 vf2 vf3 vf4 vf5 vf6 vf7 vf8 vf9 vf10
    go_wp2_with fail
    go_ret
    exact ⟨rfl, HO.out⟩
  · clear hs0
    obtain ⟨vc0, vc1, vc2, vc3, vc4, vc5, vc6, vc7, vc8, vc9, vc10, vf0, vf1, vf2, vf3, vf4, vf5, vf6, vf7, vf8, vf9, vf10, vlt⟩ := HB.out
    clear vf0 vf1 vf2 vf3 vf4 vf5 vf6 vf7 vf8 vf9 vf10
    go_wp2_with fail
    go_ret
    exact ⟨rfl, HO.out⟩
set_option maxRecDepth 100000 in
set_option maxHeartbeats 1600000 in
theorem isPast_any (w : World) (V : Vw) (q : Lo) (x : Int) (z : Int) (h : Sn w V q) (hx : I64 x) (hz : I64 z) :
    Calls Tryz.prog 57 #[.agg #[.int .i64 V.m, .int .i64 V.next, .slice q.aA V.act.length q.cA, .int .i64 V.own, .slice q.aR V.run.length q.cR, .int .i64 V.pg.lsn, .int .i64 V.pg.kind, .int .i64 V.pg.level, .int .i64 V.pg.right, .string V.pg.high, .slice q.aP V.pg.items.length q.cP], .int .i64 x, .int .i64 z] w fun e w' => e = .returned (.bool (vpast V x z)) ∧ Only (fun _ => False) w w' := by
  have C0 := hide (fun W (h : Sn W V q) => isCom_any W V q x h hx)
  have C1 := hide (fun W (h : Sn W V q) => quiet_only (before_any V.m x z W h.m hx hz))
  simp only [vpast]
  obtain ⟨b0, hb0⟩ : ∃ b, vcom V x = b := ⟨_, rfl⟩
  obtain ⟨b1, hb1⟩ : ∃ b, xbef V.m x z = b := ⟨_, rfl⟩
  simp only [hb0, hb1] at C0 C1 ⊢
  clear hb0 hb1
  have HN := hide h
  clear h hx hz
  have HB := hide (VB.new w (.int .i64 V.m) (.int .i64 V.next) (.slice q.aA V.act.length q.cA) (.int .i64 V.own) (.slice q.aR V.run.length q.cR) (.int .i64 V.pg.lsn) (.int .i64 V.pg.kind) (.int .i64 V.pg.level) (.int .i64 V.pg.right) (.string V.pg.high) (.slice q.aP V.pg.items.length q.cP))
  have HO := hide (onlyA w (.cells #[.int .i64 V.m, .int .i64 V.next, .slice q.aA V.act.length q.cA, .int .i64 V.own, .slice q.aR V.run.length q.cR, .int .i64 V.pg.lsn, .int .i64 V.pg.kind, .int .i64 V.pg.level, .int .i64 V.pg.right, .string V.pg.high, .slice q.aP V.pg.items.length q.cP] 32))
  go_enter Tryz.func57, Tryz.ntmps57
  go_upto_region 1 with fail
  obtain ⟨W0, hW0⟩ : ∃ W, w.alloc (.cells #[.int .i64 V.m, .int .i64 V.next, .slice q.aA V.act.length q.cA, .int .i64 V.own, .slice q.aR V.run.length q.cR, .int .i64 V.pg.lsn, .int .i64 V.pg.kind, .int .i64 V.pg.level, .int .i64 V.pg.right, .string V.pg.high, .slice q.aP V.pg.items.length q.cP] 32) = W := ⟨_, rfl⟩
  rw [hW0] at HB HO ⊢
  clear hW0
  obtain ⟨vc0, vc1, vc2, vc3, vc4, vc5, vc6, vc7, vc8, vc9, vc10, vf0, vf1, vf2, vf3, vf4, vf5, vf6, vf7, vf8, vf9, vf10, vlt⟩ := HB.out
  clear vf0 vf1 vf2 vf3 vf4 vf5 vf6 vf7 vf8 vf9 vf10
  go_wp2_with fail
  refine (C0.out _ (HN.out.more HO.out)).mono ?_
  rintro e w1 ⟨rfl, ho⟩
  clear vc0 vc1 vc2 vc3 vc4 vc5 vc6 vc7 vc8 vc9 vc10 vlt
  have HB := hide (HB.out.more ho)
  have HO := hide (o2 HO.out ho)
  clear ho
  cases b0 with
  | true =>
    obtain ⟨vc0, vc1, vc2, vc3, vc4, vc5, vc6, vc7, vc8, vc9, vc10, vf0, vf1, vf2, vf3, vf4, vf5, vf6, vf7, vf8, vf9, vf10, vlt⟩ := HB.out
    clear vf0 vf1 vf2 vf3 vf4 vf5 vf6 vf7 vf8 vf9 vf10
    go_wp2_with fail
    refine (C1.out _ (HN.out.more HO.out)).mono ?_
    rintro e w2 ⟨rfl, ho⟩
    clear vc0 vc1 vc2 vc3 vc4 vc5 vc6 vc7 vc8 vc9 vc10 vlt
    have HB := hide (HB.out.more ho)
    have HO := hide (o2 HO.out ho)
    clear ho
    cases b1 with
    | true =>
      obtain ⟨vc0, vc1, vc2, vc3, vc4, vc5, vc6, vc7, vc8, vc9, vc10, vf0, vf1, vf2, vf3, vf4, vf5, vf6, vf7, vf8, vf9, vf10, vlt⟩ := HB.out
      clear vf0 vf1 vf2 vf3 vf4 vf5 vf6 vf7 vf8 vf9 vf10
      go_wp2_with fail
      go_ret
      exact ⟨rfl, HO.out⟩
    | false =>
      obtain ⟨vc0, vc1, vc2, vc3, vc4, vc5, vc6, vc7, vc8, vc9, vc10, vf0, vf1, vf2, vf3, vf4, vf5, vf6, vf7, vf8, vf9, vf10, vlt⟩ := HB.out
      clear vf0 vf1 vf2 vf3 vf4 vf5 vf6 vf7 vf8 vf9 vf10
      go_wp2_with fail
      go_ret
      exact ⟨rfl, HO.out⟩
  | false =>
    obtain ⟨vc0, vc1, vc2, vc3, vc4, vc5, vc6, vc7, vc8, vc9, vc10, vf0, vf1, vf2, vf3, vf4, vf5, vf6, vf7, vf8, vf9, vf10, vlt⟩ := HB.out
    clear vf0 vf1 vf2 vf3 vf4 vf5 vf6 vf7 vf8 vf9 vf10
    go_wp2_with fail
    go_ret
    exact ⟨rfl, HO.out⟩
set_option maxRecDepth 100000 in
set_option maxHeartbeats 1600000 in
theorem isEnded_any (w : World) (T : Tp) (_ : I64 T.xmin ∧ I64 T.xmax) :
    Calls Tryz.prog 56 #[.agg #[.int .i64 T.xmin, .int .i64 T.xmax, .bool T.fz, .string T.key, .string T.val]] w fun e w' => e = .returned (.bool (T.xmax != 0)) ∧ Only (fun _ => False) w w' := by
  have HT := hide (TB.new w (.int .i64 T.xmin) (.int .i64 T.xmax) (.bool T.fz) (.string T.key) (.string T.val))
  have HO := hide (onlyA w (.cells #[.int .i64 T.xmin, .int .i64 T.xmax, .bool T.fz, .string T.key, .string T.val] 62))
  by_cases h0 : T.xmax = 0
  ·
    have g1 : (T.xmax != 0) = false := by simp [h0]
    have g3 : (T.xmax == 0) = true := by simp [h0]
    clear h0
    rw [g1]
    go_enter Tryz.func56, Tryz.ntmps56
    go_upto_region 1 with fail
    obtain ⟨W0, hW0⟩ : ∃ W, w.alloc (.cells #[.int .i64 T.xmin, .int .i64 T.xmax, .bool T.fz, .string T.key, .string T.val] 62) = W := ⟨_, rfl⟩
    rw [hW0] at HT HO ⊢
    clear hW0
    obtain ⟨tc0, tc1, tc2, tc3, tc4, tf0, tf1, tf2, tf3, tf4, tlt⟩ := HT.out
    clear tf0 tf1 tf2 tf3 tf4
    go_wp2_with fail
    go_ret
    exact ⟨rfl, HO.out⟩
  ·
    have g1 : (T.xmax != 0) = true := by simp [h0]
    have g3 : (T.xmax == 0) = false := by simp [h0]
    clear h0
    rw [g1]
    go_enter Tryz.func56, Tryz.ntmps56
    go_upto_region 1 with fail
    obtain ⟨W0, hW0⟩ : ∃ W, w.alloc (.cells #[.int .i64 T.xmin, .int .i64 T.xmax, .bool T.fz, .string T.key, .string T.val] 62) = W := ⟨_, rfl⟩
    rw [hW0] at HT HO ⊢
    clear hW0
    obtain ⟨tc0, tc1, tc2, tc3, tc4, tf0, tf1, tf2, tf3, tf4, tlt⟩ := HT.out
    clear tf0 tf1 tf2 tf3 tf4
    go_wp2_with fail
    go_ret
    exact ⟨rfl, HO.out⟩
set_option maxRecDepth 100000 in
set_option maxHeartbeats 1600000 in
theorem never_any (w : World) (V : Vw) (q : Lo) (T : Tp) (h : Sn w V q) (ht : I64 T.xmin ∧ I64 T.xmax) :
    Calls Tryz.prog 55 #[.agg #[.int .i64 V.m, .int .i64 V.next, .slice q.aA V.act.length q.cA, .int .i64 V.own, .slice q.aR V.run.length q.cR, .int .i64 V.pg.lsn, .int .i64 V.pg.kind, .int .i64 V.pg.level, .int .i64 V.pg.right, .string V.pg.high, .slice q.aP V.pg.items.length q.cP], .agg #[.int .i64 T.xmin, .int .i64 T.xmax, .bool T.fz, .string T.key, .string T.val]] w fun e w' => e = .returned (.bool (vnever V T)) ∧ Only (fun _ => False) w w' := by
  have C0 := hide (fun W (h : Sn W V q) => isAbo_any W V q T.xmin h ht.1)
  simp only [vnever]
  obtain ⟨fz, hfz⟩ : ∃ b, T.fz = b := ⟨_, rfl⟩
  simp only [hfz] at C0 ⊢
  clear hfz
  obtain ⟨b0, hb0⟩ : ∃ b, vabo V T.xmin = b := ⟨_, rfl⟩
  simp only [hb0] at C0 ⊢
  clear hb0
  have HN := hide h
  clear h ht
  have HB := hide ((VB.new w (.int .i64 V.m) (.int .i64 V.next) (.slice q.aA V.act.length q.cA) (.int .i64 V.own) (.slice q.aR V.run.length q.cR) (.int .i64 V.pg.lsn) (.int .i64 V.pg.kind) (.int .i64 V.pg.level) (.int .i64 V.pg.right) (.string V.pg.high) (.slice q.aP V.pg.items.length q.cP)).more (onlyA _ (.cells #[.int .i64 T.xmin, .int .i64 T.xmax, .bool fz, .string T.key, .string T.val] 62)))
  have HT := hide (TB.new (w.alloc (.cells #[.int .i64 V.m, .int .i64 V.next, .slice q.aA V.act.length q.cA, .int .i64 V.own, .slice q.aR V.run.length q.cR, .int .i64 V.pg.lsn, .int .i64 V.pg.kind, .int .i64 V.pg.level, .int .i64 V.pg.right, .string V.pg.high, .slice q.aP V.pg.items.length q.cP] 32)) (.int .i64 T.xmin) (.int .i64 T.xmax) (.bool fz) (.string T.key) (.string T.val))
  have HO := hide (o2 (onlyA w (.cells #[.int .i64 V.m, .int .i64 V.next, .slice q.aA V.act.length q.cA, .int .i64 V.own, .slice q.aR V.run.length q.cR, .int .i64 V.pg.lsn, .int .i64 V.pg.kind, .int .i64 V.pg.level, .int .i64 V.pg.right, .string V.pg.high, .slice q.aP V.pg.items.length q.cP] 32)) (onlyA _ (.cells #[.int .i64 T.xmin, .int .i64 T.xmax, .bool fz, .string T.key, .string T.val] 62)))
  simp only [World.size_alloc] at HT
  cases fz with
  | true =>
    go_enter Tryz.func55, Tryz.ntmps55
    go_upto_region 1 with fail
    obtain ⟨W0, hW0⟩ : ∃ W, (w.alloc (.cells #[.int .i64 V.m, .int .i64 V.next, .slice q.aA V.act.length q.cA, .int .i64 V.own, .slice q.aR V.run.length q.cR, .int .i64 V.pg.lsn, .int .i64 V.pg.kind, .int .i64 V.pg.level, .int .i64 V.pg.right, .string V.pg.high, .slice q.aP V.pg.items.length q.cP] 32)).alloc (.cells #[.int .i64 T.xmin, .int .i64 T.xmax, .bool true, .string T.key, .string T.val] 62) = W := ⟨_, rfl⟩
    rw [hW0] at HB HT HO ⊢
    clear hW0
    obtain ⟨vc0, vc1, vc2, vc3, vc4, vc5, vc6, vc7, vc8, vc9, vc10, vf0, vf1, vf2, vf3, vf4, vf5, vf6, vf7, vf8, vf9, vf10, vlt⟩ := HB.out
    clear vf0 vf1 vf2 vf3 vf4 vf5 vf6 vf7 vf8 vf9 vf10
    obtain ⟨tc0, tc1, tc2, tc3, tc4, tf0, tf1, tf2, tf3, tf4, tlt⟩ := HT.out
    clear tf0 tf1 tf2 tf3 tf4
    go_wp2_with fail
    go_ret
    exact ⟨rfl, HO.out⟩
  | false =>
    go_enter Tryz.func55, Tryz.ntmps55
    go_upto_region 1 with fail
    obtain ⟨W0, hW0⟩ : ∃ W, (w.alloc (.cells #[.int .i64 V.m, .int .i64 V.next, .slice q.aA V.act.length q.cA, .int .i64 V.own, .slice q.aR V.run.length q.cR, .int .i64 V.pg.lsn, .int .i64 V.pg.kind, .int .i64 V.pg.level, .int .i64 V.pg.right, .string V.pg.high, .slice q.aP V.pg.items.length q.cP] 32)).alloc (.cells #[.int .i64 T.xmin, .int .i64 T.xmax, .bool false, .string T.key, .string T.val] 62) = W := ⟨_, rfl⟩
    rw [hW0] at HB HT HO ⊢
    clear hW0
    obtain ⟨vc0, vc1, vc2, vc3, vc4, vc5, vc6, vc7, vc8, vc9, vc10, vf0, vf1, vf2, vf3, vf4, vf5, vf6, vf7, vf8, vf9, vf10, vlt⟩ := HB.out
    clear vf0 vf1 vf2 vf3 vf4 vf5 vf6 vf7 vf8 vf9 vf10
    obtain ⟨tc0, tc1, tc2, tc3, tc4, tf0, tf1, tf2, tf3, tf4, tlt⟩ := HT.out
    clear tf0 tf1 tf2 tf3 tf4
    go_wp2_with fail
    refine (C0.out _ (HN.out.more HO.out)).mono ?_
    rintro e w1 ⟨rfl, ho⟩
    clear vc0 vc1 vc2 vc3 vc4 vc5 vc6 vc7 vc8 vc9 vc10 vlt tc0 tc1 tc2 tc3 tc4 tlt
    have HB := hide (HB.out.more ho)
    have HT := hide (HT.out.more ho)
    have HO := hide (o2 HO.out ho)
    clear ho
    cases b0 with
    | true =>
      obtain ⟨vc0, vc1, vc2, vc3, vc4, vc5, vc6, vc7, vc8, vc9, vc10, vf0, vf1, vf2, vf3, vf4, vf5, vf6, vf7, vf8, vf9, vf10, vlt⟩ := HB.out
      clear vf0 vf1 vf2 vf3 vf4 vf5 vf6 vf7 vf8 vf9 vf10
      obtain ⟨tc0, tc1, tc2, tc3, tc4, tf0, tf1, tf2, tf3, tf4, tlt⟩ := HT.out
      clear tf0 tf1 tf2 tf3 tf4
      go_wp2_with fail
      go_ret
      exact ⟨rfl, HO.out⟩
    | false =>
      obtain ⟨vc0, vc1, vc2, vc3, vc4, vc5, vc6, vc7, vc8, vc9, vc10, vf0, vf1, vf2, vf3, vf4, vf5, vf6, vf7, vf8, vf9, vf10, vlt⟩ := HB.out
      clear vf0 vf1 vf2 vf3 vf4 vf5 vf6 vf7 vf8 vf9 vf10
      obtain ⟨tc0, tc1, tc2, tc3, tc4, tf0, tf1, tf2, tf3, tf4, tlt⟩ := HT.out
      clear tf0 tf1 tf2 tf3 tf4
      go_wp2_with fail
      go_ret
      exact ⟨rfl, HO.out⟩
set_option maxRecDepth 100000 in
set_option maxHeartbeats 1600000 in
theorem gone_any (w : World) (V : Vw) (q : Lo) (T : Tp) (z : Int) (h : Sn w V q) (ht : I64 T.xmin ∧ I64 T.xmax) (hz : I64 z) :
    Calls Tryz.prog 24 #[.agg #[.int .i64 V.m, .int .i64 V.next, .slice q.aA V.act.length q.cA, .int .i64 V.own, .slice q.aR V.run.length q.cR, .int .i64 V.pg.lsn, .int .i64 V.pg.kind, .int .i64 V.pg.level, .int .i64 V.pg.right, .string V.pg.high, .slice q.aP V.pg.items.length q.cP], .agg #[.int .i64 T.xmin, .int .i64 T.xmax, .bool T.fz, .string T.key, .string T.val], .int .i64 z] w fun e w' => e = .returned (.bool (vgone V T z)) ∧ Only (fun _ => False) w w' := by
  have C0 := hide (fun W (h : Sn W V q) => never_any W V q T h ht)
  have C1 := hide (fun W (h : Sn W V q) => isEnded_any W T ht)
  have C2 := hide (fun W (h : Sn W V q) => isPast_any W V q T.xmax z h ht.2 hz)
  simp only [vgone]
  obtain ⟨b0, hb0⟩ : ∃ b, vnever V T = b := ⟨_, rfl⟩
  obtain ⟨b1, hb1⟩ : ∃ b, (T.xmax != 0) = b := ⟨_, rfl⟩
  obtain ⟨b2, hb2⟩ : ∃ b, vpast V T.xmax z = b := ⟨_, rfl⟩
  simp only [hb0, hb1, hb2] at C0 C1 C2 ⊢
  clear hb0 hb1 hb2
  have HN := hide h
  clear h ht hz
  have HB := hide ((VB.new w (.int .i64 V.m) (.int .i64 V.next) (.slice q.aA V.act.length q.cA) (.int .i64 V.own) (.slice q.aR V.run.length q.cR) (.int .i64 V.pg.lsn) (.int .i64 V.pg.kind) (.int .i64 V.pg.level) (.int .i64 V.pg.right) (.string V.pg.high) (.slice q.aP V.pg.items.length q.cP)).more (onlyA _ (.cells #[.int .i64 T.xmin, .int .i64 T.xmax, .bool T.fz, .string T.key, .string T.val] 62)))
  have HT := hide (TB.new (w.alloc (.cells #[.int .i64 V.m, .int .i64 V.next, .slice q.aA V.act.length q.cA, .int .i64 V.own, .slice q.aR V.run.length q.cR, .int .i64 V.pg.lsn, .int .i64 V.pg.kind, .int .i64 V.pg.level, .int .i64 V.pg.right, .string V.pg.high, .slice q.aP V.pg.items.length q.cP] 32)) (.int .i64 T.xmin) (.int .i64 T.xmax) (.bool T.fz) (.string T.key) (.string T.val))
  have HO := hide (o2 (onlyA w (.cells #[.int .i64 V.m, .int .i64 V.next, .slice q.aA V.act.length q.cA, .int .i64 V.own, .slice q.aR V.run.length q.cR, .int .i64 V.pg.lsn, .int .i64 V.pg.kind, .int .i64 V.pg.level, .int .i64 V.pg.right, .string V.pg.high, .slice q.aP V.pg.items.length q.cP] 32)) (onlyA _ (.cells #[.int .i64 T.xmin, .int .i64 T.xmax, .bool T.fz, .string T.key, .string T.val] 62)))
  simp only [World.size_alloc] at HT
  go_enter Tryz.func24, Tryz.ntmps24
  go_upto_region 1 with fail
  obtain ⟨W0, hW0⟩ : ∃ W, (w.alloc (.cells #[.int .i64 V.m, .int .i64 V.next, .slice q.aA V.act.length q.cA, .int .i64 V.own, .slice q.aR V.run.length q.cR, .int .i64 V.pg.lsn, .int .i64 V.pg.kind, .int .i64 V.pg.level, .int .i64 V.pg.right, .string V.pg.high, .slice q.aP V.pg.items.length q.cP] 32)).alloc (.cells #[.int .i64 T.xmin, .int .i64 T.xmax, .bool T.fz, .string T.key, .string T.val] 62) = W := ⟨_, rfl⟩
  rw [hW0] at HB HT HO ⊢
  clear hW0
  obtain ⟨vc0, vc1, vc2, vc3, vc4, vc5, vc6, vc7, vc8, vc9, vc10, vf0, vf1, vf2, vf3, vf4, vf5, vf6, vf7, vf8, vf9, vf10, vlt⟩ := HB.out
  clear vf0 vf1 vf2 vf3 vf4 vf5 vf6 vf7 vf8 vf9 vf10
  obtain ⟨tc0, tc1, tc2, tc3, tc4, tf0, tf1, tf2, tf3, tf4, tlt⟩ := HT.out
  clear tf0 tf1 tf2 tf3 tf4
  go_wp2_with fail
  refine (C0.out _ (HN.out.more HO.out)).mono ?_
  rintro e w1 ⟨rfl, ho⟩
  clear vc0 vc1 vc2 vc3 vc4 vc5 vc6 vc7 vc8 vc9 vc10 vlt tc0 tc1 tc2 tc3 tc4 tlt
  have HB := hide (HB.out.more ho)
  have HT := hide (HT.out.more ho)
  have HO := hide (o2 HO.out ho)
  clear ho
  cases b0 with
  | true =>
    obtain ⟨vc0, vc1, vc2, vc3, vc4, vc5, vc6, vc7, vc8, vc9, vc10, vf0, vf1, vf2, vf3, vf4, vf5, vf6, vf7, vf8, vf9, vf10, vlt⟩ := HB.out
    clear vf0 vf1 vf2 vf3 vf4 vf5 vf6 vf7 vf8 vf9 vf10
    obtain ⟨tc0, tc1, tc2, tc3, tc4, tf0, tf1, tf2, tf3, tf4, tlt⟩ := HT.out
    clear tf0 tf1 tf2 tf3 tf4
    go_wp2_with fail
    go_ret
    exact ⟨rfl, HO.out⟩
  | false =>
    obtain ⟨vc0, vc1, vc2, vc3, vc4, vc5, vc6, vc7, vc8, vc9, vc10, vf0, vf1, vf2, vf3, vf4, vf5, vf6, vf7, vf8, vf9, vf10, vlt⟩ := HB.out
    clear vf0 vf1 vf2 vf3 vf4 vf5 vf6 vf7 vf8 vf9 vf10
    obtain ⟨tc0, tc1, tc2, tc3, tc4, tf0, tf1, tf2, tf3, tf4, tlt⟩ := HT.out
    clear tf0 tf1 tf2 tf3 tf4
    go_wp2_with fail
    refine (C1.out _ (HN.out.more HO.out)).mono ?_
    rintro e w2 ⟨rfl, ho⟩
    clear vc0 vc1 vc2 vc3 vc4 vc5 vc6 vc7 vc8 vc9 vc10 vlt tc0 tc1 tc2 tc3 tc4 tlt
    have HB := hide (HB.out.more ho)
    have HT := hide (HT.out.more ho)
    have HO := hide (o2 HO.out ho)
    clear ho
    cases b1 with
    | true =>
      obtain ⟨vc0, vc1, vc2, vc3, vc4, vc5, vc6, vc7, vc8, vc9, vc10, vf0, vf1, vf2, vf3, vf4, vf5, vf6, vf7, vf8, vf9, vf10, vlt⟩ := HB.out
      clear vf0 vf1 vf2 vf3 vf4 vf5 vf6 vf7 vf8 vf9 vf10
      obtain ⟨tc0, tc1, tc2, tc3, tc4, tf0, tf1, tf2, tf3, tf4, tlt⟩ := HT.out
      clear tf0 tf1 tf2 tf3 tf4
      go_wp2_with fail
      refine (C2.out _ (HN.out.more HO.out)).mono ?_
      rintro e w3 ⟨rfl, ho⟩
      clear vc0 vc1 vc2 vc3 vc4 vc5 vc6 vc7 vc8 vc9 vc10 vlt tc0 tc1 tc2 tc3 tc4 tlt
      have HB := hide (HB.out.more ho)
      have HT := hide (HT.out.more ho)
      have HO := hide (o2 HO.out ho)
      clear ho
      cases b2 with
      | true =>
        obtain ⟨vc0, vc1, vc2, vc3, vc4, vc5, vc6, vc7, vc8, vc9, vc10, vf0, vf1, vf2, vf3, vf4, vf5, vf6, vf7, vf8, vf9, vf10, vlt⟩ := HB.out
        clear vf0 vf1 vf2 vf3 vf4 vf5 vf6 vf7 vf8 vf9 vf10
        obtain ⟨tc0, tc1, tc2, tc3, tc4, tf0, tf1, tf2, tf3, tf4, tlt⟩ := HT.out
        clear tf0 tf1 tf2 tf3 tf4
        go_wp2_with fail
        go_ret
        exact ⟨rfl, HO.out⟩
      | false =>
        obtain ⟨vc0, vc1, vc2, vc3, vc4, vc5, vc6, vc7, vc8, vc9, vc10, vf0, vf1, vf2, vf3, vf4, vf5, vf6, vf7, vf8, vf9, vf10, vlt⟩ := HB.out
        clear vf0 vf1 vf2 vf3 vf4 vf5 vf6 vf7 vf8 vf9 vf10
        obtain ⟨tc0, tc1, tc2, tc3, tc4, tf0, tf1, tf2, tf3, tf4, tlt⟩ := HT.out
        clear tf0 tf1 tf2 tf3 tf4
        go_wp2_with fail
        go_ret
        exact ⟨rfl, HO.out⟩
    | false =>
      obtain ⟨vc0, vc1, vc2, vc3, vc4, vc5, vc6, vc7, vc8, vc9, vc10, vf0, vf1, vf2, vf3, vf4, vf5, vf6, vf7, vf8, vf9, vf10, vlt⟩ := HB.out
      clear vf0 vf1 vf2 vf3 vf4 vf5 vf6 vf7 vf8 vf9 vf10
      obtain ⟨tc0, tc1, tc2, tc3, tc4, tf0, tf1, tf2, tf3, tf4, tlt⟩ := HT.out
      clear tf0 tf1 tf2 tf3 tf4
      go_wp2_with fail
      go_ret
      exact ⟨rfl, HO.out⟩
set_option maxRecDepth 100000 in
set_option maxHeartbeats 1600000 in
theorem old_any (w : World) (V : Vw) (q : Lo) (T : Tp) (z : Int) (h : Sn w V q) (ht : I64 T.xmin ∧ I64 T.xmax) (hz : I64 z) :
    Calls Tryz.prog 27 #[.agg #[.int .i64 V.m, .int .i64 V.next, .slice q.aA V.act.length q.cA, .int .i64 V.own, .slice q.aR V.run.length q.cR, .int .i64 V.pg.lsn, .int .i64 V.pg.kind, .int .i64 V.pg.level, .int .i64 V.pg.right, .string V.pg.high, .slice q.aP V.pg.items.length q.cP], .agg #[.int .i64 T.xmin, .int .i64 T.xmax, .bool T.fz, .string T.key, .string T.val], .int .i64 z] w fun e w' => e = .returned (.bool (vold V T z)) ∧ Only (fun _ => False) w w' := by
  have C0 := hide (fun W (h : Sn W V q) => isPast_any W V q T.xmin z h ht.1 hz)
  simp only [vold]
  obtain ⟨fz, hfz⟩ : ∃ b, T.fz = b := ⟨_, rfl⟩
  simp only [hfz] at C0 ⊢
  clear hfz
  obtain ⟨b0, hb0⟩ : ∃ b, vpast V T.xmin z = b := ⟨_, rfl⟩
  simp only [hb0] at C0 ⊢
  clear hb0
  have HN := hide h
  clear h ht hz
  have HB := hide ((VB.new w (.int .i64 V.m) (.int .i64 V.next) (.slice q.aA V.act.length q.cA) (.int .i64 V.own) (.slice q.aR V.run.length q.cR) (.int .i64 V.pg.lsn) (.int .i64 V.pg.kind) (.int .i64 V.pg.level) (.int .i64 V.pg.right) (.string V.pg.high) (.slice q.aP V.pg.items.length q.cP)).more (onlyA _ (.cells #[.int .i64 T.xmin, .int .i64 T.xmax, .bool fz, .string T.key, .string T.val] 62)))
  have HT := hide (TB.new (w.alloc (.cells #[.int .i64 V.m, .int .i64 V.next, .slice q.aA V.act.length q.cA, .int .i64 V.own, .slice q.aR V.run.length q.cR, .int .i64 V.pg.lsn, .int .i64 V.pg.kind, .int .i64 V.pg.level, .int .i64 V.pg.right, .string V.pg.high, .slice q.aP V.pg.items.length q.cP] 32)) (.int .i64 T.xmin) (.int .i64 T.xmax) (.bool fz) (.string T.key) (.string T.val))
  have HO := hide (o2 (onlyA w (.cells #[.int .i64 V.m, .int .i64 V.next, .slice q.aA V.act.length q.cA, .int .i64 V.own, .slice q.aR V.run.length q.cR, .int .i64 V.pg.lsn, .int .i64 V.pg.kind, .int .i64 V.pg.level, .int .i64 V.pg.right, .string V.pg.high, .slice q.aP V.pg.items.length q.cP] 32)) (onlyA _ (.cells #[.int .i64 T.xmin, .int .i64 T.xmax, .bool fz, .string T.key, .string T.val] 62)))
  simp only [World.size_alloc] at HT
  cases fz with
  | true =>
    go_enter Tryz.func27, Tryz.ntmps27
    go_upto_region 1 with fail
    obtain ⟨W0, hW0⟩ : ∃ W, (w.alloc (.cells #[.int .i64 V.m, .int .i64 V.next, .slice q.aA V.act.length q.cA, .int .i64 V.own, .slice q.aR V.run.length q.cR, .int .i64 V.pg.lsn, .int .i64 V.pg.kind, .int .i64 V.pg.level, .int .i64 V.pg.right, .string V.pg.high, .slice q.aP V.pg.items.length q.cP] 32)).alloc (.cells #[.int .i64 T.xmin, .int .i64 T.xmax, .bool true, .string T.key, .string T.val] 62) = W := ⟨_, rfl⟩
    rw [hW0] at HB HT HO ⊢
    clear hW0
    obtain ⟨vc0, vc1, vc2, vc3, vc4, vc5, vc6, vc7, vc8, vc9, vc10, vf0, vf1, vf2, vf3, vf4, vf5, vf6, vf7, vf8, vf9, vf10, vlt⟩ := HB.out
    clear vf0 vf1 vf2 vf3 vf4 vf5 vf6 vf7 vf8 vf9 vf10
    obtain ⟨tc0, tc1, tc2, tc3, tc4, tf0, tf1, tf2, tf3, tf4, tlt⟩ := HT.out
    clear tf0 tf1 tf2 tf3 tf4
    go_wp2_with fail
    go_ret
    exact ⟨rfl, HO.out⟩
  | false =>
    go_enter Tryz.func27, Tryz.ntmps27
    go_upto_region 1 with fail
    obtain ⟨W0, hW0⟩ : ∃ W, (w.alloc (.cells #[.int .i64 V.m, .int .i64 V.next, .slice q.aA V.act.length q.cA, .int .i64 V.own, .slice q.aR V.run.length q.cR, .int .i64 V.pg.lsn, .int .i64 V.pg.kind, .int .i64 V.pg.level, .int .i64 V.pg.right, .string V.pg.high, .slice q.aP V.pg.items.length q.cP] 32)).alloc (.cells #[.int .i64 T.xmin, .int .i64 T.xmax, .bool false, .string T.key, .string T.val] 62) = W := ⟨_, rfl⟩
    rw [hW0] at HB HT HO ⊢
    clear hW0
    obtain ⟨vc0, vc1, vc2, vc3, vc4, vc5, vc6, vc7, vc8, vc9, vc10, vf0, vf1, vf2, vf3, vf4, vf5, vf6, vf7, vf8, vf9, vf10, vlt⟩ := HB.out
    clear vf0 vf1 vf2 vf3 vf4 vf5 vf6 vf7 vf8 vf9 vf10
    obtain ⟨tc0, tc1, tc2, tc3, tc4, tf0, tf1, tf2, tf3, tf4, tlt⟩ := HT.out
    clear tf0 tf1 tf2 tf3 tf4
    go_wp2_with fail
    refine (C0.out _ (HN.out.more HO.out)).mono ?_
    rintro e w1 ⟨rfl, ho⟩
    clear vc0 vc1 vc2 vc3 vc4 vc5 vc6 vc7 vc8 vc9 vc10 vlt tc0 tc1 tc2 tc3 tc4 tlt
    have HB := hide (HB.out.more ho)
    have HT := hide (HT.out.more ho)
    have HO := hide (o2 HO.out ho)
    clear ho
    cases b0 with
    | true =>
      obtain ⟨vc0, vc1, vc2, vc3, vc4, vc5, vc6, vc7, vc8, vc9, vc10, vf0, vf1, vf2, vf3, vf4, vf5, vf6, vf7, vf8, vf9, vf10, vlt⟩ := HB.out
      clear vf0 vf1 vf2 vf3 vf4 vf5 vf6 vf7 vf8 vf9 vf10
      obtain ⟨tc0, tc1, tc2, tc3, tc4, tf0, tf1, tf2, tf3, tf4, tlt⟩ := HT.out
      clear tf0 tf1 tf2 tf3 tf4
      go_wp2_with fail
      go_ret
      exact ⟨rfl, HO.out⟩
    | false =>
      obtain ⟨vc0, vc1, vc2, vc3, vc4, vc5, vc6, vc7, vc8, vc9, vc10, vf0, vf1, vf2, vf3, vf4, vf5, vf6, vf7, vf8, vf9, vf10, vlt⟩ := HB.out
      clear vf0 vf1 vf2 vf3 vf4 vf5 vf6 vf7 vf8 vf9 vf10
      obtain ⟨tc0, tc1, tc2, tc3, tc4, tf0, tf1, tf2, tf3, tf4, tlt⟩ := HT.out
      clear tf0 tf1 tf2 tf3 tf4
      go_wp2_with fail
      go_ret
      exact ⟨rfl, HO.out⟩
set_option maxRecDepth 100000 in
set_option maxHeartbeats 1600000 in
theorem off_any (w : World) (V : Vw) (q : Lo) (T : Tp) (h : Sn w V q) (ht : I64 T.xmin ∧ I64 T.xmax) :
    Calls Tryz.prog 28 #[.agg #[.int .i64 V.m, .int .i64 V.next, .slice q.aA V.act.length q.cA, .int .i64 V.own, .slice q.aR V.run.length q.cR, .int .i64 V.pg.lsn, .int .i64 V.pg.kind, .int .i64 V.pg.level, .int .i64 V.pg.right, .string V.pg.high, .slice q.aP V.pg.items.length q.cP], .agg #[.int .i64 T.xmin, .int .i64 T.xmax, .bool T.fz, .string T.key, .string T.val]] w fun e w' => e = .returned (.bool (voff V T)) ∧ Only (fun _ => False) w w' := by
  have C0 := hide (fun W (h : Sn W V q) => isEnded_any W T ht)
  have C1 := hide (fun W (h : Sn W V q) => isAbo_any W V q T.xmax h ht.2)
  simp only [voff]
  obtain ⟨b0, hb0⟩ : ∃ b, (T.xmax != 0) = b := ⟨_, rfl⟩
  obtain ⟨b1, hb1⟩ : ∃ b, vabo V T.xmax = b := ⟨_, rfl⟩
  simp only [hb0, hb1] at C0 C1 ⊢
  clear hb0 hb1
  have HN := hide h
  clear h ht
  have HB := hide ((VB.new w (.int .i64 V.m) (.int .i64 V.next) (.slice q.aA V.act.length q.cA) (.int .i64 V.own) (.slice q.aR V.run.length q.cR) (.int .i64 V.pg.lsn) (.int .i64 V.pg.kind) (.int .i64 V.pg.level) (.int .i64 V.pg.right) (.string V.pg.high) (.slice q.aP V.pg.items.length q.cP)).more (onlyA _ (.cells #[.int .i64 T.xmin, .int .i64 T.xmax, .bool T.fz, .string T.key, .string T.val] 62)))
  have HT := hide (TB.new (w.alloc (.cells #[.int .i64 V.m, .int .i64 V.next, .slice q.aA V.act.length q.cA, .int .i64 V.own, .slice q.aR V.run.length q.cR, .int .i64 V.pg.lsn, .int .i64 V.pg.kind, .int .i64 V.pg.level, .int .i64 V.pg.right, .string V.pg.high, .slice q.aP V.pg.items.length q.cP] 32)) (.int .i64 T.xmin) (.int .i64 T.xmax) (.bool T.fz) (.string T.key) (.string T.val))
  have HO := hide (o2 (onlyA w (.cells #[.int .i64 V.m, .int .i64 V.next, .slice q.aA V.act.length q.cA, .int .i64 V.own, .slice q.aR V.run.length q.cR, .int .i64 V.pg.lsn, .int .i64 V.pg.kind, .int .i64 V.pg.level, .int .i64 V.pg.right, .string V.pg.high, .slice q.aP V.pg.items.length q.cP] 32)) (onlyA _ (.cells #[.int .i64 T.xmin, .int .i64 T.xmax, .bool T.fz, .string T.key, .string T.val] 62)))
  simp only [World.size_alloc] at HT
  go_enter Tryz.func28, Tryz.ntmps28
  go_upto_region 1 with fail
  obtain ⟨W0, hW0⟩ : ∃ W, (w.alloc (.cells #[.int .i64 V.m, .int .i64 V.next, .slice q.aA V.act.length q.cA, .int .i64 V.own, .slice q.aR V.run.length q.cR, .int .i64 V.pg.lsn, .int .i64 V.pg.kind, .int .i64 V.pg.level, .int .i64 V.pg.right, .string V.pg.high, .slice q.aP V.pg.items.length q.cP] 32)).alloc (.cells #[.int .i64 T.xmin, .int .i64 T.xmax, .bool T.fz, .string T.key, .string T.val] 62) = W := ⟨_, rfl⟩
  rw [hW0] at HB HT HO ⊢
  clear hW0
  obtain ⟨vc0, vc1, vc2, vc3, vc4, vc5, vc6, vc7, vc8, vc9, vc10, vf0, vf1, vf2, vf3, vf4, vf5, vf6, vf7, vf8, vf9, vf10, vlt⟩ := HB.out
  clear vf0 vf1 vf2 vf3 vf4 vf5 vf6 vf7 vf8 vf9 vf10
  obtain ⟨tc0, tc1, tc2, tc3, tc4, tf0, tf1, tf2, tf3, tf4, tlt⟩ := HT.out
  clear tf0 tf1 tf2 tf3 tf4
  go_wp2_with fail
  refine (C0.out _ (HN.out.more HO.out)).mono ?_
  rintro e w1 ⟨rfl, ho⟩
  clear vc0 vc1 vc2 vc3 vc4 vc5 vc6 vc7 vc8 vc9 vc10 vlt tc0 tc1 tc2 tc3 tc4 tlt
  have HB := hide (HB.out.more ho)
  have HT := hide (HT.out.more ho)
  have HO := hide (o2 HO.out ho)
  clear ho
  cases b0 with
  | true =>
    obtain ⟨vc0, vc1, vc2, vc3, vc4, vc5, vc6, vc7, vc8, vc9, vc10, vf0, vf1, vf2, vf3, vf4, vf5, vf6, vf7, vf8, vf9, vf10, vlt⟩ := HB.out
    clear vf0 vf1 vf2 vf3 vf4 vf5 vf6 vf7 vf8 vf9 vf10
    obtain ⟨tc0, tc1, tc2, tc3, tc4, tf0, tf1, tf2, tf3, tf4, tlt⟩ := HT.out
    clear tf0 tf1 tf2 tf3 tf4
    go_wp2_with fail
    refine (C1.out _ (HN.out.more HO.out)).mono ?_
    rintro e w2 ⟨rfl, ho⟩
    clear vc0 vc1 vc2 vc3 vc4 vc5 vc6 vc7 vc8 vc9 vc10 vlt tc0 tc1 tc2 tc3 tc4 tlt
    have HB := hide (HB.out.more ho)
    have HT := hide (HT.out.more ho)
    have HO := hide (o2 HO.out ho)
    clear ho
    cases b1 with
    | true =>
      obtain ⟨vc0, vc1, vc2, vc3, vc4, vc5, vc6, vc7, vc8, vc9, vc10, vf0, vf1, vf2, vf3, vf4, vf5, vf6, vf7, vf8, vf9, vf10, vlt⟩ := HB.out
      clear vf0 vf1 vf2 vf3 vf4 vf5 vf6 vf7 vf8 vf9 vf10
      obtain ⟨tc0, tc1, tc2, tc3, tc4, tf0, tf1, tf2, tf3, tf4, tlt⟩ := HT.out
      clear tf0 tf1 tf2 tf3 tf4
      go_wp2_with fail
      go_ret
      exact ⟨rfl, HO.out⟩
    | false =>
      obtain ⟨vc0, vc1, vc2, vc3, vc4, vc5, vc6, vc7, vc8, vc9, vc10, vf0, vf1, vf2, vf3, vf4, vf5, vf6, vf7, vf8, vf9, vf10, vlt⟩ := HB.out
      clear vf0 vf1 vf2 vf3 vf4 vf5 vf6 vf7 vf8 vf9 vf10
      obtain ⟨tc0, tc1, tc2, tc3, tc4, tf0, tf1, tf2, tf3, tf4, tlt⟩ := HT.out
      clear tf0 tf1 tf2 tf3 tf4
      go_wp2_with fail
      go_ret
      exact ⟨rfl, HO.out⟩
  | false =>
    obtain ⟨vc0, vc1, vc2, vc3, vc4, vc5, vc6, vc7, vc8, vc9, vc10, vf0, vf1, vf2, vf3, vf4, vf5, vf6, vf7, vf8, vf9, vf10, vlt⟩ := HB.out
    clear vf0 vf1 vf2 vf3 vf4 vf5 vf6 vf7 vf8 vf9 vf10
    obtain ⟨tc0, tc1, tc2, tc3, tc4, tf0, tf1, tf2, tf3, tf4, tlt⟩ := HT.out
    clear tf0 tf1 tf2 tf3 tf4
    go_wp2_with fail
    go_ret
    exact ⟨rfl, HO.out⟩
/-- What Dead answers. -/
def dOut (k : ByteArray) : List UInt8 := if okK k then dlay k else []
def dErr (k : ByteArray) : Int := if okK k then 0 else 110
set_option maxRecDepth 100000 in
set_option maxHeartbeats 800000 in
theorem udead_any (k : ByteArray) (w : World) :
    Calls Tryz.prog 20 #[.string k] w fun e w' => e = .returned (.tuple #[.string (str (dOut k)), .int .i64 (dErr k)]) ∧ Only (fun _ => False) w w' := by
  have HC : Hid (∀ W, Calls Tryz.prog 48 #[.string k] W fun e w' => e = .returned (.bool (okK k)) ∧ w' = W) := fun W => isKey_any k W
  unfold dOut dErr
  cases h : okK k
  · rw [h] at HC
    clear h
    go_enter Tryz.func20, Tryz.ntmps20
    go_wp2_with fail
    refine (HC.out _).mono ?_
    rintro e w0 ⟨rfl, hw⟩
    obtain rfl := hw.symm
    clear hw
    go_wp2_with fail
    go_ret2
    exact ⟨rfl, Only.refl _ _⟩
  · rw [h] at HC
    have hk := okK_iff.1 h
    have HS := hide (strs1 w k (by omega))
    have HO := hide (onlyA w (.cells #[.string k] 9))
    have HL : Hid (∀ W B, Strs W B (some ⟨B, 0, none⟩) [k] → Calls Tryz.prog 49 #[.slice (some ⟨B, 0, none⟩) 1 1] W fun e w' => e = .returned (.string (str (txL k))) ∧ Only (fun _ => False) W w') := fun W B hs => by
      have := ulaid_any W B 1 (some ⟨B, 0, none⟩) [k] hs (by simp) (fun s hs => by
        simp only [List.mem_cons, List.not_mem_nil, or_false] at hs
        subst hs
        omega)
      rw [show txsL [k] = txL k by simp [txsL]] at this
      exact this
    obtain ⟨Y, hY⟩ : ∃ Y, str (txL k) = Y := ⟨_, rfl⟩
    have sY : Y.size ≤ 25 := by rw [← hY, str_size, txL_len _ (by omega)]; omega
    have HE : Hid ((⟨#[4]⟩ : ByteArray) ++ Y = str (dlay k)) := by
      unfold Hid
      rw [← hY]
      exact str_catU [4] (txL k)
    rw [hY] at HL
    clear h hY hk
    go_enter Tryz.func20, Tryz.ntmps20
    go_wp2_with fail
    refine (HC.out _).mono ?_
    rintro e w0 ⟨rfl, hw⟩
    obtain rfl := hw.symm
    clear hw
    go_wp2_with fail
    refine (HL.out _ _ HS.out).mono ?_
    rintro e w1 ⟨rfl, ho⟩
    have HO1 := hide (o2 HO.out ho)
    clear ho
    go_wp2_with fail
    go_ret2
    exact ⟨by simp [HE.out], HO1.out⟩
/-- What deadKey and Key answer. -/
def outK (o : Option ByteArray) : Value := .tuple #[.string (o.getD ⟨#[]⟩), .bool o.isSome]
set_option maxRecDepth 100000 in
set_option maxHeartbeats 1600000 in
theorem deadKey_any (s : ByteArray) (w : World) :
    Calls Tryz.prog 101 #[.string s] w fun e w' => e = .returned (outK (deadK (bl s))) ∧ Only (fun _ => False) w w' := by
  have HC := hide (cut_any s w)
  obtain ⟨f, hf⟩ : ∃ f, fourB (bl s) = f := ⟨_, rfl⟩
  obtain ⟨D, hD⟩ : ∃ D, behind s = D := ⟨_, rfl⟩
  obtain ⟨P, hP⟩ : ∃ P, stx 24 (bl D) 0 = P := ⟨_, rfl⟩
  obtain ⟨K, hK⟩ : ∃ K, str P.1 = K := ⟨_, rfl⟩
  obtain ⟨E, hE⟩ : ∃ E, endE P.2.1 P.2.2 = E := ⟨_, rfl⟩
  obtain ⟨O, hO⟩ : ∃ O, okK K = O := ⟨_, rfl⟩
  have HOK : Hid (∀ W, Calls Tryz.prog 48 #[.string K] W fun e w' => e = .returned (.bool O) ∧ w' = W) := fun W => by
    rw [← hO]
    exact isKey_any K W
  have HDE : Hid (deadK (bl s) = if f = true ∧ E = 0 ∧ O = true then some K else none) := by
    unfold Hid
    have hfi : (bl s).head? = some 4 ↔ f = true := by
      rw [← hf]
      unfold fourB
      simp
    by_cases h4 : f = true
    · have bD : bl D = (bl s).drop 1 := by
        rw [← hD]
        unfold behind
        rw [hf, h4, if_pos rfl, ext_blU]
        exact List.take_of_length_le (by simp)
      have e0 : rdT 24 ((bl s).drop 1) = P := by rw [← hP, bD]; rfl
      unfold deadK endD
      rw [e0, hE, hK, hO]
      simp only [hfi]
    · unfold deadK
      rw [if_neg (fun h => h4 (hfi.1 h.1)), if_neg (fun h => h4 h.1)]
  rw [hf, hD] at HC
  have HP := hide hP
  have HK := hide hK
  have HE := hide hE
  have HRN := hide (Rd.new w D)
  have HON := hide (onlyA w (.cells #[.string D, .int .i64 0] 179))
  clear hf hD hP hK hE hO
  go_enter Tryz.func101, Tryz.ntmps101
  go_wp2_with fail
  refine HC.out.mono ?_
  rintro e w0 ⟨rfl, hw⟩
  obtain rfl := hw.symm
  clear hw
  go_wp2_with fail
  refine (read_any D _).mono ?_
  rintro e w0 ⟨rfl, hw⟩
  obtain rfl := hw.symm
  clear hw
  go_wp2_with fail
  refine (rtext_st _ _ D 0 24 HRN.out).mono ?_
  rintro e w1 ⟨rfl, hr1, ho1⟩
  rw [HP.out] at hr1 ⊢
  rw [HK.out]
  have HR1 := hide hr1
  have HO1 : Hid (Only (fun _ => False) w w1) := HON.out.trans ho1 (fun i hi e => by omega)
  clear hr1 ho1
  cases f
  · have HX : Hid (deadK (bl s) = none) := by unfold Hid; rw [HDE.out]; rfl
    go_wp2_with fail
    go_ret2
    exact ⟨by rw [HX.out]; rfl, HO1.out⟩
  · go_wp2_with fail
    refine (rend_st _ _ (str P.2.1) P.2.2 HR1.out).mono ?_
    rintro e w0 ⟨rfl, hw⟩
    obtain rfl := hw.symm
    clear hw
    rw [bl_str, HE.out]
    by_cases he : E = 0
    · subst he
      have HX : Hid (deadK (bl s) = if O = true then some K else none) := by unfold Hid; rw [HDE.out]; simp
      go_wp2_with fail
      refine (HOK.out _).mono ?_
      rintro e w0 ⟨rfl, hw⟩
      obtain rfl := hw.symm
      clear hw
      cases O
      · go_wp2_with fail
        go_ret2
        exact ⟨by rw [HX.out]; rfl, HO1.out⟩
      · go_wp2_with fail
        go_ret2
        exact ⟨by rw [HX.out]; rfl, HO1.out⟩
    · have he' : (E != 0) = true := by simpa using he
      have HX : Hid (deadK (bl s) = none) := by unfold Hid; rw [HDE.out, if_neg (fun h => he h.2.1)]
      clear he
      go_wp2_with fail
      go_ret2
      exact ⟨by rw [HX.out]; rfl, HO1.out⟩
set_option maxRecDepth 100000 in
set_option maxHeartbeats 1600000 in
theorem ukey_any (s : ByteArray) (w : World) :
    Calls Tryz.prog 58 #[.string s] w fun e w' => e = .returned (outK (keyT (bl s))) ∧ Only (fun _ => False) w w' := by
  have HC := hide (udecode_any s w)
  have HDK : Hid (∀ W, Calls Tryz.prog 101 #[.string s] W fun e w' => e = .returned (outK (deadK (bl s))) ∧ Only (fun _ => False) W w') := fun W => deadKey_any s W
  unfold keyT
  cases hd : decT (bl s) with
  | none =>
    rw [hd] at HC
    simp only
    unfold outT noT Tu.agg at HC
    obtain ⟨o, ho⟩ : ∃ o, deadK (bl s) = o := ⟨_, rfl⟩
    rw [ho] at HDK ⊢
    unfold outK at HDK ⊢
    clear hd ho
    simp only [Option.getD_none, Option.isSome_none] at HC
    go_enter Tryz.func58, Tryz.ntmps58
    go_wp2_with fail
    refine HC.out.mono ?_
    rintro e w1 ⟨rfl, ho1⟩
    have HO1 := hide ho1
    clear ho1
    go_wp2_with fail
    refine (HDK.out _).mono ?_
    rintro e w2 ⟨rfl, ho2⟩
    have HO2 := hide (o2 (o2 HO1.out (onlyA _ _)) ho2)
    clear ho2
    go_wp2_with fail
    go_ret2
    exact ⟨rfl, HO2.out⟩
  | some t =>
    rw [hd] at HC
    simp only
    unfold outT Tu.agg at HC
    unfold outK
    clear hd HDK
    simp only [Option.getD_some, Option.isSome_some] at HC
    go_enter Tryz.func58, Tryz.ntmps58
    go_wp2_with fail
    refine HC.out.mono ?_
    rintro e w1 ⟨rfl, ho1⟩
    have HO1 := hide ho1
    clear ho1
    go_wp2_with fail
    go_ret2
    exact ⟨rfl, o2 HO1.out (onlyA _ _)⟩
set_option maxRecDepth 100000 in
set_option maxHeartbeats 1600000 in
theorem ustate_any (s : ByteArray) (w : World) :
    Calls Tryz.prog 54 #[.string s] w fun e w' => e = .returned (.int .u8 (stT (bl s))) ∧ Only (fun _ => False) w w' := by
  have hl := bl_len s
  by_cases h0 : bl s = []
  · have e : stT (bl s) = 1 := by rw [h0]; rfl
    have es : s = ⟨#[]⟩ := bl_inj h0
    rw [e]
    subst es
    clear h0 e hl
    go_enter Tryz.func54, Tryz.ntmps54
    go_wp2_with fail
    go_ret
    exact ⟨rfl, Only.refl _ _⟩
  · have hne : s.toList.isEmpty = false := by
      rw [ByteArray.toList_eq]
      cases e : s.data.toList with
      | nil => exact absurd e h0
      | cons a r => rfl
    have HDK := hide (deadKey_any s w)
    cases hk : deadK (bl s) with
    | some k =>
      have e : stT (bl s) = 2 := by
        unfold stT
        rw [dead_dec hk, hk]
        rfl
      rw [e]
      rw [hk] at HDK
      unfold outK at HDK
      simp only [Option.getD_some, Option.isSome_some] at HDK
      clear e hk h0 hl
      go_enter Tryz.func54, Tryz.ntmps54
      go_wp2_with fail
      refine HDK.out.mono ?_
      rintro e w1 ⟨rfl, ho1⟩
      have HO1 := hide ho1
      clear ho1
      go_wp2_with fail
      go_ret
      exact ⟨rfl, HO1.out⟩
    | none =>
      have HC : Hid (∀ W, Calls Tryz.prog 53 #[.string s] W fun e w' => e = .returned (outT (decT (bl s))) ∧ Only (fun _ => False) W w') := fun W => udecode_any s W
      have e : stT (bl s) = if (decT (bl s)).isSome then 3 else 0 := by
        unfold stT
        rw [hk]
        simp [h0]
      rw [e]
      rw [hk] at HDK
      unfold outK at HDK
      simp only [Option.getD_none, Option.isSome_none] at HDK
      clear e hk h0 hl
      obtain ⟨o, ho⟩ : ∃ o, decT (bl s) = o := ⟨_, rfl⟩
      rw [ho] at HC ⊢
      clear ho
      unfold outT Tu.agg at HC
      cases o
      all_goals
        simp only [Option.getD_some, Option.isSome_some, Option.getD_none, Option.isSome_none] at HC
        go_enter Tryz.func54, Tryz.ntmps54
        go_wp2_with fail
        refine HDK.out.mono ?_
        rintro e w1 ⟨rfl, ho1⟩
        have HO1 := hide ho1
        clear ho1
        go_wp2_with fail
        refine (HC.out _).mono ?_
        rintro e w2 ⟨rfl, ho2⟩
        have HO2 := hide (o2 HO1.out ho2)
        clear ho2
        go_wp2_with fail
        go_ret
        exact ⟨rfl, o2 HO2.out (onlyA _ _)⟩
/-- A version as a view takes it. -/
def Tu.tp (t : Tu) : Tp := ⟨t.xmin, t.xmax, t.frozen, t.key, t.value⟩
/-- An item's key, if it has one. -/
def keyB (s : ByteArray) : ByteArray := (keyT (bl s)).getD ⟨#[]⟩
/-- Is it gone? -/
noncomputable def gnS (V : Vw) (h : Int) (s : ByteArray) : Bool := stT (bl s) == 2 || (match decT (bl s) with | some t => vgone V t.tp h | none => false)
/-- Is it frozen? (Of what is not gone.) -/
noncomputable def fzS (V : Vw) (h : Int) (s : ByteArray) : Bool := match decT (bl s) with | some t => vold V t.tp h | none => false
/-- Is its end taken off? -/
noncomputable def ofS (V : Vw) (s : ByteArray) : Bool := match decT (bl s) with | some t => voff V t.tp | none => false
structure Wk where
  fr : List Int
  of : List Int
  gn : List En
noncomputable def Wk.step (V : Vw) (h pg : Int) (K : Wk) (i : Nat) (s : ByteArray) : Wk :=
  if gnS V h s = true then ⟨K.fr, K.of, K.gn ++ [⟨keyB s, pg, i⟩]⟩
  else ⟨if fzS V h s = true then K.fr ++ [(i : Int)] else K.fr, if ofS V s = true then K.of ++ [(i : Int)] else K.of, K.gn⟩
/-- Of the first so many items. -/
noncomputable def wkN (V : Vw) (h pg : Int) (l : List ByteArray) : Nat → Wk
  | 0 => ⟨[], [], []⟩
  | k + 1 => if hk : k < l.length then (wkN V h pg l k).step V h pg k l[k] else wkN V h pg l k
theorem wkN_step {V : Vw} {h pg : Int} {l : List ByteArray} {k : Nat} (hk : k < l.length) : wkN V h pg l (k + 1) = (wkN V h pg l k).step V h pg k l[k] := by
  rw [wkN, dif_pos hk]
theorem wkN_len (V : Vw) (h pg : Int) (l : List ByteArray) (k : Nat) : (wkN V h pg l k).fr.length ≤ k ∧ (wkN V h pg l k).of.length ≤ k ∧ (wkN V h pg l k).gn.length ≤ k := by
  induction k with
  | zero => exact ⟨Nat.le_refl _, Nat.le_refl _, Nat.le_refl _⟩
  | succ k ih =>
    by_cases hk : k < l.length
    · rw [wkN_step hk]
      unfold Wk.step
      obtain ⟨h1, h2, h3⟩ := ih
      by_cases hg : gnS V h l[k] = true
      · rw [if_pos hg]
        refine ⟨Nat.le_succ_of_le h1, Nat.le_succ_of_le h2, ?_⟩
        rw [List.length_append]; simp; exact h3
      · rw [if_neg hg]
        refine ⟨?_, ?_, Nat.le_succ_of_le h3⟩
        · show (if _ then _ else _ : List Int).length ≤ _
          split
          · rw [List.length_append]; simp; exact h1
          · omega
        · show (if _ then _ else _ : List Int).length ≤ _
          split
          · rw [List.length_append]; simp; exact h2
          · omega
    · rw [wkN, dif_neg hk]
      omega
/-- Numbers, entries: their cells. -/
def EIi : Lyt Int := ⟨1, fun x => [.int .i64 x], fun _ => rfl, fun x u hu => by simp at hu; rcases hu with rfl; rfl⟩
def EEn : Lyt En := ⟨3, fun e => [.string e.key, .int .i64 e.page, .int .i64 e.slot], fun _ => rfl, fun x u hu => by simp at hu; rcases hu with rfl | rfl | rfl <;> rfl⟩
theorem Tryz.infoIntI : (Tryz.prog.info? 3).map (fun i => (i.zero, i.size, i.bytes)) = some (some (.int .i64 0), 1, 8) := by kernel_rfl
theorem Tryz.infoEntI : (Tryz.prog.info? 74).map (fun i => (i.zero, i.size, i.bytes)) = some (some (.agg #[.string ⟨#[]⟩, .int .i64 0, .int .i64 0]), 3, 32) := by kernel_rfl
abbrev IRw (w : World) (base : Nat) (v : Value) (L : List Int) : Prop := GRow EIi 3 w base v L
abbrev ERows (w : World) (base : Nat) (v : Value) (L : List En) : Prop := GRow EEn 74 w base v L
theorem irw_one {w : World} {base : Nat} {v : Value} {L : List Int} (h : IRw w base v L) (x : Int) (hn : L.length + 1 ≤ 4398046511104) (hb : base ≤ w.heap.size) (tr : TypeId) (c : Nat) :
    ∃ v' w', (Builtin.append_ #[25, 25] tr #[v, .slice (some ⟨w.heap.size, 0, none⟩) 1 c]).run Tryz.prog (w.alloc (.cells #[.int .i64 x] 3)) = .ok v' w' ∧ IRw w' base v' (L ++ [x]) ∧ Only (fun i => some i = v.ownBlock) w w' ∧ (v'.ownBlock = v.ownBlock ∨ ∃ k, v'.ownBlock = some k ∧ w.heap.size ≤ k) :=
  grow_one Tryz.underlying25 Tryz.infoIntI rfl h x (by omega) (by unfold maxLen; omega) hb tr c
theorem erw_one {w : World} {base : Nat} {v : Value} {L : List En} (h : ERows w base v L) (x : En) (hn : L.length + 1 ≤ 4398046511104) (hb : base ≤ w.heap.size) (tr : TypeId) (c : Nat) :
    ∃ v' w', (Builtin.append_ #[37, 37] tr #[v, .slice (some ⟨w.heap.size, 0, none⟩) 1 c]).run Tryz.prog (w.alloc (.cells #[.string x.key, .int .i64 x.page, .int .i64 x.slot] 74)) = .ok v' w' ∧ ERows w' base v' (L ++ [x]) ∧ Only (fun i => some i = v.ownBlock) w w' ∧ (v'.ownBlock = v.ownBlock ∨ ∃ k, v'.ownBlock = some k ∧ w.heap.size ≤ k) :=
  grow_one Tryz.underlying37 Tryz.infoEntI rfl h x (by omega) (by unfold maxLen; omega) hb tr c
/-- What is found, in memory: three rows, no block of which is another one's. -/
structure WkAt (w : World) (base : Nat) (v0 v1 v2 : Value) (K : Wk) : Prop where
  fr : IRw w base v0 K.fr
  of : IRw w base v1 K.of
  gn : ERows w base v2 K.gn
  n01 : ∀ k, v0.ownBlock = some k → ¬ v1.ownBlock = some k
  n02 : ∀ k, v0.ownBlock = some k → ¬ v2.ownBlock = some k
  n12 : ∀ k, v1.ownBlock = some k → ¬ v2.ownBlock = some k
theorem WkAt.kept {S : Nat → Prop} {w w' : World} {base : Nat} {v0 v1 v2 : Value} {K : Wk} (h : WkAt w base v0 v1 v2 K) (ho : Only S w w') (hS : ∀ k, base ≤ k → ¬ S k) : WkAt w' base v0 v1 v2 K :=
  ⟨h.fr.kept ho (fun k hk => hS k (h.fr.low k hk).1), h.of.kept ho (fun k hk => hS k (h.of.low k hk).1), h.gn.kept ho (fun k hk => hS k (h.gn.low k hk).1), h.n01, h.n02, h.n12⟩
theorem WkAt.more {w w' : World} {base : Nat} {v0 v1 v2 : Value} {K : Wk} (h : WkAt w base v0 v1 v2 K) (ho : Only (fun _ => False) w w') : WkAt w' base v0 v1 v2 K := h.kept ho (fun _ _ => id)
theorem WkAt.nil (w : World) (base : Nat) : WkAt w base (.slice none 0 0) (.slice none 0 0) (.slice none 0 0) ⟨[], [], []⟩ :=
  by
  refine ⟨GRow.nil _ _, GRow.nil _ _, GRow.nil _ _, ?_, ?_, ?_⟩ <;> exact fun _ h => by cases h
theorem own_ne {v v' u : Value} {n : Nat} (hn : ∀ k, v.ownBlock = some k → ¬ u.ownBlock = some k) (hu : ∀ k, u.ownBlock = some k → k < n) (h : v'.ownBlock = v.ownBlock ∨ ∃ k, v'.ownBlock = some k ∧ n ≤ k) : ∀ k, v'.ownBlock = some k → ¬ u.ownBlock = some k := fun k hk hk2 => by
  rcases h with h | ⟨j, h, hj⟩
  · exact hn k (h ▸ hk) hk2
  · rw [h] at hk
    injection hk with hk
    have := hu k hk2
    omega
/-- A row has grown, or stands as it was. -/
theorem WkAt.setFr {w w' : World} {base : Nat} {v0 v1 v2 v0' : Value} {K : Wk} {L : List Int} (h : WkAt w base v0 v1 v2 K) (hr : IRw w' base v0' L) (ho : Only (fun i => some i = v0.ownBlock) w w') (hb : v0'.ownBlock = v0.ownBlock ∨ ∃ k, v0'.ownBlock = some k ∧ w.heap.size ≤ k) : WkAt w' base v0' v1 v2 ⟨L, K.of, K.gn⟩ :=
  ⟨hr, h.of.kept ho (fun k hk e => h.n01 k e.symm hk), h.gn.kept ho (fun k hk e => h.n02 k e.symm hk), own_ne h.n01 (fun k hk => (h.of.low k hk).2) hb, own_ne h.n02 (fun k hk => (h.gn.low k hk).2) hb, h.n12⟩
theorem WkAt.setOf {w w' : World} {base : Nat} {v0 v1 v2 v1' : Value} {K : Wk} {L : List Int} (h : WkAt w base v0 v1 v2 K) (hr : IRw w' base v1' L) (ho : Only (fun i => some i = v1.ownBlock) w w') (hb : v1'.ownBlock = v1.ownBlock ∨ ∃ k, v1'.ownBlock = some k ∧ w.heap.size ≤ k) : WkAt w' base v0 v1' v2 ⟨K.fr, L, K.gn⟩ :=
  ⟨h.fr.kept ho (fun k hk e => h.n01 k hk e.symm), hr, h.gn.kept ho (fun k hk e => h.n12 k e.symm hk), fun k hk hk2 => own_ne (fun k hk hk2 => h.n01 k hk2 hk) (fun k hk => (h.fr.low k hk).2) hb k hk2 hk, h.n02, own_ne h.n12 (fun k hk => (h.gn.low k hk).2) hb⟩
theorem WkAt.setGn {w w' : World} {base : Nat} {v0 v1 v2 v2' : Value} {K : Wk} {L : List En} (h : WkAt w base v0 v1 v2 K) (hr : ERows w' base v2' L) (ho : Only (fun i => some i = v2.ownBlock) w w') (hb : v2'.ownBlock = v2.ownBlock ∨ ∃ k, v2'.ownBlock = some k ∧ w.heap.size ≤ k) : WkAt w' base v0 v1 v2' ⟨K.fr, K.of, L⟩ :=
  ⟨h.fr.kept ho (fun k hk e => h.n02 k hk e.symm), h.of.kept ho (fun k hk e => h.n12 k hk e.symm), hr, h.n01, fun k hk hk2 => own_ne (fun k hk hk2 => h.n02 k hk2 hk) (fun k hk => (h.fr.low k hk).2) hb k hk2 hk, fun k hk hk2 => own_ne (fun k hk hk2 => h.n12 k hk2 hk) (fun k hk => (h.of.low k hk).2) hb k hk2 hk⟩
end Go.Proofs.YtpnbhddmdfcjdaaGreat
namespace Go.Proofs.YtpnbhddmdfcjdaaGreat
open Go.RowKit
/-- Two numbers that a closure captured, each in its variable. -/
structure Two (w : World) (b1 b2 : Nat) (o n : Int) : Prop where
  c1 : w.cell? ⟨b1, 0, none⟩ = some (.int .i64 o)
  c2 : w.cell? ⟨b2, 0, none⟩ = some (.int .i64 n)
  l1 : b1 < w.heap.size
  l2 : b2 < w.heap.size
end Go.Proofs.YtpnbhddmdfcjdaaGreat
namespace Go.Proofs.YtpnbhddmdfcjdaaGreat
open Go.Shelf Go.Sort Go.RowKit
theorem sort_any (blk off cap : Nat) (zs : List Int) (w : World) (hH : Holds (Value.int .i64) w blk off zs.toArray) (hblk : blk < w.heap.size) (hsz : zs.length < 4611686018427387904) :
    Calls Tryz.prog 67 #[.slice (some ⟨blk, off, none⟩) zs.length cap] w fun e w' =>
      e = .returned (.tuple #[]) ∧ ∃ n os, w' = grow (putRow (Value.int .i64) (Sort.ahead w n) blk off (zs.mergeSort fun x y => decide (x ≤ y)).toArray) os :=
  Any.slices_Sort_int Tryz.lays189 blk off cap zs w hH hblk hsz
end Go.Proofs.YtpnbhddmdfcjdaaGreat
namespace Go.Proofs.YtpnbhddmdfcjdaaGreat
open Go.RowKit
abbrev Ret (f : Nat) (args : Array Value) (v : Value) : Prop := ∀ W, Calls Tryz.prog f args W fun e w' => e = .returned v ∧ Only (fun _ => False) W w'
theorem outK_some (k : ByteArray) : outK (some k) = .tuple #[.string k, .bool true] := rfl
theorem outT_some (t : Tu) : outT (some t) = .tuple #[.agg #[.int .i64 t.xmin, .int .i64 t.xmax, .bool t.frozen, .string t.key, .string t.value], .int .i64 0] := rfl
theorem outT_none : outT none = .tuple #[.agg #[.int .i64 0, .int .i64 0, .bool false, .string ⟨#[]⟩, .string ⟨#[]⟩], .int .i64 110] := rfl
theorem yieldsIf_load_pageI {ops : Array Oper} {S : World → Prop} {op : Oper} {a : Act} {v0 v1 v2 v3 v4 v5 : Value} (hw : Region.wanted op (yielded ops a.tmps) = true) (x : Operand) (ho : op.op = .load 30 x)
    (b : Nat) (hx : a.eval x = .pointer (some ⟨b, 0, none⟩)) (hS : ∀ w, S w → Pag w b v0 v1 v2 v3 v4 v5) : YieldsIf Tryz.prog ops S op (.agg #[v0, v1, v2, v3, v4, v5]) a :=
  .inl ⟨hw, fun w hw' => by
    unfold execOp
    simp only [ho, hx, Instr.loadAt, Instr.sureAddr, Sem.run_bind, Sem.run_pure, Result.andThen_ok, load_page (hS w hw')]⟩
theorem ld_status {w : World} {p : Addr} {v : Value} (h : w.cell? p = some v) : (loadVar 58 p).run Tryz.prog w = .ok v w := by simp [loadVar, go_sem, h]
/-- A page variable in block b, which alone has changed since W1: a page of statuses. -/
structure Var (m : Int) (W1 wr : World) (b : Nat) (f : Int) (p : Pg) (B : Nat) (ao : Option Addr) (cp : Nat) : Prop where
  pg : PgB wr b p B ao cp
  ne : B ≠ b
  ok : OkP m p
  lm : lim m (it0 p) = f
  lsn : p.lsn = 0
  only : Only (fun k => k = b) W1 wr
/-- A page laid into a new variable since wr. -/
structure Laid (wr wc : World) (b5 : Nat) (q : Pg) (B5 : Nat) (ao5 : Option Addr) (cp5 : Nat) : Prop where
  pg : PgB wc b5 q B5 ao5 cp5
  only : Only (fun _ => False) wr wc
  hb : wr.heap.size ≤ b5
  hB : 0 < q.items.length → wr.heap.size ≤ B5
theorem Laid.first {wr w5 : World} {q : Pg} {B5 cp5 : Nat} {ao5 : Option Addr} (hS : Strs w5 B5 ao5 q.items) (hF : Fit ao5 q.items.length cp5) (ho : Only (fun _ => False) wr w5) (hB : 0 < q.items.length → wr.heap.size ≤ B5) :
    Laid wr (w5.alloc (.cells #[.int .i64 q.lsn, .int .i64 q.kind, .int .i64 q.level, .int .i64 q.right, .string q.high, .slice ao5 q.items.length cp5] 30)) w5.heap.size q B5 ao5 cp5 :=
  ⟨PgB.new hS hF, o2 ho (onlyA _ _), ho.size, hB⟩
theorem Laid.then {wr w5 : World} {b5 : Nat} {q : Pg} {B5 cp5 : Nat} {ao5 : Option Addr} {v0 v1 v2 v3 v4 v5 : Value} (hz : Pag w5 b5 v0 v1 v2 v3 v4 v5) (hS : Strs w5 B5 ao5 q.items) (hF : Fit ao5 q.items.length cp5) (ho : Only (fun _ => False) wr w5) (hb : wr.heap.size ≤ b5) (hB : 0 < q.items.length → b5 < B5) :
    Laid wr ((((((w5.setCell ⟨b5, 0, none⟩ (.int .i64 q.lsn)).setCell ⟨b5, 1, none⟩ (.int .i64 q.kind)).setCell ⟨b5, 2, none⟩ (.int .i64 q.level)).setCell ⟨b5, 3, none⟩ (.int .i64 q.right)).setCell ⟨b5, 4, none⟩ (.string q.high)).setCell ⟨b5, 5, none⟩ (.slice ao5 q.items.length cp5)) b5 q B5 ao5 cp5 :=
  ⟨PgB.put hz hS hF (fun h => by have := hB h; omega), ho.trans (Only.six w5 b5 _ _ _ _ _ _) (fun i hi e => by omega), hb, fun h => by have := hB h; omega⟩
theorem Var.more {m : Int} {W1 wr wc : World} {b B cp : Nat} {f : Int} {p : Pg} {ao : Option Addr} (h : Var m W1 wr b f p B ao cp) (ho : Only (fun _ => False) wr wc) : Var m W1 wc b f p B ao cp :=
  ⟨h.pg.more ho, h.ne, h.ok, h.lm, h.lsn, h.only.trans ho (fun _ _ h => h.elim)⟩
theorem Var.put {m : Int} {W1 wr wc : World} {b B cp : Nat} {f : Int} {p : Pg} {ao : Option Addr} (h : Var m W1 wr b f p B ao cp) {b5 B5 cp5 : Nat} {q : Pg} {ao5 : Option Addr} (hl : Laid wr wc b5 q B5 ao5 cp5) (hok : OkP m q) (hlm : lim m (it0 q) = f) (hls : q.lsn = 0) :
    Var m W1 ((((((wc.setCell ⟨b, 0, none⟩ (.int .i64 q.lsn)).setCell ⟨b, 1, none⟩ (.int .i64 q.kind)).setCell ⟨b, 2, none⟩ (.int .i64 q.level)).setCell ⟨b, 3, none⟩ (.int .i64 q.right)).setCell ⟨b, 4, none⟩ (.string q.high)).setCell ⟨b, 5, none⟩ (.slice ao5 q.items.length cp5)) b f q B5 ao5 cp5 := by
  have hlt := h.pg.pag.lt
  have hpos : 0 < q.items.length := by rw [hok.two]; omega
  have hB := hl.hB hpos
  exact ⟨PgB.put (h.pg.pag.more hl.only) hl.pg.strs hl.pg.fit (fun _ => by omega), by omega, hok, hlm, hls, (h.only.trans hl.only (fun _ _ h => h.elim)).trans (Only.six wc b _ _ _ _ _ _) (fun _ _ e => e)⟩
theorem setC_zero {m x : Int} {p : Pg} {s : Nat} (h : setC m p x s = 0) : Idd m x ∧ OkP m p ∧ s < 4 := by
  unfold setC at h
  split at h
  · rename_i h1
    split at h
    · exact ⟨(cid_zero h1).1, (cid_zero h1).2, by omega⟩
    · omega
  · rename_i h1
    exact absurd h h1
theorem setC_bd (m : Int) (p : Pg) (x : Int) (s : Nat) : setC m p x s = 0 ∨ setC m p x s = 1 ∨ setC m p x s = 31 := by
  unfold setC
  split
  · split
    · exact .inl rfl
    · exact .inr (.inl rfl)
  · exact cid_bd m p x
theorem setR_ok {m x : Int} {p : Pg} {s : Nat} (h : setC m p x s = 0) : OkP m (setR m p x s) ∧ lim m (it0 (setR m p x s)) = lim m (it0 p) ∧ (setR m p x s).lsn = p.lsn := by
  obtain ⟨hI, hO, hs⟩ := setC_zero h
  unfold setR
  rw [if_pos h]
  exact ⟨hO.set hI hs, rfl, rfl⟩
/-- Statuses that a slice leads to, in block B. -/
structure Sds (w : World) (B : Nat) (ao : Option Addr) (n : Nat) (X : Nat → Int) (S : Nat → Nat) : Prop where
  at_ : 0 < n → ∃ o, ao = some ⟨B, o, none⟩ ∧ ∀ j, j < n → w.cell? ⟨B, o + j * 2, none⟩ = some (.int .i64 (X j)) ∧ w.cell? ⟨B, o + j * 2 + 1, none⟩ = some (.int .u8 (S j : Int))
  wf : ∀ j, j < n → I64 (X j) ∧ S j < 256
  lt : 0 < n → B < w.heap.size
  len : n < 9223372036854775808
theorem Sds.more {w w' : World} {B : Nat} {ao : Option Addr} {n : Nat} {X : Nat → Int} {S : Nat → Nat} (h : Sds w B ao n X S) (ho : Only (fun _ => False) w w') : Sds w' B ao n X S := by
  refine ⟨fun hl => ?_, h.wf, fun hl => Nat.lt_of_lt_of_le (h.lt hl) ho.size, h.len⟩
  obtain ⟨o, e, hc⟩ := h.at_ hl
  exact ⟨o, e, fun j hj => ⟨(ho.cell (p := ⟨B, o + j * 2, none⟩) (h.lt hl) (fun h => h)).trans (hc j hj).1, (ho.cell (p := ⟨B, o + j * 2 + 1, none⟩) (h.lt hl) (fun h => h)).trans (hc j hj).2⟩⟩
/-- The page of so many statuses. -/
noncomputable def sayP (m f : Int) (X : Nat → Int) (S : Nat → Nat) : Nat → Pg
  | 0 => blankP m f
  | k + 1 => if setC m (sayP m f X S k) (X k) (S k) = 0 then setR m (sayP m f X S k) (X k) (S k) else sayP m f X S k
theorem Tryz.cellsView : Tryz.prog.cellsOf 32 = 11 := by kernel_rfl
theorem load_view {w : World} {b : Nat} {v0 v1 v2 v3 v4 v5 v6 v7 v8 v9 v10 : Value} (h : VB w b v0 v1 v2 v3 v4 v5 v6 v7 v8 v9 v10) : (loadVar 32 ⟨b, 0, none⟩).run Tryz.prog w = .ok (.agg #[v0, v1, v2, v3, v4, v5, v6, v7, v8, v9, v10]) w := by
  have c0 := h.c0
  have c1 := h.c1
  have c2 := h.c2
  have c3 := h.c3
  have c4 := h.c4
  have c5 := h.c5
  have c6 := h.c6
  have c7 := h.c7
  have c8 := h.c8
  have c9 := h.c9
  have c10 := h.c10
  simp [loadVar, go_sem, c0, c1, c2, c3, c4, c5, c6, c7, c8, c9, c10]
theorem results_view {fn : Func} {p u : Tmp} (h : fn.results = #[.cell p 32, .tmp u]) {tmps : Array Value} {w : World} {b : Nat} {v0 v1 v2 v3 v4 v5 v6 v7 v8 v9 v10 : Value} (hp : tmps.getD p undef = .pointer (some ⟨b, 0, none⟩)) (hP : VB w b v0 v1 v2 v3 v4 v5 v6 v7 v8 v9 v10) :
    (results fn tmps).run Tryz.prog w = .ok (.tuple #[.agg #[v0, v1, v2, v3, v4, v5, v6, v7, v8, v9, v10], tmps.getD u undef]) w := by
  have e : (asAddr (.pointer (some ⟨b, 0, none⟩))).run Tryz.prog w = .ok ⟨b, 0, none⟩ w := rfl
  rw [results_cell_tmp h, hp, e]
  simp only [Result.andThen, load_view hP]
theorem VB.all {w : World} {b : Nat} {v0 v1 v2 v3 v4 v5 v6 v7 v8 v9 v10 : Value} (h : VB w b v0 v1 v2 v3 v4 v5 v6 v7 v8 v9 v10) (u0 u1 u2 u3 u4 u5 u6 u7 u8 u9 u10 : Value) : VB (((((((((((w.setCell ⟨b, 0, none⟩ u0).setCell ⟨b, 1, none⟩ u1).setCell ⟨b, 2, none⟩ u2).setCell ⟨b, 3, none⟩ u3).setCell ⟨b, 4, none⟩ u4).setCell ⟨b, 5, none⟩ u5).setCell ⟨b, 6, none⟩ u6).setCell ⟨b, 7, none⟩ u7).setCell ⟨b, 8, none⟩ u8).setCell ⟨b, 9, none⟩ u9).setCell ⟨b, 10, none⟩ u10) b u0 u1 u2 u3 u4 u5 u6 u7 u8 u9 u10 := by
  have h0 : VB (w.setCell ⟨b, 0, none⟩ u0) b u0 v1 v2 v3 v4 v5 v6 v7 v8 v9 v10 := by simpa using (h).setC (k := 0) u0
  have h1 : VB ((w.setCell ⟨b, 0, none⟩ u0).setCell ⟨b, 1, none⟩ u1) b u0 u1 v2 v3 v4 v5 v6 v7 v8 v9 v10 := by simpa using (h0).setC (k := 1) u1
  have h2 : VB (((w.setCell ⟨b, 0, none⟩ u0).setCell ⟨b, 1, none⟩ u1).setCell ⟨b, 2, none⟩ u2) b u0 u1 u2 v3 v4 v5 v6 v7 v8 v9 v10 := by simpa using (h1).setC (k := 2) u2
  have h3 : VB ((((w.setCell ⟨b, 0, none⟩ u0).setCell ⟨b, 1, none⟩ u1).setCell ⟨b, 2, none⟩ u2).setCell ⟨b, 3, none⟩ u3) b u0 u1 u2 u3 v4 v5 v6 v7 v8 v9 v10 := by simpa using (h2).setC (k := 3) u3
  have h4 : VB (((((w.setCell ⟨b, 0, none⟩ u0).setCell ⟨b, 1, none⟩ u1).setCell ⟨b, 2, none⟩ u2).setCell ⟨b, 3, none⟩ u3).setCell ⟨b, 4, none⟩ u4) b u0 u1 u2 u3 u4 v5 v6 v7 v8 v9 v10 := by simpa using (h3).setC (k := 4) u4
  have h5 : VB ((((((w.setCell ⟨b, 0, none⟩ u0).setCell ⟨b, 1, none⟩ u1).setCell ⟨b, 2, none⟩ u2).setCell ⟨b, 3, none⟩ u3).setCell ⟨b, 4, none⟩ u4).setCell ⟨b, 5, none⟩ u5) b u0 u1 u2 u3 u4 u5 v6 v7 v8 v9 v10 := by simpa using (h4).setC (k := 5) u5
  have h6 : VB (((((((w.setCell ⟨b, 0, none⟩ u0).setCell ⟨b, 1, none⟩ u1).setCell ⟨b, 2, none⟩ u2).setCell ⟨b, 3, none⟩ u3).setCell ⟨b, 4, none⟩ u4).setCell ⟨b, 5, none⟩ u5).setCell ⟨b, 6, none⟩ u6) b u0 u1 u2 u3 u4 u5 u6 v7 v8 v9 v10 := by simpa using (h5).setC (k := 6) u6
  have h7 : VB ((((((((w.setCell ⟨b, 0, none⟩ u0).setCell ⟨b, 1, none⟩ u1).setCell ⟨b, 2, none⟩ u2).setCell ⟨b, 3, none⟩ u3).setCell ⟨b, 4, none⟩ u4).setCell ⟨b, 5, none⟩ u5).setCell ⟨b, 6, none⟩ u6).setCell ⟨b, 7, none⟩ u7) b u0 u1 u2 u3 u4 u5 u6 u7 v8 v9 v10 := by simpa using (h6).setC (k := 7) u7
  have h8 : VB (((((((((w.setCell ⟨b, 0, none⟩ u0).setCell ⟨b, 1, none⟩ u1).setCell ⟨b, 2, none⟩ u2).setCell ⟨b, 3, none⟩ u3).setCell ⟨b, 4, none⟩ u4).setCell ⟨b, 5, none⟩ u5).setCell ⟨b, 6, none⟩ u6).setCell ⟨b, 7, none⟩ u7).setCell ⟨b, 8, none⟩ u8) b u0 u1 u2 u3 u4 u5 u6 u7 u8 v9 v10 := by simpa using (h7).setC (k := 8) u8
  have h9 : VB ((((((((((w.setCell ⟨b, 0, none⟩ u0).setCell ⟨b, 1, none⟩ u1).setCell ⟨b, 2, none⟩ u2).setCell ⟨b, 3, none⟩ u3).setCell ⟨b, 4, none⟩ u4).setCell ⟨b, 5, none⟩ u5).setCell ⟨b, 6, none⟩ u6).setCell ⟨b, 7, none⟩ u7).setCell ⟨b, 8, none⟩ u8).setCell ⟨b, 9, none⟩ u9) b u0 u1 u2 u3 u4 u5 u6 u7 u8 u9 v10 := by simpa using (h8).setC (k := 9) u9
  have h10 : VB (((((((((((w.setCell ⟨b, 0, none⟩ u0).setCell ⟨b, 1, none⟩ u1).setCell ⟨b, 2, none⟩ u2).setCell ⟨b, 3, none⟩ u3).setCell ⟨b, 4, none⟩ u4).setCell ⟨b, 5, none⟩ u5).setCell ⟨b, 6, none⟩ u6).setCell ⟨b, 7, none⟩ u7).setCell ⟨b, 8, none⟩ u8).setCell ⟨b, 9, none⟩ u9).setCell ⟨b, 10, none⟩ u10) b u0 u1 u2 u3 u4 u5 u6 u7 u8 u9 u10 := by simpa using (h9).setC (k := 10) u10
  exact h10
theorem VB.page {w : World} {b : Nat} {v0 v1 v2 v3 v4 v5 v6 v7 v8 v9 v10 : Value} (h : VB w b v0 v1 v2 v3 v4 v5 v6 v7 v8 v9 v10) (p0 p1 p2 p3 p4 p5 : Value) : VB ((((((w.setCell ⟨b, 5, none⟩ p0).setCell ⟨b, 6, none⟩ p1).setCell ⟨b, 7, none⟩ p2).setCell ⟨b, 8, none⟩ p3).setCell ⟨b, 9, none⟩ p4).setCell ⟨b, 10, none⟩ p5) b v0 v1 v2 v3 v4 p0 p1 p2 p3 p4 p5 := by
  have h0 : VB (w.setCell ⟨b, 5, none⟩ p0) b v0 v1 v2 v3 v4 p0 v6 v7 v8 v9 v10 := by simpa using (h).setC (k := 5) p0
  have h1 : VB ((w.setCell ⟨b, 5, none⟩ p0).setCell ⟨b, 6, none⟩ p1) b v0 v1 v2 v3 v4 p0 p1 v7 v8 v9 v10 := by simpa using (h0).setC (k := 6) p1
  have h2 : VB (((w.setCell ⟨b, 5, none⟩ p0).setCell ⟨b, 6, none⟩ p1).setCell ⟨b, 7, none⟩ p2) b v0 v1 v2 v3 v4 p0 p1 p2 v8 v9 v10 := by simpa using (h1).setC (k := 7) p2
  have h3 : VB ((((w.setCell ⟨b, 5, none⟩ p0).setCell ⟨b, 6, none⟩ p1).setCell ⟨b, 7, none⟩ p2).setCell ⟨b, 8, none⟩ p3) b v0 v1 v2 v3 v4 p0 p1 p2 p3 v9 v10 := by simpa using (h2).setC (k := 8) p3
  have h4 : VB (((((w.setCell ⟨b, 5, none⟩ p0).setCell ⟨b, 6, none⟩ p1).setCell ⟨b, 7, none⟩ p2).setCell ⟨b, 8, none⟩ p3).setCell ⟨b, 9, none⟩ p4) b v0 v1 v2 v3 v4 p0 p1 p2 p3 p4 v10 := by simpa using (h3).setC (k := 9) p4
  have h5 : VB ((((((w.setCell ⟨b, 5, none⟩ p0).setCell ⟨b, 6, none⟩ p1).setCell ⟨b, 7, none⟩ p2).setCell ⟨b, 8, none⟩ p3).setCell ⟨b, 9, none⟩ p4).setCell ⟨b, 10, none⟩ p5) b v0 v1 v2 v3 v4 p0 p1 p2 p3 p4 p5 := by simpa using (h4).setC (k := 10) p5
  exact h5
theorem VB.m {w : World} {b : Nat} {v0 v1 v2 v3 v4 v5 v6 v7 v8 v9 v10 : Value} (h : VB w b v0 v1 v2 v3 v4 v5 v6 v7 v8 v9 v10) (u : Value) : VB (w.setCell ⟨b, 0, none⟩ u) b u v1 v2 v3 v4 v5 v6 v7 v8 v9 v10 := by simpa using h.setC (k := 0) u
theorem Only.eleven (w : World) (b : Nat) (u0 u1 u2 u3 u4 u5 u6 u7 u8 u9 u10 : Value) : Only (fun k => k = b) w (((((((((((w.setCell ⟨b, 0, none⟩ u0).setCell ⟨b, 1, none⟩ u1).setCell ⟨b, 2, none⟩ u2).setCell ⟨b, 3, none⟩ u3).setCell ⟨b, 4, none⟩ u4).setCell ⟨b, 5, none⟩ u5).setCell ⟨b, 6, none⟩ u6).setCell ⟨b, 7, none⟩ u7).setCell ⟨b, 8, none⟩ u8).setCell ⟨b, 9, none⟩ u9).setCell ⟨b, 10, none⟩ u10) := by
  have st : ∀ (W : World) (i : Nat) (v : Value), Only (fun k => k = b) W (W.setCell ⟨b, i, none⟩ v) := fun W i v => Only.setCell W ⟨b, i, none⟩ v rfl
  exact (((((((((((st _ 0 _).trans (st _ 1 _) (fun _ _ h => h)).trans (st _ 2 _) (fun _ _ h => h)).trans (st _ 3 _) (fun _ _ h => h)).trans (st _ 4 _) (fun _ _ h => h)).trans (st _ 5 _) (fun _ _ h => h)).trans (st _ 6 _) (fun _ _ h => h)).trans (st _ 7 _) (fun _ _ h => h)).trans (st _ 8 _) (fun _ _ h => h)).trans (st _ 9 _) (fun _ _ h => h)).trans (st _ 10 _) (fun _ _ h => h))
theorem Only.pageAt (w : World) (b : Nat) (p0 p1 p2 p3 p4 p5 : Value) : Only (fun k => k = b) w ((((((w.setCell ⟨b, 5, none⟩ p0).setCell ⟨b, 6, none⟩ p1).setCell ⟨b, 7, none⟩ p2).setCell ⟨b, 8, none⟩ p3).setCell ⟨b, 9, none⟩ p4).setCell ⟨b, 10, none⟩ p5) := by
  have st : ∀ (W : World) (i : Nat) (v : Value), Only (fun k => k = b) W (W.setCell ⟨b, i, none⟩ v) := fun W i v => Only.setCell W ⟨b, i, none⟩ v rfl
  exact ((((((st _ 5 _).trans (st _ 6 _) (fun _ _ h => h)).trans (st _ 7 _) (fun _ _ h => h)).trans (st _ 8 _) (fun _ _ h => h)).trans (st _ 9 _) (fun _ _ h => h)).trans (st _ 10 _) (fun _ _ h => h))
end Go.Proofs.YtpnbhddmdfcjdaaGreat
