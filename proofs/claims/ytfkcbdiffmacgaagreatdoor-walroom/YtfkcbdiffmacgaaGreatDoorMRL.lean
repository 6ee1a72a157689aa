/- For any list of acts the statement WalRoom returns true: no room is lost; no condition on them. Go's own tables of the library hold what they are laid with. -/
import Derived.Test.YtfkcbdiffmacgaaGreatDoorMRE
namespace Go.Proofs.YtfkcbdiffmacgaaGreatDoor
open Go.RowKit

set_option maxRecDepth 100000 in
set_option maxHeartbeats 6400000 in
theorem wroom_law (w : World) (B cp : Nat) (ao : Option Addr) (L : List Wo) (hR : Wos w B ao L) : Calls Tryz.prog 3 #[.slice ao L.length cp] w fun e w' => e = .returned (.bool true) ∧ Only (fun _ => False) w w' := by
  have hlen := hR.len
  have HR := hide hR
  clear hR
  go_enter Tryz.func3, Tryz.ntmps3
  go_wp2_with fail
  refine (rm_new w).mono ?_
  rintro e w1 ⟨d, g, m, rfl, hD, ho, h1, h2, h3⟩
  have HF := hide (rm_format hD ho h1 h2 h3)
  clear hD ho h1 h2 h3
  go_wp2_with fail
  refine HF.out.mono ?_
  rintro e w2 ⟨l, rfl, hx⟩
  have HS0 := hide hx
  clear hx HF
  go_wp2_with fail
  go_loopw [7, 8] (fun k y wr => ∃ (i T K : Nat), i ≤ L.length ∧ y = .int .i64 (i : Int) ∧ k = .int .i64 (K : Int) ∧ Hid (Rm w wr l T K)) (fun _ y _ => L.length - (intOf y).toNat)
  case atStart => exact ⟨0, 1, 0, by omega, rfl, rfl, HS0⟩
  case round =>
    obtain ⟨i, T, K, hi, rfl, rfl, HS⟩ := hrel
    clear HS0
    by_cases hlt : i < L.length
    · obtain ⟨R, hR⟩ := HS.out.roomN
      have HRR := hide hR
      clear hR
      go_wp2_with fail
      refine (rm_roomN HS.out R HRR.out).mono ?_
      rintro e w3 ⟨rfl, hx⟩
      have HS3 := hide hx
      clear hx HS
      go_wp2_with fail
      refine (rm_tail HS3.out).mono ?_
      rintro e w4 ⟨rfl, hw4⟩
      obtain rfl := hw4.symm
      clear hw4
      obtain ⟨o, e1, hc⟩ := (HR.out.more HS3.out.only).at_ (by omega)
      subst e1
      have hrn := hc i hlt
      have HAT := hide ((HR.out.more HS3.out.only).each L[i] (List.getElem_mem hlt))
      have HNM := hide ((HR.out.more HS3.out.only).nums L[i] (List.getElem_mem hlt))
      obtain ⟨P, hP⟩ : ∃ P, L[i] = P := ⟨_, rfl⟩
      rw [hP] at HAT HNM hrn
      clear hc hP
      obtain ⟨ask, num, near, z, how⟩ := P
      have hca : w3.cell? ⟨B, o + i * 20, none⟩ = some (.int .i64 ask) := hrn 0 _ rfl
      have hcn : w3.cell? ⟨B, o + i * 20 + 1, none⟩ = some (.int .i64 num) := hrn 1 _ rfl
      have HRN : Hid (w3.rangeAt B (o + i * 20 + 3) (rcl z)) := fun j u hu => by
        have := hrn (3 + j) u (by
          show (Value.int .i64 ask :: .int .i64 num :: .int .i64 near :: (rcl z ++ [how]))[3 + j]? = _
          rw [show 3 + j = j + 1 + 1 + 1 by omega, List.getElem?_cons_succ, List.getElem?_cons_succ, List.getElem?_cons_succ, List.getElem?_append_left (List.getElem?_eq_some_iff.1 hu).1]
          exact hu)
        rwa [← Nat.add_assoc] at this
      have hnm := HNM.out
      have n1 : -9223372036854775808 ≤ num := hnm.2.1
      have n2 : num < 9223372036854775808 := hnm.2.2
      clear hrn hnm HNM
      have HAT' : Hid (RcAt w3 z.1 z.2) := HAT
      clear HAT
      by_cases h0 : ask = 0
      · subst h0
        clear n1 n2
        go_upto_region 16 with fail
        go_wp2_with (refine wpList_load_rc rfl (.tmp 64) rfl B (o + i * 20 + 3) rfl z HRN.out ?_; go_frame)
        refine (rm_append HS3.out z.1 z.2 HAT'.out).mono ?_
        have hb3 := HS3.out.bnd
        have hR := HRR.out
        have p1 : (1 : Int) ≤ (T : Nat) := by omega
        have p2 : (T : Int) ≤ 973 := by omega
        have p3 : (K : Int) ≤ 973 := by omega
        have p4 : (R : Int) ≤ 973 := by omega
        clear hb3 hR
        rintro e w5 (⟨x, T', rfl, hx⟩ | ⟨x, c, hc0, rfl, hx⟩)
        · have HS5 := hide hx
          have hb5 := HS5.out.bnd
          have hR := HRR.out
          obtain ⟨R5, hR5⟩ := HS5.out.roomN
          have p5 : (1 : Int) ≤ (T' : Nat) := by omega
          have p6 : ((T' : Nat) : Int) ≤ 973 := by omega
          have p7 : ((R5 : Int) != (R : Int) - ((T' : Int) - (T : Int))) = false := by simp; omega
          have HR5 := hide hR5
          clear hx HRN HAT' hb5 hR hR5
          go_wp2_with fail
          refine (rm_roomN HS5.out R5 HR5.out).mono ?_
          rintro e w6 ⟨rfl, hx⟩
          have HS6 := hide hx
          clear hx
          go_wp2_with fail
          refine (rm_tail HS6.out).mono ?_
          rintro e w7 ⟨rfl, hw7⟩
          obtain rfl := hw7.symm
          clear hw7
          clear hca hcn
          have hbd := HS6.out.bnd
          obtain ⟨R9, hR9⟩ := HS6.out.roomN
          have q1 : (1 : Int) ≤ (T' : Nat) := by omega
          have q2 : ((T' : Nat) : Int) ≤ 973 := by omega
          have q3 : (R9 : Int) ≤ 973 := by omega
          have q4 : ((R9 : Int) != 972 - ((T' : Int) - 1) - (K : Int)) = false := by simp; omega
          have q5 : ¬ (R9 : Int) < 0 := by omega
          have HR9 := hide hR9
          clear hbd hR9
          go_wp2_with fail
          refine (rm_roomN HS6.out R9 HR9.out).mono ?_
          rintro e w11 ⟨rfl, hx11⟩
          have HS11 := hide hx11
          clear hx11
          go_wp2_with fail
          refine (rm_roomN HS11.out R9 HR9.out).mono ?_
          rintro e w12 ⟨rfl, hx12⟩
          have HS12 := hide hx12
          clear hx12
          go_wp2_with fail
          refine (rm_tail HS12.out).mono ?_
          rintro e w13 ⟨rfl, hw13⟩
          obtain rfl := hw13.symm
          clear hw13
          go_wp2_with fail
          refine (rm_start HS12.out).mono ?_
          rintro e w14 ⟨rfl, hw14⟩
          obtain rfl := hw14.symm
          clear hw14
          go_wp2_with fail
          go_roundw
          case rel => exact ⟨i + 1, _, K, by omega, by go_num, rfl, HS12⟩
          case measure => simp [intOf]; omega
        · have HS5 := hide hx
          have p7 : ((R : Int) != (R : Int) - ((T : Int) - (T : Int))) = false := by simp
          have hc1 : (c != 0) = true := by simpa using hc0
          clear hx HRN HAT'
          go_wp2_with fail
          refine (rm_tail HS5.out).mono ?_
          rintro e w6 ⟨rfl, hw6⟩
          obtain rfl := hw6.symm
          clear hw6
          go_wp2_with fail
          refine (rm_roomN HS5.out R HRR.out).mono ?_
          rintro e w6 ⟨rfl, hx⟩
          have HS6 := hide hx
          clear hx
          go_wp2_with fail
          refine (rm_tail HS6.out).mono ?_
          rintro e w7 ⟨rfl, hw7⟩
          obtain rfl := hw7.symm
          clear hw7
          clear hca hcn
          have hbd := HS6.out.bnd
          obtain ⟨R9, hR9⟩ := HS6.out.roomN
          have q1 : (1 : Int) ≤ (T : Nat) := by omega
          have q2 : ((T : Nat) : Int) ≤ 973 := by omega
          have q3 : (R9 : Int) ≤ 973 := by omega
          have q4 : ((R9 : Int) != 972 - ((T : Int) - 1) - (K : Int)) = false := by simp; omega
          have q5 : ¬ (R9 : Int) < 0 := by omega
          have HR9 := hide hR9
          clear hbd hR9
          go_wp2_with fail
          refine (rm_roomN HS6.out R9 HR9.out).mono ?_
          rintro e w11 ⟨rfl, hx11⟩
          have HS11 := hide hx11
          clear hx11
          go_wp2_with fail
          refine (rm_roomN HS11.out R9 HR9.out).mono ?_
          rintro e w12 ⟨rfl, hx12⟩
          have HS12 := hide hx12
          clear hx12
          go_wp2_with fail
          refine (rm_tail HS12.out).mono ?_
          rintro e w13 ⟨rfl, hw13⟩
          obtain rfl := hw13.symm
          clear hw13
          go_wp2_with fail
          refine (rm_start HS12.out).mono ?_
          rintro e w14 ⟨rfl, hw14⟩
          obtain rfl := hw14.symm
          clear hw14
          go_wp2_with fail
          go_roundw
          case rel => exact ⟨i + 1, _, K, by omega, by go_num, rfl, HS12⟩
          case measure => simp [intOf]; omega
      · have h0b : (ask == 0) = false := by simpa using h0
        clear h0
        have hb3 := HS3.out.bnd
        have hR := HRR.out
        have p1 : (1 : Int) ≤ (T : Nat) := by omega
        have p2 : (T : Int) ≤ 973 := by omega
        have p3 : (K : Int) ≤ 973 := by omega
        have p4 : (R : Int) ≤ 973 := by omega
        have p5 : (K : Int) + (R : Int) ≤ 973 := by omega
        clear hb3 hR HRN HAT'
        by_cases h1 : ask = 1
        · subst h1
          clear h0b
          by_cases hn : num < 0
          · go_wp2_with fail
            refine (rm_reserve_neg HS3.out num hn).mono ?_
            rintro e w5 ⟨rfl, hx⟩
            have HS5 := hide hx
            clear hx
            clear hca hcn
            have hbd := HS5.out.bnd
            obtain ⟨R9, hR9⟩ := HS5.out.roomN
            have q1 : (1 : Int) ≤ (T : Nat) := by omega
            have q2 : ((T : Nat) : Int) ≤ 973 := by omega
            have q3 : (R9 : Int) ≤ 973 := by omega
            have q4 : ((R9 : Int) != 972 - ((T : Int) - 1) - (K : Int)) = false := by simp; omega
            have q5 : ¬ (R9 : Int) < 0 := by omega
            have HR9 := hide hR9
            clear hbd hR9
            go_wp2_with fail
            refine (rm_roomN HS5.out R9 HR9.out).mono ?_
            rintro e w11 ⟨rfl, hx11⟩
            have HS11 := hide hx11
            clear hx11
            go_wp2_with fail
            refine (rm_roomN HS11.out R9 HR9.out).mono ?_
            rintro e w12 ⟨rfl, hx12⟩
            have HS12 := hide hx12
            clear hx12
            go_wp2_with fail
            refine (rm_tail HS12.out).mono ?_
            rintro e w13 ⟨rfl, hw13⟩
            obtain rfl := hw13.symm
            clear hw13
            go_wp2_with fail
            refine (rm_start HS12.out).mono ?_
            rintro e w14 ⟨rfl, hw14⟩
            obtain rfl := hw14.symm
            clear hw14
            go_wp2_with fail
            go_roundw
            case rel => exact ⟨i + 1, _, K, by omega, by go_num, rfl, HS12⟩
            case measure => simp [intOf]; omega
          · by_cases hn2 : (R : Int) < num
            · go_wp2_with fail
              refine (rm_reserve_full HS3.out num (by have := HRR.out; omega)).mono ?_
              rintro e w5 ⟨rfl, hx⟩
              have HS5 := hide hx
              clear hx
              clear hca hcn
              have hbd := HS5.out.bnd
              obtain ⟨R9, hR9⟩ := HS5.out.roomN
              have q1 : (1 : Int) ≤ (T : Nat) := by omega
              have q2 : ((T : Nat) : Int) ≤ 973 := by omega
              have q3 : (R9 : Int) ≤ 973 := by omega
              have q4 : ((R9 : Int) != 972 - ((T : Int) - 1) - (K : Int)) = false := by simp; omega
              have q5 : ¬ (R9 : Int) < 0 := by omega
              have HR9 := hide hR9
              clear hbd hR9
              go_wp2_with fail
              refine (rm_roomN HS5.out R9 HR9.out).mono ?_
              rintro e w11 ⟨rfl, hx11⟩
              have HS11 := hide hx11
              clear hx11
              go_wp2_with fail
              refine (rm_roomN HS11.out R9 HR9.out).mono ?_
              rintro e w12 ⟨rfl, hx12⟩
              have HS12 := hide hx12
              clear hx12
              go_wp2_with fail
              refine (rm_tail HS12.out).mono ?_
              rintro e w13 ⟨rfl, hw13⟩
              obtain rfl := hw13.symm
              clear hw13
              go_wp2_with fail
              refine (rm_start HS12.out).mono ?_
              rintro e w14 ⟨rfl, hw14⟩
              obtain rfl := hw14.symm
              clear hw14
              go_wp2_with fail
              go_roundw
              case rel => exact ⟨i + 1, _, K, by omega, by go_num, rfl, HS12⟩
              case measure => simp [intOf]; omega
            · obtain ⟨n, rfl⟩ : ∃ n : Nat, num = (n : Int) := ⟨num.toNat, by omega⟩
              have n3 : (n : Int) ≤ 973 := by omega
              clear n1 n2
              go_wp2_with fail
              refine (rm_res HS3.out n (by have := HRR.out; omega)).mono ?_
              rintro e w5 ⟨rfl, K2, hK2, hx⟩
              have HK2 := hide hK2
              clear hK2
              have HS5 := hide hx
              clear hx
              clear hca hcn
              have hbd := HS5.out.bnd
              obtain ⟨R9, hR9⟩ := HS5.out.roomN
              have q1 : (1 : Int) ≤ (T : Nat) := by omega
              have q2 : ((T : Nat) : Int) ≤ 973 := by omega
              have q3 : (R9 : Int) ≤ 973 := by omega
              have q4 : ((R9 : Int) != 972 - ((T : Int) - 1) - ((K : Int) + (n : Int))) = false := by have hK2 := HK2.out; simp; omega
              have q5 : ¬ (R9 : Int) < 0 := by omega
              have HR9 := hide hR9
              clear hbd hR9
              go_wp2_with fail
              refine (rm_roomN HS5.out R9 HR9.out).mono ?_
              rintro e w11 ⟨rfl, hx11⟩
              have HS11 := hide hx11
              clear hx11
              go_wp2_with fail
              refine (rm_roomN HS11.out R9 HR9.out).mono ?_
              rintro e w12 ⟨rfl, hx12⟩
              have HS12 := hide hx12
              clear hx12
              go_wp2_with fail
              refine (rm_tail HS12.out).mono ?_
              rintro e w13 ⟨rfl, hw13⟩
              obtain rfl := hw13.symm
              clear hw13
              go_wp2_with fail
              refine (rm_start HS12.out).mono ?_
              rintro e w14 ⟨rfl, hw14⟩
              obtain rfl := hw14.symm
              clear hw14
              go_wp2_with fail
              go_roundw
              case rel => exact ⟨i + 1, _, K2, by omega, by go_num, by rw [HK2.out], HS12⟩
              case measure => simp [intOf]; omega
        · have h1b : (ask == 1) = false := by simpa using h1
          clear h1
          by_cases h2 : ask = 2
          · subst h2
            clear h0b h1b
            by_cases hn : num < 0
            · go_wp2_with fail
              refine (rm_release_bad HS3.out num (.inl hn)).mono ?_
              rintro e w5 ⟨rfl, hx⟩
              have HS5 := hide hx
              clear hx
              clear hca hcn
              have hbd := HS5.out.bnd
              obtain ⟨R9, hR9⟩ := HS5.out.roomN
              have q1 : (1 : Int) ≤ (T : Nat) := by omega
              have q2 : ((T : Nat) : Int) ≤ 973 := by omega
              have q3 : (R9 : Int) ≤ 973 := by omega
              have q4 : ((R9 : Int) != 972 - ((T : Int) - 1) - (K : Int)) = false := by simp; omega
              have q5 : ¬ (R9 : Int) < 0 := by omega
              have HR9 := hide hR9
              clear hbd hR9
              go_wp2_with fail
              refine (rm_roomN HS5.out R9 HR9.out).mono ?_
              rintro e w11 ⟨rfl, hx11⟩
              have HS11 := hide hx11
              clear hx11
              go_wp2_with fail
              refine (rm_roomN HS11.out R9 HR9.out).mono ?_
              rintro e w12 ⟨rfl, hx12⟩
              have HS12 := hide hx12
              clear hx12
              go_wp2_with fail
              refine (rm_tail HS12.out).mono ?_
              rintro e w13 ⟨rfl, hw13⟩
              obtain rfl := hw13.symm
              clear hw13
              go_wp2_with fail
              refine (rm_start HS12.out).mono ?_
              rintro e w14 ⟨rfl, hw14⟩
              obtain rfl := hw14.symm
              clear hw14
              go_wp2_with fail
              go_roundw
              case rel => exact ⟨i + 1, _, K, by omega, by go_num, rfl, HS12⟩
              case measure => simp [intOf]; omega
            · by_cases hn2 : (K : Int) < num
              · go_wp2_with fail
                refine (rm_release_bad HS3.out num (.inr hn2)).mono ?_
                rintro e w5 ⟨rfl, hx⟩
                have HS5 := hide hx
                clear hx
                clear hca hcn
                have hbd := HS5.out.bnd
                obtain ⟨R9, hR9⟩ := HS5.out.roomN
                have q1 : (1 : Int) ≤ (T : Nat) := by omega
                have q2 : ((T : Nat) : Int) ≤ 973 := by omega
                have q3 : (R9 : Int) ≤ 973 := by omega
                have q4 : ((R9 : Int) != 972 - ((T : Int) - 1) - (K : Int)) = false := by simp; omega
                have q5 : ¬ (R9 : Int) < 0 := by omega
                have HR9 := hide hR9
                clear hbd hR9
                go_wp2_with fail
                refine (rm_roomN HS5.out R9 HR9.out).mono ?_
                rintro e w11 ⟨rfl, hx11⟩
                have HS11 := hide hx11
                clear hx11
                go_wp2_with fail
                refine (rm_roomN HS11.out R9 HR9.out).mono ?_
                rintro e w12 ⟨rfl, hx12⟩
                have HS12 := hide hx12
                clear hx12
                go_wp2_with fail
                refine (rm_tail HS12.out).mono ?_
                rintro e w13 ⟨rfl, hw13⟩
                obtain rfl := hw13.symm
                clear hw13
                go_wp2_with fail
                refine (rm_start HS12.out).mono ?_
                rintro e w14 ⟨rfl, hw14⟩
                obtain rfl := hw14.symm
                clear hw14
                go_wp2_with fail
                go_roundw
                case rel => exact ⟨i + 1, _, K, by omega, by go_num, rfl, HS12⟩
                case measure => simp [intOf]; omega
              · obtain ⟨n, rfl⟩ : ∃ n : Nat, num = (n : Int) := ⟨num.toNat, by omega⟩
                have n3 : (n : Int) ≤ 973 := by omega
                clear n1 n2
                go_wp2_with fail
                refine (rm_rel HS3.out n (by omega)).mono ?_
                rintro e w5 ⟨rfl, K2, hK2, hx⟩
                have HK2 := hide hK2
                clear hK2
                have HS5 := hide hx
                clear hx
                clear hca hcn
                have hbd := HS5.out.bnd
                obtain ⟨R9, hR9⟩ := HS5.out.roomN
                have q1 : (1 : Int) ≤ (T : Nat) := by omega
                have q2 : ((T : Nat) : Int) ≤ 973 := by omega
                have q3 : (R9 : Int) ≤ 973 := by omega
                have q4 : ((R9 : Int) != 972 - ((T : Int) - 1) - ((K : Int) - (n : Int))) = false := by have hK2 := HK2.out; simp; omega
                have q5 : ¬ (R9 : Int) < 0 := by omega
                have HR9 := hide hR9
                clear hbd hR9
                go_wp2_with fail
                refine (rm_roomN HS5.out R9 HR9.out).mono ?_
                rintro e w11 ⟨rfl, hx11⟩
                have HS11 := hide hx11
                clear hx11
                go_wp2_with fail
                refine (rm_roomN HS11.out R9 HR9.out).mono ?_
                rintro e w12 ⟨rfl, hx12⟩
                have HS12 := hide hx12
                clear hx12
                go_wp2_with fail
                refine (rm_tail HS12.out).mono ?_
                rintro e w13 ⟨rfl, hw13⟩
                obtain rfl := hw13.symm
                clear hw13
                go_wp2_with fail
                refine (rm_start HS12.out).mono ?_
                rintro e w14 ⟨rfl, hw14⟩
                obtain rfl := hw14.symm
                clear hw14
                go_wp2_with fail
                go_roundw
                case rel => exact ⟨i + 1, _, K2, by omega, by go_num, by rw [HK2.out], HS12⟩
                case measure => simp [intOf]; omega
          · have h2b : (ask == 2) = false := by simpa using h2
            clear h2
            have hbd := HS3.out.bnd
            obtain ⟨R9, hR9⟩ := HS3.out.roomN
            have q1 : (1 : Int) ≤ (T : Nat) := by omega
            have q2 : ((T : Nat) : Int) ≤ 973 := by omega
            have q3 : (R9 : Int) ≤ 973 := by omega
            have q4 : ((R9 : Int) != 972 - ((T : Int) - 1) - (K : Int)) = false := by simp; omega
            have q5 : ¬ (R9 : Int) < 0 := by omega
            have HR9 := hide hR9
            clear hbd hR9
            go_wp2_with fail
            refine (rm_roomN HS3.out R9 HR9.out).mono ?_
            rintro e w11 ⟨rfl, hx11⟩
            clear hca hcn
            have HS11 := hide hx11
            clear hx11
            go_wp2_with fail
            refine (rm_roomN HS11.out R9 HR9.out).mono ?_
            rintro e w12 ⟨rfl, hx12⟩
            have HS12 := hide hx12
            clear hx12
            go_wp2_with fail
            refine (rm_tail HS12.out).mono ?_
            rintro e w13 ⟨rfl, hw13⟩
            obtain rfl := hw13.symm
            clear hw13
            go_wp2_with fail
            refine (rm_start HS12.out).mono ?_
            rintro e w14 ⟨rfl, hw14⟩
            obtain rfl := hw14.symm
            clear hw14
            go_wp2_with fail
            go_roundw
            case rel => exact ⟨i + 1, _, K, by omega, by go_num, rfl, HS12⟩
            case measure => simp [intOf]; omega
    · have hi2 : i = L.length := by omega
      subst hi2
      go_wp2_with fail
      refine (wawake_any _).mono ?_
      rintro e w5 ⟨rfl, ho⟩
      have HO5 := hide (o2 HS.out.only ho)
      clear ho
      go_wp2_with fail
      go_ret
      exact ⟨rfl, HO5.out⟩
end Go.Proofs.YtfkcbdiffmacgaaGreatDoor

namespace Go.Proofs.YtfkcbdiffmacgaaGreatDoor.walRoom
open Go.ChangeShapes Go.WideShapes Go.ChangeAt Go.RowKit

theorem laid_met (os : Os) : laidMet Tryz.prog Rows.walRoomRow.laid ((laidWorld os).forCall (fun _ _ => 0) ⟨#[], #[.slice none 0 0], []⟩).memory :=
  laidMet_of_run' 8 (by kernel_rfl) (by kernel_rfl)
set_option maxRecDepth 100000 in
theorem lifted (os : Os) (started : os.Started) (H : Type) (enc : TypeId × Value → H) (F : Stop.Interp) :
    ReturnsInHanded {} Tryz.checked os 3 .any ((OpenSpec.ofChange Rows.walRoomSpec).preRow enc Tryz.prog Tryz.f3 Rows.walRoomRow.domain false Rows.walRoomRow.laid) (((OpenSpec.ofChange Rows.walRoomSpec).at F).post enc Tryz.prog Tryz.f3 false true false false) := by
  refine returnsInHanded_of_row (C := Tryz.checked) (s := OpenSpec.ofChange Rows.walRoomSpec) ownKnob_none started (by kernel_rfl) Tryz.func3
    (witness_row_at (enc := enc) (C := Tryz.checked) false (laidWorld os) #[.slice none 0 0] rfl (by kernel_rfl) (by kernel_rfl) (by kernel_rfl)
      (OpenSpec.preRow_of_cond (x := ([.nil], [], [])) 8 (by kernel_rfl) (by kernel_rfl) (fun k hk => by cases hk) (by kernel_rfl) (laid_met os))) ?_
  intro W base args ds gs before hval0 hW _ _ hsz _ _ _
  have hval : ∀ (j : Nat) t v, Tryz.f3.params[j]? = some t → args[j]? = some v → Value.okWide Tryz.prog W .any base t v := hval0
  have hW' := hW
  obtain ⟨p, q, hA0, hV, rfl, hfz, hnd⟩ := hW
  have hA : DataW.TrodAll enc Tryz.prog W 0 (fun _ => true) true Tryz.f3.params.toList args.toList ds p := hA0
  rw [Tryz.params3] at hA hval hsz
  obtain ⟨v0, vs0, d0, ds0, p0, q0, hargs, rfl, rfl, h0, r0⟩ := trodAll_cons hA
  obtain ⟨rfl, rfl, rfl⟩ := trodAll_nil r0
  obtain rfl : args = #[v0] := by cases args; simp_all
  obtain ⟨rfl, rfl⟩ := trodVars_none hV
  obtain ⟨B, ao, cp, l, rfl, hat⟩ := open_wops (hval 0 22 v0 rfl rfl) h0 (sized_mem hsz (j := 0) rfl rfl)
  have lt0 : ∀ x ∈ p0, x.block < W.heap.size := fun x hx => hW'.lt x (by simp [hx])
  clear hA0 hval0
  simp only [List.append_nil] at hW'
  refine (wroom_law W B cp ao l hat).mono fun e W' ⟨he, ho⟩ => ?_
  subst he
  have bel : Below W.heap.size W W' := ho.below (Nat.le_refl _) (fun _ _ h => h)
  exact ⟨_, rfl, _, _, _, [], _, [], hW', trodAll_mk1 (shut_bool Tryz.underlying4 _), (trodAll_cons_mk (Below.trod Tryz.laidOut (by kernel_rfl) (of_decide_eq_true (by kernel_rfl)) h0 bel lt0) trodAll_mk0), rfl, bel.frame _, fun h => by cases h⟩

theorem said : Rows.WalRoomSaid :=
  OpenClaim.holds_of_cond 3 Tryz.f3 rfl rfl rfl rfl rfl rfl rfl ⟨rfl, rfl, rfl, rfl, rfl⟩ rfl rfl rfl rfl rfl (by kernel_rfl) Tryz.func3 (by kernel_rfl)
    (of_decide_eq_true (by kernel_rfl)) (by unfold Func.isWrapper; first | (rw [if_pos (by decide +kernel)]; kernel_rfl) | (rw [if_neg (by decide +kernel)]; exact ⟨rfl, rfl⟩))
    (fun os started H enc _ F => by rw [OpenClaim.pre_eq_preRow]; exact lifted os started H enc F)
theorem plain (f : FuncId) (fn : Func) (hf : Tryz.pinned.checked.prog.funcNamed "almonry/almonrylaw05.WalRoom" = some f) (hfn : Tryz.pinned.checked.prog.funcs[f]? = some fn) :
    false = Tryz.pinned.checked.prog.looks [] ∧ ∀ (j : Nat) t, fn.params[j]? = some t → Tryz.pinned.checked.prog.wantsStandIn t = false := by
  obtain rfl : f = 3 := Option.some.inj ((show Tryz.prog.funcNamed "almonry/almonrylaw05.WalRoom" = some 3 by kernel_rfl).symm.trans hf) |>.symm
  obtain rfl : fn = Tryz.f3 := (Option.some.inj (Tryz.func3.symm.trans hfn)).symm
  refine ⟨by kernel_rfl, fun j t ht => ?_⟩
  rw [Tryz.params3] at ht
  have ht' : t = 22 := by simpa using Array.mem_of_getElem? ht
  subst ht'
  exact (show Tryz.prog.wantsStandIn 22 = false by kernel_rfl)
theorem card : Rows.WalRoomCardSaid :=
  Claim7.holds_tied_plain_at .later [] _ _ _ _ said (fun _ h => by cases h) (by kernel_rfl) (fun _ h => by cases h) walRoom_row_tie rfl ⟨rfl, rfl⟩ (by kernel_rfl) rfl plain (by kernel_rfl)
end Go.Proofs.YtfkcbdiffmacgaaGreatDoor.walRoom
namespace Go.Proofs.YtfkcbdiffmacgaaGreatDoor
theorem walRoom_holds : Rows.WalRoomCardSaid := walRoom.card
#print axioms walRoom_holds
end Go.Proofs.YtfkcbdiffmacgaaGreatDoor
