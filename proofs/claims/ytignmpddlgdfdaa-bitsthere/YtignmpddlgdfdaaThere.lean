/- Walk of BitsThere. -/
import Derived.Test.YtignmpddlgdfdaaCanon
import Derived.Test.YtignmpddlgdfdaaItems
namespace Go.Proofs.Ytignmpddlgdfdaa
open Go.RowKit

/-- What Num and Text make of the state: what is taken, what is left, what is wrong. -/
def sN (z : Int) (l : List UInt8) (y : Int) : Int × List UInt8 × Int := if y = 0 then rdN z l else (0, [], y)
def sT (z : Int) (l : List UInt8) (y : Int) : List UInt8 × List UInt8 × Int := if y = 0 then rdT z l else ([], [], y)
theorem rdT_nil (z : Int) (l : List UInt8) (h : (rdT z l).2.2 ≠ 0) : (rdT z l).1 = [] ∧ (rdT z l).2.1 = [] := by
  unfold rdT at h ⊢
  split
  · split
    · exact ⟨rfl, rfl⟩
    · rename_i h1 h2
      rw [if_pos h1, if_neg h2] at h
      exact absurd rfl h
  · exact ⟨rfl, rfl⟩
theorem rdN_zero (z : Int) (l : List UInt8) (h : (rdN z l).2.2 ≠ 0) : (rdN z l).1 = 0 ∧ (rdN z l).2.1 = [] := by
  rcases rd_cases l 0 0 (by omega) (by omega) (by decide) with h' | h' | ⟨n, k, h', h2, h3, h4, h5, h6⟩
  · rw [rdN_bad h' (by decide)]; exact ⟨rfl, rfl⟩
  · rw [rdN_bad h' (by decide)]; exact ⟨rfl, rfl⟩
  · by_cases hm : max z 0 < n
    · rw [rdN_big h' hm]; exact ⟨rfl, rfl⟩
    · rw [rdN_ok h' hm] at h; simp at h
/-- What was laid of what was taken: 'k' calls. -/
structure Laid (all l left : List UInt8) (y : Int) (k : Nat) : Prop where
  ok : y = 0 → l ++ left = all
  bad : y ≠ 0 → left = []
  len : l.length + left.length ≤ all.length + k
theorem Laid.num {all l left : List UInt8} {y : Int} {k : Nat} (h : Laid all l left y k) (z : Int) : Laid all (l ++ sev (sN z left y).1.toNat) (sN z left y).2.1 (sN z left y).2.2 (k + 1) := by
  unfold sN
  by_cases hy : y = 0
  · rw [if_pos hy]
    by_cases hx : (rdN z left).2.2 = 0
    · have hc := rdN_canon z left hx
      refine ⟨fun _ => by rw [List.append_assoc, ← hc]; exact h.ok hy, fun e => absurd hx e, ?_⟩
      have e : left.length = (sev (rdN z left).1.toNat).length + (rdN z left).2.1.length := by
        conv => lhs; rw [hc]
        rw [List.length_append]
      have := h.len
      rw [List.length_append]; omega
    · obtain ⟨e1, e2⟩ := rdN_zero z left hx
      refine ⟨fun e => absurd e hx, fun _ => e2, ?_⟩
      rw [e1, e2]
      have := h.len
      have e0 : (0 : Int).toNat = 0 := rfl
      rw [e0, sev_zero]
      simp; omega
  · rw [if_neg hy]
    refine ⟨fun e => absurd e hy, fun _ => rfl, ?_⟩
    have := h.len
    have e0 : (0 : Int).toNat = 0 := rfl
    show (l ++ sev (0 : Int).toNat).length + 0 ≤ _
    rw [e0, sev_zero]
    simp; omega
theorem Laid.text {all l left : List UInt8} {y : Int} {k : Nat} (h : Laid all l left y k) (z : Int) : Laid all (l ++ (sev (sT z left y).1.length ++ (sT z left y).1)) (sT z left y).2.1 (sT z left y).2.2 (k + 1) := by
  unfold sT
  by_cases hy : y = 0
  · rw [if_pos hy]
    by_cases hx : (rdT z left).2.2 = 0
    · have hc := rdT_canon z left hx
      refine ⟨fun _ => by rw [List.append_assoc, ← hc]; exact h.ok hy, fun e => absurd hx e, ?_⟩
      have e : left.length = (sev (rdT z left).1.length ++ (rdT z left).1).length + (rdT z left).2.1.length := by
        conv => lhs; rw [hc]
        rw [List.length_append]
      have := h.len
      rw [List.length_append]; omega
    · obtain ⟨e1, e2⟩ := rdT_nil z left hx
      refine ⟨fun e => absurd e hx, fun _ => e2, ?_⟩
      rw [e1, e2]
      have := h.len
      rw [List.length_nil, sev_zero]
      simp; omega
  · rw [if_neg hy]
    refine ⟨fun e => absurd e hy, fun _ => rfl, ?_⟩
    have := h.len
    show (l ++ (sev (0 : Nat) ++ [])).length + 0 ≤ _
    rw [sev_zero]
    simp; omega
/-- Num of a Reader, whatever its state. -/
theorem p_num {w W : World} {b r : Nat} {row : Option Nat} {l left : List UInt8} {y : Int} (z : Int) (h : Pair w W b r row l ⟨left.toArray⟩ y) (hn : y ≠ 0 → left = []) :
    Calls Try.prog 23 #[.pointer (some ⟨r, 0, none⟩), .int .i64 z] W fun e w' => e = .returned (.int .i64 (sN z left y).1) ∧ Pair w w' b r row l ⟨(sN z left y).2.1.toArray⟩ (sN z left y).2.2 := by
  unfold sN
  by_cases hy : y = 0
  · rw [if_pos hy]
    have hr := h.rd
    rw [hy] at hr
    refine (rnum_any W r _ z hr).mono ?_
    rintro e w' ⟨he, h1, h2⟩
    exact ⟨he, h.take h1 h2⟩
  · rw [if_neg hy]
    refine (rnum_err W r y z h.rd.c1 (by simpa using hy)).mono ?_
    rintro e w' ⟨he, rfl⟩
    rw [hn hy] at h
    exact ⟨he, h⟩
theorem p_text {w W : World} {b r : Nat} {row : Option Nat} {l left : List UInt8} {y : Int} (z : Int) (h : Pair w W b r row l ⟨left.toArray⟩ y) (hn : y ≠ 0 → left = []) :
    Calls Try.prog 25 #[.pointer (some ⟨r, 0, none⟩), .int .i64 z] W fun e w' => e = .returned (.string ⟨(sT z left y).1.toArray⟩) ∧ Pair w w' b r row l ⟨(sT z left y).2.1.toArray⟩ (sT z left y).2.2 := by
  unfold sT
  by_cases hy : y = 0
  · rw [if_pos hy]
    have hr := h.rd
    rw [hy] at hr
    refine (rtext_any W r _ z hr).mono ?_
    rintro e w' ⟨he, h1, h2⟩
    exact ⟨he, h.take h1 h2⟩
  · rw [if_neg hy]
    refine (rtext_err W r y z h.rd.c1 (by simpa using hy)).mono ?_
    rintro e w' ⟨he, rfl⟩
    rw [hn hy] at h
    exact ⟨he, h⟩
theorem sN_bd (z : Int) (l : List UInt8) (y : Int) : 0 ≤ (sN z l y).1 ∧ (sN z l y).1 < 9223372036854775808 := by
  unfold sN
  split
  · have := rdN_facts z l; omega
  · exact ⟨by simp, by simp⟩
/-- A number that was made is laid. -/
theorem p_lay {w W : World} {b r : Nat} {row : Option Nat} {l : List UInt8} {s : ByteArray} {y : Int} (z : Int) (h : Pair w W b r row l s y) (hz : z < 9223372036854775808) (hl : l.length + 20 ≤ 158329674399744) :
    Calls Try.prog 17 #[.pointer (some ⟨b, 0, none⟩), .slice (some ⟨W.heap.size, 0, none⟩) 1 1] (W.alloc (.cells #[.int .i64 z] 3)) fun e w' => e = .returned (.tuple #[]) ∧ ∃ row', Pair w w' b r row' (l ++ sev z.toNat) s y := by
  refine (wnum_one W b row l z h.wr hz hl).mono ?_
  rintro e w' ⟨he, row', h1, h2⟩
  exact ⟨he, row', h.lay h1 h2⟩
theorem p_layText {w W : World} {b r : Nat} {row : Option Nat} {l t : List UInt8} {s : ByteArray} {y : Int} (h : Pair w W b r row l s y) (hl : l.length + t.length + 30 ≤ 158329674399744) :
    Calls Try.prog 19 #[.pointer (some ⟨b, 0, none⟩), .string ⟨t.toArray⟩] W fun e w' => e = .returned (.tuple #[]) ∧ ∃ row', Pair w w' b r row' (l ++ (sev t.length ++ t)) s y := by
  refine (wtext_any W b row l ⟨t.toArray⟩ h.wr hl).mono ?_
  rintro e w' ⟨he, row', h1, h2⟩
  exact ⟨he, row', h.lay h1 h2⟩
theorem there_start (w : World) (s : ByteArray) : Pair w ((w.alloc (.cells #[.string s, .int .i64 0] 61)).alloc (.cells #[.slice none 0 0] 58)) (w.heap.size + 1) w.heap.size none [] ⟨s.data.toList.toArray⟩ 0 := by
  have h := Wr.new (w.alloc (.cells #[.string s, .int .i64 0] 61))
  have e : (w.alloc (.cells #[.string s, .int .i64 0] 61)).heap.size = w.heap.size + 1 := by simp
  rw [e] at h
  exact ⟨h, (Rd.new w s).alloc _, (Only.alloc _ _ _).trans (Only.alloc _ _ _) (fun _ _ h => h) (T := fun _ => False), by omega, by simp, by simp, by omega, Nat.le_refl _⟩

set_option maxRecDepth 100000 in
set_option maxHeartbeats 1600000 in
theorem there_walk (s : ByteArray) (a : Option Addr) (len cap : Nat) (K N : Nat → Int) (S : Nat → ByteArray) (w : World) (hs : s.size + len + 100 ≤ 158329674399744) (hI : Its w a len K N S) :
    Calls Try.prog 8 #[.string s, .slice a len cap] w fun e w' => e = .returned (.bool true) ∧ Below w.heap.size w w' := by
  have HI := hide hI
  clear hI
  go_enter Try.func8, Try.ntmps8
  go_wp2_with fail
  refine (read_any _ _).mono ?_
  rintro e w1 ⟨rfl, rfl⟩
  go_wp2_with fail
  refine (new_any _).mono ?_
  rintro e w1 ⟨rfl, rfl⟩
  go_wp2_with fail
  go_loopw [7] (fun i wr => ∃ (k : Nat) (row : Option Nat) (l left : List UInt8) (y : Int), k ≤ len ∧ i = .int .i64 k ∧ Hid (Pair w wr (w.heap.size + 1) w.heap.size row l ⟨left.toArray⟩ y) ∧ Hid (Laid s.data.toList l left y k))
    (fun i _ => len - (intOf i).toNat)
  case atStart => exact ⟨0, none, [], s.data.toList, 0, Nat.zero_le _, rfl, there_start w s, ⟨fun _ => rfl, fun h => absurd rfl h, by simp⟩⟩
  case round =>
    obtain ⟨k, row, l, left, y, hk, rfl, HP, HL⟩ := hrel
    have hll : l.length ≤ s.size + k := by have h := HL.out.len; simp at h; omega
    by_cases hlt : k < len
    · obtain ⟨b, off, rfl, hbl, hc0, hc1, hc2, hK0, hK1, hN0, hN1, hS⟩ := HI.out k hlt
      have hon := HP.out.only
      have d0 := (hon.cell (p := ⟨b, off + k * 3, none⟩) hbl (fun h => h)).trans hc0
      have d1 := (hon.cell (p := ⟨b, off + k * 3 + 1, none⟩) hbl (fun h => h)).trans hc1
      clear hc0 hc1 hc2 hon
      obtain ⟨kk, hkk⟩ : ∃ kk, K k = kk := ⟨_, rfl⟩
      rw [hkk] at d0 hK0 hK1
      obtain ⟨nn, hnn⟩ : ∃ nn, N k = nn := ⟨_, rfl⟩
      rw [hnn] at d1 hN0 hN1
      clear hkk hnn
      by_cases h0 : kk % 3 = 0
      · have h0' : (kk % 3 == 0) = true := by simpa using h0
        clear h0
        go_wp2_with fail
        refine (p_num nn HP.out HL.out.bad).mono ?_
        rintro e w2 ⟨rfl, hp2⟩
        have hL2 := HL.out.num nn
        have hbd := sN_bd nn left y
        have HX := hide (And.intro hp2 hL2)
        clear hp2 hL2
        generalize sN nn left y = q at *
        obtain ⟨v, left', y'⟩ := q
        simp only at hbd
        go_wp2_with fail
        refine (p_lay v (unhide HX).1 hbd.2 (by omega)).mono ?_
        rintro e w3 ⟨rfl, row3, hp3⟩
        have HP3 := hide hp3
        clear hp3
        go_wp2_with fail
        go_roundw
        case rel => exact ⟨k + 1, row3, _, _, _, by omega, by go_num, HP3, (unhide HX).2⟩
        case measure => simp [intOf]; omega
      · by_cases h1 : kk % 3 = 1
        · have h0' : (kk % 3 == 0) = false := by simpa using h0
          have h1' : (kk % 3 == 1) = true := by simpa using h1
          clear h0 h1
          go_wp2_with fail
          refine (p_text nn HP.out HL.out.bad).mono ?_
          rintro e w2 ⟨rfl, hp2⟩
          have hL2 := HL.out.text nn
          have HX := hide (And.intro hp2 hL2)
          clear hp2 hL2
          generalize sT nn left y = q at *
          obtain ⟨v, left', y'⟩ := q
          have hlv : l.length + v.length ≤ s.size + k + 1 := by
            have h := (unhide HX).2.len
            simp at h
            omega
          go_wp2_with fail
          refine (p_layText (unhide HX).1 (by omega)).mono ?_
          rintro e w3 ⟨rfl, row3, hp3⟩
          have HP3 := hide hp3
          clear hp3
          go_wp2_with fail
          go_roundw
          case rel => exact ⟨k + 1, row3, _, _, _, by omega, by go_num, HP3, (unhide HX).2⟩
          case measure => simp [intOf]; omega
        · have h0' : (kk % 3 == 0) = false := by simpa using h0
          have h1' : (kk % 3 == 1) = false := by simpa using h1
          clear h0 h1
          go_wp2_with fail
          go_roundw
          case rel => exact ⟨k + 1, row, l, left, y, by omega, by go_num, HP, ⟨HL.out.ok, HL.out.bad, by have := HL.out.len; omega⟩⟩
          case measure => simp [intOf]; omega
    · go_wp2_with fail
      refine (awake_any _).mono ?_
      rintro e w3 ⟨rfl, ho3⟩
      have HP3 := hide (HP.out.more ho3)
      clear ho3
      go_wp2_with fail
      by_cases hy : y = 0
      · subst hy
        by_cases hz : left = []
        · subst hz
          have e := HL.out.ok rfl
          rw [List.append_nil] at e
          refine (rend_ok _ _ _ HP3.out.rd.c1 HP3.out.rd.c0).mono ?_
          rw [if_pos (show (⟨([] : List UInt8).toArray⟩ : ByteArray).size = 0 from rfl)]
          rintro e4 w4 ⟨rfl, rfl⟩
          have HE := hide e
          clear e
          go_wp2_with fail
          refine (wbytes_any _ _ _ _ HP3.out.wr).mono ?_
          rw [HE.out]
          rintro e5 w5 ⟨rfl, rfl⟩
          go_wp2_with fail
          go_ret
          exact ⟨rfl, HP3.out.only.below (Nat.le_refl _) (fun _ _ h => h)⟩
        · have hne : ¬ (⟨left.toArray⟩ : ByteArray).size = 0 := by
            intro e
            exact hz (List.eq_nil_of_length_eq_zero e)
          refine (rend_ok _ _ _ HP3.out.rd.c1 HP3.out.rd.c0).mono ?_
          rw [if_neg hne]
          rintro e4 w4 ⟨rfl, rfl⟩
          go_wp2_with fail
          go_ret
          exact ⟨rfl, HP3.out.only.below (Nat.le_refl _) (fun _ _ h => h)⟩
      · have hy1 : (y != 0) = true := by simpa using hy
        refine (rend_err _ _ y HP3.out.rd.c1 hy1).mono ?_
        rintro e4 w4 ⟨rfl, rfl⟩
        clear hy
        go_wp2_with fail
        go_ret
        exact ⟨rfl, HP3.out.only.below (Nat.le_refl _) (fun _ _ h => h)⟩
end Go.Proofs.Ytignmpddlgdfdaa
