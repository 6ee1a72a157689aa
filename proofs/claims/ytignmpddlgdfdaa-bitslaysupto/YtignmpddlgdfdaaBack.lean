/- Walk of BitsBack. -/
import Derived.Test.YtignmpddlgdfdaaCanon
import Derived.Test.YtignmpddlgdfdaaItems
import Derived.Deep.RegionWith
import Derived.Deep.DeepCutAuto
import Derived.Deep.LoopGhost
namespace Go.Proofs.Ytignmpddlgdfdaa
open Go.RowKit

/-- An item's bytes. -/
def itemBytes (k n : Int) (s : ByteArray) : List UInt8 := if k % 3 = 0 then sev n.toNat else if k % 3 = 1 then sev s.size ++ s.data.toList else []
def allItems (len : Nat) (K N : Nat → Int) (S : Nat → ByteArray) : List (List UInt8) := (List.range len).map fun i => itemBytes (K i) (N i) (S i)
/-- The bytes of the first k items, and of the others. -/
def encTo (len : Nat) (K N : Nat → Int) (S : Nat → ByteArray) (k : Nat) : List UInt8 := ((allItems len K N S).take k).flatten
def encFrom (len : Nat) (K N : Nat → Int) (S : Nat → ByteArray) (k : Nat) : List UInt8 := ((allItems len K N S).drop k).flatten
theorem encTo_succ (len : Nat) (K N : Nat → Int) (S : Nat → ByteArray) (k : Nat) (h : k < len) : encTo len K N S (k + 1) = encTo len K N S k ++ itemBytes (K k) (N k) (S k) := by
  unfold encTo
  have hl : k < (allItems len K N S).length := by simp [allItems, h]
  rw [List.take_succ_eq_append_getElem hl, List.flatten_append]
  simp [allItems]
theorem encFrom_succ (len : Nat) (K N : Nat → Int) (S : Nat → ByteArray) (k : Nat) (h : k < len) : encFrom len K N S k = itemBytes (K k) (N k) (S k) ++ encFrom len K N S (k + 1) := by
  unfold encFrom
  have hl : k < (allItems len K N S).length := by simp [allItems, h]
  rw [List.drop_eq_getElem_cons hl, List.flatten_cons]
  simp [allItems]
theorem encFrom_end (len : Nat) (K N : Nat → Int) (S : Nat → ByteArray) (k : Nat) (h : ¬ k < len) : encFrom len K N S k = [] := by
  unfold encFrom
  rw [List.drop_of_length_le (by simp [allItems]; omega)]
  rfl
theorem enc_all (len : Nat) (K N : Nat → Int) (S : Nat → ByteArray) (k : Nat) (h : ¬ k < len) : encTo len K N S k = encFrom len K N S 0 := by
  unfold encTo encFrom
  rw [List.take_of_length_le (by simp [allItems]; omega)]
  rfl

/-- A Writer in block b, made since w. -/
structure One (w w' : World) (b : Nat) (row : Option Nat) (l : List UInt8) : Prop where
  wr : Wr w' b row l
  only : Only (fun _ => False) w w'
  bGe : w.heap.size ≤ b
  rowGe : ∀ k, row = some k → w.heap.size ≤ k
theorem One.lay {w w1 w2 : World} {b : Nat} {row row2 : Option Nat} {l l2 : List UInt8} (h : One w w1 b row l) (hW : Wr w2 b row2 l2) (hg : WGro w1 w2 b row row2) : One w w2 b row2 l2 := by
  have hs := h.only.size
  refine ⟨hW, h.only.trans hg.only ?_, h.bGe, ?_⟩
  · rintro i hi (e | e)
    · have := h.bGe; omega
    · have := h.rowGe i e.symm; omega
  · rcases hg.new with e | ⟨g, e, hg2⟩
    · rw [e]; exact h.rowGe
    · rw [e]; intro k e2; injection e2 with e2; omega
theorem o_lay {w W : World} {b : Nat} {row : Option Nat} {l : List UInt8} (z : Int) (h : One w W b row l) (hz : z < 9223372036854775808) (hl : l.length + 20 ≤ 158329674399744) :
    Calls Try.prog 17 #[.pointer (some ⟨b, 0, none⟩), .slice (some ⟨W.heap.size, 0, none⟩) 1 1] (W.alloc (.cells #[.int .i64 z] 3)) fun e w' => e = .returned (.tuple #[]) ∧ ∃ row', One w w' b row' (l ++ sev z.toNat) := by
  refine (wnum_one W b row l z h.wr hz hl).mono ?_
  rintro e w' ⟨he, row', h1, h2⟩
  exact ⟨he, row', h.lay h1 h2⟩
theorem o_layText {w W : World} {b : Nat} {row : Option Nat} {l : List UInt8} {s : ByteArray} (h : One w W b row l) (hl : l.length + s.size + 30 ≤ 158329674399744) :
    Calls Try.prog 19 #[.pointer (some ⟨b, 0, none⟩), .string s] W fun e w' => e = .returned (.tuple #[]) ∧ ∃ row', One w w' b row' (l ++ (sev s.size ++ s.data.toList)) := by
  refine (wtext_any W b row l s h.wr hl).mono ?_
  rintro e w' ⟨he, row', h1, h2⟩
  exact ⟨he, row', h.lay h1 h2⟩
/-- A Reader in block r, made since w, with nothing wrong. -/
structure Got (w w' : World) (r : Nat) (l : List UInt8) : Prop where
  rd : Rd w' r ⟨l.toArray⟩ 0
  only : Only (fun _ => False) w w'
  rGe : w.heap.size ≤ r
theorem Got.take {w w1 w2 : World} {r : Nat} {l l2 : List UInt8} (h : Got w w1 r l) (hR : Rd w2 r ⟨l2.toArray⟩ 0) (ho : Only (fun k => k = r) w1 w2) : Got w w2 r l2 :=
  ⟨hR, h.only.trans ho (fun i hi e => by subst e; have := h.rGe; omega), h.rGe⟩
theorem Got.more {w w1 w2 : World} {r : Nat} {l : List UInt8} (h : Got w w1 r l) (ho : Only (fun _ => False) w1 w2) : Got w w2 r l :=
  ⟨h.rd.kept ho (fun h => h), h.only.trans ho (fun _ _ h => h), h.rGe⟩
theorem g_num {w W : World} {r : Nat} {rest : List UInt8} (m : Nat) (hm : m < 9223372036854775808) (h : Got w W r (sev m ++ rest)) :
    Calls Try.prog 23 #[.pointer (some ⟨r, 0, none⟩), .int .i64 (m : Int)] W fun e w' => e = .returned (.int .i64 (m : Int)) ∧ Got w w' r rest := by
  have hc := rnum_any W r _ (m : Int) h.rd
  have e : (⟨(sev m ++ rest).toArray⟩ : ByteArray).data.toList = sev m ++ rest := rfl
  rw [e, rdN_sev m rest hm] at hc
  refine hc.mono ?_
  rintro e w' ⟨he, h1, h2⟩
  exact ⟨he, h.take h1 h2⟩
theorem g_text {w W : World} {r : Nat} {rest : List UInt8} (s : ByteArray) (hm : s.size < 9223372036854775808) (h : Got w W r ((sev s.size ++ s.data.toList) ++ rest)) :
    Calls Try.prog 25 #[.pointer (some ⟨r, 0, none⟩), .int .i64 (s.size : Int)] W fun e w' => e = .returned (.string s) ∧ Got w w' r rest := by
  have hl : s.data.toList.length = s.size := by rw [Array.length_toList]; rfl
  have hc := rtext_any W r _ (s.size : Int) h.rd
  have e : (⟨((sev s.size ++ s.data.toList) ++ rest).toArray⟩ : ByteArray).data.toList = (sev s.size ++ s.data.toList) ++ rest := rfl
  have e2 := rdT_sev s.data.toList rest (by omega)
  rw [hl] at e2
  rw [e, e2] at hc
  refine hc.mono ?_
  rintro e w' ⟨he, h1, h2⟩
  exact ⟨he, h.take h1 h2⟩

set_option maxRecDepth 100000 in
set_option maxHeartbeats 1600000 in
theorem back_walk (a : Option Addr) (len cap : Nat) (K N : Nat → Int) (S : Nat → ByteArray) (w : World) (hlen : len ≤ maxLen) (hT : ∀ k, k ≤ len → (encTo len K N S k).length + 100 ≤ 158329674399744) (hI : Its w a len K N S) :
    Calls Try.prog 7 #[.slice a len cap] w fun e w' => e = .returned (.bool true) ∧ Below w.heap.size w w' := by
  have HI := hide hI
  have HT := hide hT
  clear hI hT
  unfold maxLen at hlen
  go_enter Try.func7, Try.ntmps7
  go_wp2_with fail
  refine (new_any _).mono ?_
  rintro e w1 ⟨rfl, rfl⟩
  go_wp2_with fail
  go_loopw [4] (fun i wr => ∃ (k : Nat) (row : Option Nat), k ≤ len ∧ i = .int .i64 k ∧ Hid (One w wr w.heap.size row (encTo len K N S k)))
    (fun i _ => len - (intOf i).toNat)
  case atStart => exact ⟨0, none, Nat.zero_le _, rfl, ⟨Wr.new w, Only.alloc _ _ _, Nat.le_refl _, by simp⟩⟩
  case round =>
    obtain ⟨k, row, hk, rfl, HP⟩ := hrel
    by_cases hlt : k < len
    · obtain ⟨b, off, rfl, hbl, hc0, hc1, hc2, hK0, hK1, hN0, hN1, hS⟩ := HI.out k hlt
      have hon := HP.out.only
      have d0 := (hon.cell (p := ⟨b, off + k * 3, none⟩) hbl (fun h => h)).trans hc0
      have d1 := (hon.cell (p := ⟨b, off + k * 3 + 1, none⟩) hbl (fun h => h)).trans hc1
      have d2 := (hon.cell (p := ⟨b, off + k * 3 + 2, none⟩) hbl (fun h => h)).trans hc2
      have hES := encTo_succ len K N S k hlt
      have hb1 := HT.out k hk
      have hb2 := HT.out (k + 1) (by omega)
      rw [hES, List.length_append] at hb2
      have HES := hide hES
      clear hc0 hc1 hc2 hon hES
      generalize encTo len K N S k = l at *
      obtain ⟨kk, hkk⟩ : ∃ kk, K k = kk := ⟨_, rfl⟩
      obtain ⟨nn, hnn⟩ : ∃ nn, N k = nn := ⟨_, rfl⟩
      obtain ⟨ss, hss⟩ : ∃ ss, S k = ss := ⟨_, rfl⟩
      rw [hkk, hnn, hss] at HES
      rw [hkk, hnn, hss] at hb2
      rw [hkk] at d0 hK0 hK1
      rw [hnn] at d1 hN0 hN1
      rw [hss] at d2 hS
      clear hkk hnn hss
      by_cases h0 : kk % 3 = 0
      · have h0' : (kk % 3 == 0) = true := by simpa using h0
        have hib : itemBytes kk nn ss = sev nn.toNat := by unfold itemBytes; rw [if_pos h0]
        rw [hib] at HES hb2
        clear h0 hib
        go_wp2_with fail
        refine (o_lay nn HP.out hN1 (by omega)).mono ?_
        rintro e w3 ⟨rfl, row3, hp3⟩
        have HP3 := hide hp3
        clear hp3
        go_wp2_with fail
        go_roundw
        case rel => exact ⟨k + 1, row3, by omega, by go_num, by rw [HES.out]; exact HP3⟩
        case measure => simp [intOf]; omega
      · by_cases h1 : kk % 3 = 1
        · have h0' : (kk % 3 == 0) = false := by simpa using h0
          have h1' : (kk % 3 == 1) = true := by simpa using h1
          have hib : itemBytes kk nn ss = sev ss.size ++ ss.data.toList := by unfold itemBytes; rw [if_neg h0, if_pos h1]
          rw [hib] at HES hb2
          rw [List.length_append, show ss.data.toList.length = ss.size by rw [Array.length_toList]; rfl] at hb2
          clear h0 h1 hib
          go_wp2_with fail
          refine (o_layText HP.out (by omega)).mono ?_
          rintro e w3 ⟨rfl, row3, hp3⟩
          have HP3 := hide hp3
          clear hp3
          go_wp2_with fail
          go_roundw
          case rel => exact ⟨k + 1, row3, by omega, by go_num, by rw [HES.out]; exact HP3⟩
          case measure => simp [intOf]; omega
        · have h0' : (kk % 3 == 0) = false := by simpa using h0
          have h1' : (kk % 3 == 1) = false := by simpa using h1
          have hib : itemBytes kk nn ss = [] := by unfold itemBytes; rw [if_neg h0, if_neg h1]
          rw [hib, List.append_nil] at HES
          clear h0 h1 hib
          go_wp2_with fail
          go_roundw
          case rel => exact ⟨k + 1, row, by omega, by go_num, by rw [HES.out]; exact HP⟩
          case measure => simp [intOf]; omega
    · have hEA := enc_all len K N S k hlt
      rw [hEA] at HP
      clear hEA
      go_wp2_with fail
      refine (wbytes_any _ _ _ _ HP.out.wr).mono ?_
      rintro e w2 ⟨rfl, rfl⟩
      go_wp2_with fail
      refine (read_any _ _).mono ?_
      rintro e w3 ⟨rfl, hw3⟩
      have hG : Got w w3 w2.heap.size (encFrom len K N S 0) := by
        rw [hw3]
        exact ⟨Rd.new _ _, HP.out.only.trans (Only.alloc (fun _ => False) _ _) (fun _ _ h => h), HP.out.only.size⟩
      have HG := hide hG
      clear hw3 hG HP
      generalize w2.heap.size = r at *
      go_wp2_with fail
      go_loopg [6, 7] len (fun g i _ wr => ∃ (j : Nat), j ≤ len ∧ g = len - j ∧ i = .int .i64 j ∧ Hid (Got w wr r (encFrom len K N S j)))
      case atStart => exact ⟨0, Nat.zero_le _, by omega, rfl, HG⟩
      case round =>
        obtain ⟨j, hj, hg, rfl, HP⟩ := hrel
        by_cases hjl : j < len
        · obtain ⟨b, off, rfl, hbl, hc0, hc1, hc2, hK0, hK1, hN0, hN1, hS⟩ := HI.out j hjl
          have hon := HP.out.only
          have d0 := (hon.cell (p := ⟨b, off + j * 3, none⟩) hbl (fun h => h)).trans hc0
          have d1 := (hon.cell (p := ⟨b, off + j * 3 + 1, none⟩) hbl (fun h => h)).trans hc1
          have d2 := (hon.cell (p := ⟨b, off + j * 3 + 2, none⟩) hbl (fun h => h)).trans hc2
          have hES := encFrom_succ len K N S j hjl
          rw [hES] at HP
          have HC2 := hide hc2
          clear hc0 hc1 hc2 hon hES HT
          obtain ⟨kk, hkk⟩ : ∃ kk, K j = kk := ⟨_, rfl⟩
          obtain ⟨nn, hnn⟩ : ∃ nn, N j = nn := ⟨_, rfl⟩
          obtain ⟨ss, hss⟩ : ∃ ss, S j = ss := ⟨_, rfl⟩
          rw [hkk, hnn, hss] at HP
          rw [hss] at HC2
          rw [hkk] at d0 hK0 hK1
          rw [hnn] at d1 hN0 hN1
          rw [hss] at d2 hS
          clear hkk hnn hss
          by_cases h0 : kk % 3 = 0
          · have h0' : (kk % 3 == 0) = true := by simpa using h0
            have hib : itemBytes kk nn ss = sev nn.toNat := by unfold itemBytes; rw [if_pos h0]
            rw [hib] at HP
            clear h0 hib
            by_cases hneg : nn < 0
            · have e0 : nn.toNat = 0 := by omega
              rw [e0] at HP
              clear e0
              go_wp2_with fail
              refine (g_num 0 (by omega) HP.out).mono ?_
              rintro e w4 ⟨rfl, hg4⟩
              have HG4 := hide hg4
              clear hg4
              go_wp2_with fail
              go_roundg (len - (j + 1))
              case measure => omega
              case rel => exact ⟨j + 1, by omega, rfl, by go_num, HG4⟩
            · obtain ⟨m, rfl⟩ := Int.eq_ofNat_of_zero_le (show 0 ≤ nn by omega)
              rw [Int.toNat_natCast] at HP
              go_wp2_with fail
              refine (g_num m (by omega) HP.out).mono ?_
              rintro e w4 ⟨rfl, hg4⟩
              have HG4 := hide hg4
              clear hg4
              go_wp2_with fail
              go_roundg (len - (j + 1))
              case measure => omega
              case rel => exact ⟨j + 1, by omega, rfl, by go_num, HG4⟩
          · by_cases h1 : kk % 3 = 1
            · have h0' : (kk % 3 == 0) = false := by simpa using h0
              have h1' : (kk % 3 == 1) = true := by simpa using h1
              have hib : itemBytes kk nn ss = sev ss.size ++ ss.data.toList := by unfold itemBytes; rw [if_neg h0, if_pos h1]
              rw [hib] at HP
              clear h0 h1 hib
              have hS' : ss.size < 9223372036854775808 := by unfold maxLen at hS; omega
              by_cases hneg : nn < 0
              all_goals
                go_upto_region 24 with fail
                go_cut [87] (fun t wx => t = .bool false ∧ Hid (Got w wx r (encFrom len K N S (j + 1))))
                case first =>
                  go_region_with (first
                    | (go_at_call 25; refine (g_text (w := w) (rest := encFrom len K N S (j + 1)) ss hS' ?_).mono ?_; exact HP.out.more (Only.drew _ _); rintro e W2 ⟨rfl, hH⟩; have d2' := (hH.only.cell (p := ⟨b, off + j * 3 + 2, none⟩) hbl (fun h => h)).trans HC2.out))
                  all_goals (try go_wp2_with fail)
                  all_goals go_meet
                  all_goals exact ⟨rfl, hH⟩
                case rest =>
                  obtain ⟨rfl, HG4⟩ := hcut
                  go_wp2_with fail
                  go_roundg (len - (j + 1))
                  case measure => omega
                  case rel => exact ⟨j + 1, by omega, rfl, by go_num, HG4⟩
            · have h0' : (kk % 3 == 0) = false := by simpa using h0
              have h1' : (kk % 3 == 1) = false := by simpa using h1
              have hib : itemBytes kk nn ss = [] := by unfold itemBytes; rw [if_neg h0, if_neg h1]
              rw [hib, List.nil_append] at HP
              clear h0 h1 hib
              by_cases hneg : nn < 0
              all_goals
                go_wp2_with fail
                go_roundg (len - (j + 1))
                case measure => omega
                case rel => exact ⟨j + 1, by omega, rfl, by go_num, HP⟩
        · have hEE := encFrom_end len K N S j hjl
          rw [hEE] at HP
          clear hEE
          go_wp2_with fail
          refine (awake_any _).mono ?_
          rintro e w5 ⟨rfl, ho5⟩
          have HG5 := hide (HP.out.more ho5)
          clear ho5
          go_wp2_with fail
          refine (rend_ok _ _ _ HG5.out.rd.c1 HG5.out.rd.c0).mono ?_
          rw [if_pos (show (⟨([] : List UInt8).toArray⟩ : ByteArray).size = 0 from rfl)]
          rintro e6 w6 ⟨rfl, rfl⟩
          go_wp2_with fail
          go_ret
          exact ⟨rfl, HG5.out.only.below (Nat.le_refl _) (fun _ _ h => h)⟩
end Go.Proofs.Ytignmpddlgdfdaa
